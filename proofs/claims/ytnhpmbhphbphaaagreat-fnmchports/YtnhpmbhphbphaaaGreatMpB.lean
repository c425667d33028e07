/-
  More of what runs and steps do to a machine: halves of a run, how great what is left is.
-/
import Derived.Test.YtnhpmbhphbphaaaGreatMpA
import Derived.Test.YtnhpmbhphbphaaaGreatDrawMa
namespace Go.Proofs.YtnhpmbhphbphaaaGreat.Mch
set_option linter.unusedVariables false
set_option linter.unusedSimpArgs false
open Draw (Fit2)
theorem near_run {m : M} (ok : okM m = true) (hf : Fit2 m) (irqs : List Int) {n : Nat} (hn : n ≤ 1000) : Near (runM irqs n m) := by
  obtain ⟨o, a, b⟩ := led_run irqs n m ok
  exact ⟨by rw [o.regs]; omega, by rw [o.mem]; omega, Nat.le_trans b (by have := hf.i; omega), Nat.le_trans a (by have := hf.o; omega)⟩
theorem run_of {m : M} (ok : okM m = true) (irqs : List Int) {n : Nat} (hn : n ≤ 400) : runOf m irqs (n : Int) = runM irqs n m := by
  rw [run_yes ok (by omega), Int.toNat_natCast]
theorem run_half {m : M} (ok : okM m = true) (irqs : List Int) {a b : Nat} (hn : a + b ≤ 400) : runOf (runOf m irqs (a : Int)) irqs (b : Int) = runOf m irqs ((a + b : Nat) : Int) := by
  rw [run_of ok irqs (by omega), run_of (run_ok irqs a ok) irqs (by omega), run_of ok irqs hn, run_add]
theorem run_small {m : M} (ok : okM m = true) (irqs : List Int) {n : Int} (hn : n < 1) : runOf m irqs n = m := by
  rw [run_yes ok (by omega), run_zero (by omega)]
theorem run_again {m : M} (ok : okM m = true) (h : m.halt ≠ 0) (irqs : List Int) {n : Int} (hn : n ≤ 400) : runOf m irqs n = m := by
  rw [run_yes ok hn, run_stop (fun e => h e.1)]
theorem empty_len : emptyM.regs.length = 0 ∧ emptyM.mem.length = 0 := ⟨rfl, rfl⟩
theorem near_led {m : M} (ok : okM m = true) (hf : Fit2 m) (irq : Bool) : Near (stepM m irq) := by
  obtain ⟨o, a, b⟩ := led_step ok irq
  exact ⟨by rw [o.regs]; omega, by rw [o.mem]; omega, Nat.le_trans b (by have := hf.i; omega), Nat.le_trans a (by have := hf.o; omega)⟩
theorem near_sample {m : M} (h : Near m) (irq : Bool) : Near (sampleM m irq) := by
  obtain ⟨s1, s2, s3, s4, s5, s6⟩ := sample_same m irq
  unfold Near
  rw [s1, s2, s3, s4]
  exact h
/-- What reads alone of a machine that stays. -/
theorem RMach.plain {w : World} {m : M} {r e i o : Value} (h : RMach w (mv m r e i o) m) (pc save halt count : Int) (lets waits : Bool) :
    RMach w (mv { m with pc := pc, save := save, halt := halt, count := count, lets := lets, waits := waits } r e i o) { m with pc := pc, save := save, halt := halt, count := count, lets := lets, waits := waits } := by
  obtain ⟨r', e', i', o', b1, b2, b3, b4, hc, h1, h2, h3, h4⟩ := h
  simp only [mv, List.cons.injEq, and_true, true_and] at hc
  obtain ⟨rfl, rfl, rfl, rfl⟩ := hc
  exact ⟨r, e, i, o, b1, b2, b3, b4, rfl, h1, h2, h3, h4⟩
end Go.Proofs.YtnhpmbhphbphaaaGreat.Mch
