/-
  The program's step as what the model says, and the program's MchStep.
-/
import Derived.Test.YtigaijoajbjcpaaGreatMchHH
import Derived.Test.YtigaijoajbjcpaaGreatMchCC
import Derived.Test.YtigaijoajbjcpaaGreatMchLM
namespace Go.Proofs.YtigaijoajbjcpaaGreat.Mch
open Go.ChangeShapes Go.WideShapes Go.ChangeAt Go.RowKit IntS
/-- A machine behind a pointer, as its cells. -/
theorem PM.out {A : Nat → Prop} {w : World} {Z lo : Nat} {m : M} (h : PM A w Z m) (hA : ∀ j, A j → lo ≤ j) : ∃ q1 q2 q3 q4 n1 n2 n3 n4 k1 k2 k3 k4, Box Z 26 (mv m (.slice q1 n1 k1) (.slice q2 n2 k2) (.slice q3 n3 k3) (.slice q4 n4 k4)) w ∧ WMach w lo (mv m (.slice q1 n1 k1) (.slice q2 n2 k2) (.slice q3 n3 k3) (.slice q4 n4 k4)) m := by
  obtain ⟨b1, o1, k1, b2, o2, k2, b3, o3, k3, b4, k4, hB, hC, a1, a2, a3, a4⟩ := h
  obtain ⟨r1, r2, r3, r4, _, ⟨d1, d2, d3, d4, d5, d6⟩, _⟩ := hC.parts
  obtain ⟨g, cap, hv, _, _, hr⟩ := r4.form (by simp)
  cases hv
  exact ⟨_, _, _, _, _, _, _, _, _, _, _, _, hB, ⟨_, _, _, _, b1, b2, b3, b4, rfl, r1, r2, r3, hr, hA _ a1, hA _ a2, hA _ a3, hA _ a4, d1, d2, d3, d4, d5, d6⟩⟩
theorem sample_mem (m : M) (irq : Bool) : (sampleM m irq).mem = m.mem := by unfold sampleM; split <;> rfl
theorem sample_pc (m : M) (irq : Bool) (h : 0 ≤ m.pc) : 0 ≤ (sampleM m irq).pc := by unfold sampleM; split <;> simp only [] <;> omega
end Go.Proofs.YtigaijoajbjcpaaGreat.Mch
namespace Go.Proofs.YtigaijoajbjcpaaGreat.MchI
open Go.ChangeShapes Go.WideShapes Go.ChangeAt Go.RowKit IntS Mch
theorem step_all (A : Nat → Prop) (Z D : Nat) (m : M) (irq : Bool) (w : World) (h : PM A w Z m) (ok : okM m = true) (hl9 : m.outs.length ≤ 1000000000) (lo hi : Nat) (hD : Deeds w lo hi D) (hno : ∀ j, lo ≤ j → j < hi → ¬ A j) (hZ : ¬ (lo ≤ Z ∧ Z < hi)) (hfr : ∀ j, w.heap.size ≤ j → A j) :
    Calls Tryz.prog 23 #[.pointer (some ⟨Z, 0, none⟩), .bool irq, .map (some D)] w fun e w' => e = .returned (.tuple #[]) ∧ PM A w' Z (stepM m irq) ∧ Keep (Grip A Z) w w' := by
  have OK := okM_of ok
  by_cases hs : m.halt ≠ 0 ∨ m.count = 1000000
  · refine (step_rest A Z D m irq w h (hs.imp id (fun e => by omega))).mono ?_
    rintro e w' ⟨rfl, hb⟩
    rw [step_still ok hs]
    exact ⟨rfl, h.below hb, Keep.of_below hb⟩
  · have h0 : m.halt = 0 := Classical.byContradiction fun e => hs (Or.inl e)
    have h1 : m.count ≠ 1000000 := fun e => hs (Or.inr e)
    have h1' : m.count < 1000000 := by have := OK.c; omega
    by_cases hp : 64 ≤ (sampleM m irq).pc
    · refine (step_nowhere A Z D m irq w h h0 h1' hp).mono ?_
      rintro e w' ⟨rfl, hP, hK⟩
      rw [step_place ok h0 h1 rfl hp]
      exact ⟨rfl, hP, hK⟩
    · obtain ⟨t, ht⟩ : ∃ t : Nat, (sampleM m irq).pc = t := ⟨_, (Int.toNat_of_nonneg (sample_pc m irq OK.p.1)).symm⟩
      have t64 : t < 64 := by omega
      obtain ⟨v, hv⟩ : ∃ v, m.mem[t]? = some v := ⟨_, List.getElem?_eq_getElem (by rw [OK.mem]; exact t64)⟩
      have hv2 : (sampleM m irq).mem[t]? = some v := by rw [sample_mem]; exact hv
      cases hb : Ins.takeB v with
      | false =>
        refine (step_noword A Z D m irq w h h0 h1' t ht t64 OK.mem v hv hb).mono ?_
        rintro e w' ⟨rfl, hP, hK⟩
        rw [step_word ok h0 h1 rfl hp ht hv2 hb]
        exact ⟨rfl, hP, hK⟩
      | true =>
        refine (MchI.step_do A Z D m irq w h h0 h1' t ht t64 OK.mem v hv hb OK hl9 lo hi hD hno hZ hfr).mono ?_
        rintro e w' ⟨rfl, hP, hK⟩
        rw [Mch.step_do ok h0 h1 rfl hp ht hv2 hb]
        exact ⟨rfl, hP, hK⟩
end Go.Proofs.YtigaijoajbjcpaaGreat.MchI
