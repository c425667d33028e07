/-
  Engines: machines by kinds are machines of the chapters before; an engine that keeps nothing.
-/
import Derived.Test.YtlgpnogeoaoidaaDtEn
import Derived.Test.YtlgpnogeoaoidaaMchC
namespace Go.Proofs.Ytlgpnogeoaoidaa.En
set_option linter.unusedVariables false
set_option linter.unusedSimpArgs false
open Go.ChangeShapes Go.WideShapes Go.ChangeAt Go.RowKit IntS Pol Dt Flat Irk
open Ir (Opn)
open Mch (M RMach CMach mv Mid Small okM)
abbrev T10 := List Int × Int × List Int × Int × Bool × Bool × Int × List Int × List Int × Int
abbrev T12 := List Int × Int × List Int × Int × Bool × Bool × Int × List Int × List Int × Int × List CT × List PT
def tM (m : M) : T10 := (m.regs, m.pc, m.mem, m.save, m.lets, m.waits, m.halt, m.ins, m.outs, m.count)
def tE (m : M) (cs : List CT) (ps : List PT) : T12 := (m.regs, m.pc, m.mem, m.save, m.lets, m.waits, m.halt, m.ins, m.outs, m.count, cs, ps)
theorem rd_mach {w : World} {c : List Value} {m : M} (h : machR.rd w c (tM m)) : RMach w c m := by
  obtain ⟨regs, pc, mem, save, lets, waits, halt, ins, outs, count⟩ := m
  obtain ⟨q0, c0, q2, c2, q7, c7, q8, c8, rfl, k0, k2, k7, k8⟩ := machR_rd h
  obtain ⟨b1, h1⟩ := ints_to k0
  obtain ⟨b2, h2⟩ := ints_to k2
  obtain ⟨b3, h3⟩ := ints_to k7
  obtain ⟨b4, h4⟩ := ints_to k8
  exact ⟨_, _, _, _, b1, b2, b3, b4, rfl, h1, h2, h3, h4⟩
theorem mach_rd {w : World} {c : List Value} {m : M} (h : RMach w c m) : machR.rd w c (tM m) := by
  obtain ⟨regs, pc, mem, save, lets, waits, halt, ins, outs, count⟩ := m
  obtain ⟨r, e, i, o, b1, b2, b3, b4, rfl, h1, h2, h3, h4⟩ := h
  exact machR_mk (ints_of h1) (ints_of h2) (ints_of h3) (ints_of h4)
theorem small_mach {m : M} (h : machR.sz (tM m) ≤ 1048576) : Small m := by
  obtain ⟨regs, pc, mem, save, lets, waits, halt, ins, outs, count⟩ := m
  replace h : machR.sz (regs, pc, mem, save, lets, waits, halt, ins, outs, count) ≤ 1048576 := h
  rw [machR_sz] at h
  have e := ints_sz regs
  have e2 := ints_sz mem
  have e3 := ints_sz ins
  have e4 := ints_sz outs
  exact ⟨by simp only []; omega, by simp only []; omega, by simp only []; omega, by simp only []; omega⟩
/-- A machine in blocks that a call made is one by kinds, in these. -/
theorem own_mach {w : World} {lo : Nat} {c : List Value} {m : M} (h : CMach w lo c m) : ∃ (b1 b2 b3 b4 o1 o2 o3 k1 k2 k3 k4 : Nat), c = mv m (.slice (some ⟨b1, o1, none⟩) m.regs.length k1) (.slice (some ⟨b2, o2, none⟩) m.mem.length k2) (.slice (some ⟨b3, o3, none⟩) m.ins.length k3) (.slice (some ⟨b4, 0, none⟩) m.outs.length k4) ∧
    intsK.ow w (fun b => b = b1) (.slice (some ⟨b1, o1, none⟩) m.regs.length k1) m.regs ∧ intsK.ow w (fun b => b = b2) (.slice (some ⟨b2, o2, none⟩) m.mem.length k2) m.mem ∧ intsK.ow w (fun b => b = b3) (.slice (some ⟨b3, o3, none⟩) m.ins.length k3) m.ins ∧ intsK.ow w (fun b => b = b4) (.slice (some ⟨b4, 0, none⟩) m.outs.length k4) m.outs ∧
    (lo ≤ b1 ∧ lo ≤ b2 ∧ lo ≤ b3 ∧ lo ≤ b4) ∧ (b1 < w.heap.size ∧ b2 < w.heap.size ∧ b3 < w.heap.size ∧ b4 < w.heap.size) ∧ (b1 ≠ b2 ∧ b1 ≠ b3 ∧ b1 ≠ b4 ∧ b2 ≠ b3 ∧ b2 ≠ b4 ∧ b3 ≠ b4) := by
  obtain ⟨b1, b2, b3, b4, o1, o2, o3, k1, k2, k3, k4, rfl, h1, h2, h3, h4, hl, hn, ht⟩ := h
  have hw : ∃ B, WRow w B (.slice (some ⟨b4, 0, none⟩) m.outs.length k4) m.outs ∧ B = b4 := by
    obtain ⟨g, cap, e, _, _, r⟩ := h4.form (fun e => by cases e)
    refine ⟨g, r, ?_⟩
    injection e with e1
    injection e1 with e2
    injection e2 with e3
    exact e3.symm
  obtain ⟨B, hw, rfl⟩ := hw
  have lt : ∀ {b : Nat}, IntS.IsT w b 3 → b < w.heap.size := fun h => h.lt
  exact ⟨b1, b2, b3, B, o1, o2, o3, k1, k2, k3, k4, rfl, ints_ow h1 (Or.inr rfl), ints_ow h2 (Or.inr rfl), ints_ow h3 (Or.inr rfl), ints_ow hw (Or.inr rfl), hl, ⟨lt ht.1, lt ht.2.1, lt ht.2.2.1, lt ht.2.2.2⟩, hn⟩
theorem low_nil {β : Type} (R : Rw β) (w : World) (A : Nat → Prop) : LOw R w A (.slice none ([] : List β).length 0) ([] : List β) :=
  ⟨none, 0, 0, 0, fun _ _ => False, rfl, Nat.le_refl _, by unfold maxLen; omega, fun _ => rfl, Or.inl rfl, fun i x h => by simp at h, fun i j _ _ b h _ => h.elim⟩
/-- An engine that keeps nothing. -/
def newE (m : M) : T12 := if okM m = true then tE m [] [] else ([], 0, [], 0, false, false, 0, [], [], 0, [], [])
end Go.Proofs.Ytlgpnogeoaoidaa.En
