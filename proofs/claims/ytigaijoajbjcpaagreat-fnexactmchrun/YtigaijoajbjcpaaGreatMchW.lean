/-
  The program's deeds on a machine behind a pointer: what they leave.
-/
import Derived.Test.YtigaijoajbjcpaaGreatMchT
import Derived.Test.YtigaijoajbjcpaaGreatMchL
namespace Go.Proofs.YtigaijoajbjcpaaGreat.Mch
open Go.ChangeShapes Go.WideShapes Go.ChangeAt Go.RowKit IntS
/-- A machine behind a pointer, its lists in blocks of a set. -/
structure PM (A : Nat → Prop) (w : World) (Z : Nat) (m : M) : Prop where
  ex : ∃ b1 o1 k1 b2 o2 k2 b3 o3 k3 b4 k4, Box Z 26 (mv m (.slice (some ⟨b1, o1, none⟩) m.regs.length k1) (.slice (some ⟨b2, o2, none⟩) m.mem.length k2) (.slice (some ⟨b3, o3, none⟩) m.ins.length k3) (.slice (some ⟨b4, 0, none⟩) m.outs.length k4)) w ∧
    CMach w 0 (mv m (.slice (some ⟨b1, o1, none⟩) m.regs.length k1) (.slice (some ⟨b2, o2, none⟩) m.mem.length k2) (.slice (some ⟨b3, o3, none⟩) m.ins.length k3) (.slice (some ⟨b4, 0, none⟩) m.outs.length k4)) m ∧ A b1 ∧ A b2 ∧ A b3 ∧ A b4
theorem PM.below {A : Nat → Prop} {w w' : World} {Z : Nat} {m : M} (h : PM A w Z m) (hb : Below w.heap.size w w') : PM A w' Z m := by
  obtain ⟨b1, o1, k1, b2, o2, k2, b3, o3, k3, b4, k4, hB, hC, hA⟩ := h
  exact ⟨b1, o1, k1, b2, o2, k2, b3, o3, k3, b4, k4, hB.below hb, hC.below hb, hA⟩
/-- What a deed may turn: the machine's own block, and blocks of its lists. -/
def Grip (A : Nat → Prop) (Z : Nat) (k : Nat) : Prop := k = Z ∨ A k
theorem grip_turn {A : Nat → Prop} {Z B : Nat} (hB : A B) : ∀ j, ¬ Grip A Z j → j ≠ B := fun j hn e => hn (Or.inr (by rw [e]; exact hB))
/-- How a deed ends: it tells where the machine goes on, or the machine stands still. -/
def Deed (A : Nat → Prop) (Z : Nat) (w : World) (res : M) (e : Ending) (w' : World) : Prop :=
  (∃ (place : Int) (m' : M), e = .returned (.int .i64 place) ∧ PM A w' Z m' ∧ Keep (Grip A Z) w w' ∧ 0 ≤ place ∧ place < 65536 ∧ (0 ≤ m'.count ∧ m'.count ≤ 1000000) ∧ nextM m' place = res) ∨
  (∃ (h : Int) (m' : M), e = .panicked [{ v := .iface 58 (.int .i64 h), recovered := false }] ∧ PM A w' Z m' ∧ Keep (Grip A Z) w w' ∧ haltM m' h = res)
end Go.Proofs.YtigaijoajbjcpaaGreat.Mch
namespace Go.Proofs.YtigaijoajbjcpaaGreat.MchI
open Go.ChangeShapes Go.WideShapes Go.ChangeAt Go.RowKit IntS Mch
theorem set_of (m : M) (d : Nat) (n : Int) : nextM { m with regs := m.regs.set d n } ((m.pc + 1) % 65536) = setM m d n := by
  unfold setM nextM
  simp only [M.mk.injEq, and_true, true_and]
  omega
/-- A register set. -/
theorem PM.setReg {A : Nat → Prop} {w : World} {Z b1 o1 k1 b2 o2 k2 b3 o3 k3 b4 k4 : Nat} {m : M} (hB : Box Z 26 (mv m (.slice (some ⟨b1, o1, none⟩) m.regs.length k1) (.slice (some ⟨b2, o2, none⟩) m.mem.length k2) (.slice (some ⟨b3, o3, none⟩) m.ins.length k3) (.slice (some ⟨b4, 0, none⟩) m.outs.length k4)) w)
    (hC : CMach w 0 (mv m (.slice (some ⟨b1, o1, none⟩) m.regs.length k1) (.slice (some ⟨b2, o2, none⟩) m.mem.length k2) (.slice (some ⟨b3, o3, none⟩) m.ins.length k3) (.slice (some ⟨b4, 0, none⟩) m.outs.length k4)) m) (hA : A b1 ∧ A b2 ∧ A b3 ∧ A b4) (d : Nat) (n : Int) (hd : d < m.regs.length) :
    PM A (w.setCell ⟨b1, o1 + d, none⟩ (.int .i64 n)) Z { m with regs := m.regs.set d n } ∧ Keep (Grip A Z) w (w.setCell ⟨b1, o1 + d, none⟩ (.int .i64 n)) := by
  have hne : b1 ≠ Z := fun e => (hB.t.ne hC.parts.2.2.2.2.2.2.1 mach_int) e.symm
  refine ⟨⟨b1, o1, k1, b2, o2, k2, b3, o3, k3, b4, k4, ?_, ?_, hA⟩, (Keep.refl _ w).turn ((Turn.refl b1 w).setCell rfl _) (fun j _ hn => grip_turn hA.1 j hn)⟩
  · have := hB.other ⟨b1, o1 + d, none⟩ (.int .i64 n) hne
    simpa only [mv, List.length_set] using this
  · have := hC.setReg d n hd
    simpa only [mv, List.length_set] using this
end Go.Proofs.YtigaijoajbjcpaaGreat.MchI
