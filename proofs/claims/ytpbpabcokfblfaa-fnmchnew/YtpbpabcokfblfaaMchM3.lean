/-
  Machines: contracts of the laws' own markMchMach and heldMchMach: what is marked is held, and nothing else has turned.
-/
import Derived.Test.YtpbpabcokfblfaaMchM2
namespace Go.Proofs.Ytpbpabcokfblfaa.Mch
open Go.ChangeShapes Go.WideShapes Go.ChangeAt Go.RowKit IntS
/-- No list of a machine is longer than that. -/
def Wide (m : M) : Prop := m.regs.length ≤ 2000000 ∧ m.mem.length ≤ 2000000 ∧ m.ins.length ≤ 2000000 ∧ m.outs.length ≤ 2000000
/-- A machine whose lists are marked from a number on. -/
def markM (m : M) (k : Int) : M := ⟨marks k m.regs.length, m.pc, marks (k + m.regs.length) m.mem.length, m.save, m.lets, m.waits, m.halt, marks (k + m.regs.length + m.mem.length) m.ins.length, marks (k + m.regs.length + m.mem.length + m.ins.length) m.outs.length, m.count⟩
def total (m : M) : Int := (m.regs.length : Int) + m.mem.length + m.ins.length + m.outs.length
theorem row_norm {w : World} {lo b : Nat} {v : Value} {xs : List Int} (j : Nat) (h : WRow w b v xs) (hlo : lo ≤ b) (hw : lo ≤ w.heap.size) : ∃ b', WRow w b' v xs ∧ lo ≤ b' ∧ ((b' = b ∧ b < w.heap.size) ∨ b' = w.heap.size + 1 + j) := by
  obtain ⟨a, cap, off, h1, h2, h3, hz, h4⟩ := h
  rcases h4 with h4 | ⟨h4, h5, h6⟩
  · exact ⟨w.heap.size + 1 + j, ⟨a, cap, off, h1, h2, h3, hz, Or.inl h4⟩, by omega, Or.inr rfl⟩
  · exact ⟨b, ⟨a, cap, off, h1, h2, h3, hz, Or.inr ⟨h4, h5, h6⟩⟩, hlo, Or.inl ⟨rfl, h5⟩⟩
/-- The blocks of a machine's lists may be taken to be others than the next one. -/
theorem WMach.norm {w : World} {lo : Nat} {c : List Value} {m : M} (h : WMach w lo c m) (hw : lo ≤ w.heap.size) :
    ∃ r e i o b1 b2 b3 b4, c = mv m r e i o ∧ WRow w b1 r m.regs ∧ WRow w b2 e m.mem ∧ WRow w b3 i m.ins ∧ WRow w b4 o m.outs ∧ lo ≤ b1 ∧ lo ≤ b2 ∧ lo ≤ b3 ∧ lo ≤ b4 ∧ (b1 ≠ b2 ∧ b1 ≠ b3 ∧ b1 ≠ b4 ∧ b2 ≠ b3 ∧ b2 ≠ b4 ∧ b3 ≠ b4) ∧ b1 ≠ w.heap.size ∧ b2 ≠ w.heap.size ∧ b3 ≠ w.heap.size ∧ b4 ≠ w.heap.size := by
  obtain ⟨r, e, i, o, b1, b2, b3, b4, hc, h1, h2, h3, h4, l1, l2, l3, l4, d1, d2, d3, d4, d5, d6⟩ := h
  obtain ⟨c1, k1, m1, n1⟩ := row_norm 0 h1 l1 hw
  obtain ⟨c2, k2, m2, n2⟩ := row_norm 1 h2 l2 hw
  obtain ⟨c3, k3, m3, n3⟩ := row_norm 2 h3 l3 hw
  obtain ⟨c4, k4, m4, n4⟩ := row_norm 3 h4 l4 hw
  refine ⟨r, e, i, o, c1, c2, c3, c4, hc, k1, k2, k3, k4, m1, m2, m3, m4, ?_, ?_, ?_, ?_, ?_⟩
  · rcases n1 with ⟨rfl, n1⟩ | rfl <;> rcases n2 with ⟨rfl, n2⟩ | rfl <;> rcases n3 with ⟨rfl, n3⟩ | rfl <;> rcases n4 with ⟨rfl, n4⟩ | rfl <;> omega
  all_goals omega
end Go.Proofs.Ytpbpabcokfblfaa.Mch
