/-
  A machine with lists of its own, when a cell of a block below them is written.
-/
import Derived.Test.YtnhpmbhphbphaaaGreatMpD
namespace Go.Proofs.YtnhpmbhphbphaaaGreat.Mch
set_option linter.unusedVariables false
set_option linter.unusedSimpArgs false
open Go.ChangeShapes Go.WideShapes Go.ChangeAt Go.RowKit IntS
theorem WMach.away {w w' : World} {lo Z : Nat} {c : List Value} {m : M} (h : WMach w lo c m) (ht : Turn Z w w') (hZ : Z < lo) : WMach w' lo c m := by
  obtain ⟨r, e, i, o, b1, b2, b3, b4, hc, h1, h2, h3, h4, l1, l2, l3, l4, hd⟩ := h
  exact ⟨r, e, i, o, b1, b2, b3, b4, hc, h1.turn ht (by omega), h2.turn ht (by omega), h3.turn ht (by omega), h4.turn ht (by omega), l1, l2, l3, l4, hd⟩
/-- The machine of the box with the new words. -/
theorem Cp.mach {n u : World} {X g cap : Nat} {cells : List Value} {mem : List Int} {m : M} {v1 v2 v3 v4 : Value} (K : Cp n X g cap cells mem u) (h : RMach n (mv m v1 v2 v3 v4) m) (l : Nat) (hl : mem.length = l) (pc save halt count : Int) (lets waits : Bool) :
    RMach u (mv ⟨m.regs, pc, mem, save, lets, waits, halt, m.ins, m.outs, count⟩ v1 (.slice (some ⟨g, 0, none⟩) l cap) v3 v4) ⟨m.regs, pc, mem, save, lets, waits, halt, m.ins, m.outs, count⟩ := by
  subst hl
  exact mach_mem (h.below K.bn) K.row.row pc save halt count lets waits
theorem Cp.start2 {n u : World} {s g cap : Nat} {cells : List Value} {mem : List Int} (hs : n.heap.size + 1 = s) (ht : Turn s ((n.alloc (.cells cells.toArray 25)).alloc (.cells #[] 3)) u)
    (hr : WRow u g (.slice (some ⟨g, 0, none⟩) mem.length cap) mem) (hg : s ≤ g) (hl : g < u.heap.size) : Cp n n.heap.size g cap cells mem u := by
  subst hs
  have e1 : (n.alloc (.cells cells.toArray 25)).heap.size = n.heap.size + 1 := by simp
  exact Cp.start (by rw [e1]; exact ht) hr (by rw [e1]; exact hg) hl
end Go.Proofs.YtnhpmbhphbphaaaGreat.Mch
