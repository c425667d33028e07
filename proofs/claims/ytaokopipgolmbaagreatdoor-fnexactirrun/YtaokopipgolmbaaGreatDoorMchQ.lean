/-
  The specification's steps on a copy of a machine: contracts of l3Port.
-/
import Derived.Test.YtaokopipgolmbaaGreatDoorMchP
namespace Go.Proofs.YtaokopipgolmbaaGreatDoor.Mch
open Go.ChangeShapes Go.WideShapes Go.ChangeAt Go.RowKit IntS
def outM (m : M) (d : Nat) : M := nextM { m with outs := m.outs ++ [m.regs.getD d 0] } (m.pc + 1)
def inM (m : M) (d : Nat) : M := match m.ins with
  | [] => setM m d 0
  | n :: r => setM { m with ins := r } d n
theorem CMach.push {V V1 u4 : World} {lo b1 o1 k1 b2 o2 k2 b3 o3 k3 b4 k4 g4 c4 : Nat} {m : M} {y : Int} (h : CMach V lo (mv m (.slice (some ⟨b1, o1, none⟩) m.regs.length k1) (.slice (some ⟨b2, o2, none⟩) m.mem.length k2) (.slice (some ⟨b3, o3, none⟩) m.ins.length k3) (.slice (some ⟨b4, 0, none⟩) m.outs.length k4)) m) (hV : Below V.heap.size V V1)
    (ho : Own u4 lo (.slice (some ⟨g4, 0, none⟩) (m.outs ++ [y]).length c4) (m.outs ++ [y])) (hor : g4 = b4 ∨ V1.heap.size ≤ g4) (ht : Turn b4 V1 u4) (hlo : lo ≤ V1.heap.size) :
    CMach u4 lo (mv m (.slice (some ⟨b1, o1, none⟩) m.regs.length k1) (.slice (some ⟨b2, o2, none⟩) m.mem.length k2) (.slice (some ⟨b3, o3, none⟩) m.ins.length k3) (.slice (some ⟨g4, 0, none⟩) (m.outs ++ [y]).length c4)) { m with outs := m.outs ++ [y] } ∧ Ints lo V u4 := by
  obtain ⟨h1, h2, h3, h4, ⟨l1, l2, l3, l4⟩, ⟨d1, d2, d3, d4, d5, d6⟩, t1, t2, t3, t4⟩ := h.parts
  have z1 := t1.lt
  have z2 := t2.lt
  have z3 := t3.lt
  have z4 := hV.size
  refine ⟨⟨b1, b2, b3, g4, o1, o2, o3, k1, k2, k3, c4, rfl, (h1.below hV).turn ht d3, (h2.below hV).turn ht d5, (h3.below hV).turn ht d6, ho, ⟨l1, l2, l3, by omega⟩, ⟨d1, d2, by omega, d4, by omega, by omega⟩, (t1.below hV).turn ht d3, (t2.below hV).turn ht d5, (t3.below hV).turn ht d6, ho.isT⟩, ?_⟩
  exact (Ints.of_below hV).trans (Ints.of_turn ht (t4.below hV) l4)
end Go.Proofs.YtaokopipgolmbaaGreatDoor.Mch
