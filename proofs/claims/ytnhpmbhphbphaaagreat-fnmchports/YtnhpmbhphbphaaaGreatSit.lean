/-
  What a law over machines knows of the world: its boxes that hold machines, and rows of ints.
-/
import Derived.Test.YtnhpmbhphbphaaaGreatDrawMb
import Derived.Test.YtnhpmbhphbphaaaGreatLaM
import Derived.Test.YtnhpmbhphbphaaaGreatMchMM
import Derived.Test.YtnhpmbhphbphaaaGreatMchII
namespace Go.Proofs.YtnhpmbhphbphaaaGreat.Mch
set_option linter.unusedVariables false
set_option linter.unusedSimpArgs false
open Go.ChangeShapes Go.WideShapes Go.ChangeAt Go.RowKit IntS
structure Sit (w : World) (bs : List (Nat × List Value × M)) (rs : List (Nat × Value × List Int)) (u : World) : Prop where
  bw : Below w.heap.size w u
  box : ∀ b ∈ bs, Box b.1 25 b.2.1 u ∧ RMach u b.2.1 b.2.2
  row : ∀ r ∈ rs, Row u r.1 r.2.1 r.2.2
theorem Sit.below {w u u' : World} {bs : List (Nat × List Value × M)} {rs : List (Nat × Value × List Int)} (h : Sit w bs rs u) (hb : Below u.heap.size u u') : Sit w bs rs u' :=
  ⟨h.bw.trans (hb.mono h.bw.size), fun b hB => ⟨(h.box b hB).1.below hb, (h.box b hB).2.below hb⟩, fun r hr => (h.row r hr).below hb⟩
theorem Sit.drew {w u : World} {bs : List (Nat × List Value × M)} {rs : List (Nat × Value × List Int)} (h : Sit w bs rs u) : Sit w bs rs u.drew := h.below (Below.refl _ _).drew
theorem Sit.add {w u : World} {bs : List (Nat × List Value × M)} {rs : List (Nat × Value × List Int)} (h : Sit w bs rs u) {c : List Value} {m : M} (hR : RMach u c m) : Sit w ((u.heap.size, c, m) :: bs) rs (u.alloc (.cells c.toArray 25)) := by
  have hb : Below u.heap.size u (u.alloc (.cells c.toArray 25)) := (Below.refl _ _).alloc (Nat.le_refl _) _
  have h2 := h.below hb
  refine ⟨h2.bw, fun b hB => ?_, h2.row⟩
  rcases List.mem_cons.1 hB with rfl | hB
  · exact ⟨Box.new u c _, hR.below hb⟩
  · exact h2.box b hB
theorem rforms {w : World} {c : List Value} {m : M} (h : RMach w c m) : ∃ q1 q2 q3 q4 k1 k2 k3 k4, c = mv m (.slice q1 m.regs.length k1) (.slice q2 m.mem.length k2) (.slice q3 m.ins.length k3) (.slice q4 m.outs.length k4) := by
  obtain ⟨r, e, i, o, b1, b2, b3, b4, hc, h1, h2, h3, h4⟩ := h
  obtain ⟨q1, k1, _, rfl, _⟩ := h1
  obtain ⟨q2, k2, _, rfl, _⟩ := h2
  obtain ⟨q3, k3, _, rfl, _⟩ := h3
  obtain ⟨q4, k4, _, rfl, _⟩ := h4
  exact ⟨q1, q2, q3, q4, k1, k2, k3, k4, hc⟩
end Go.Proofs.YtnhpmbhphbphaaaGreat.Mch
