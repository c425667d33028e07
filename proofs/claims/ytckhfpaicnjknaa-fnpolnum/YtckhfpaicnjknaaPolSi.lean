/-
  What a law over sums knows of the world: boxes with sums, rows of ints.
-/
import Derived.Test.YtckhfpaicnjknaaDrawPe
import Derived.Test.YtckhfpaicnjknaaPolLa
namespace Go.Proofs.Ytckhfpaicnjknaa.Pol
open Go.ChangeShapes Go.WideShapes Go.ChangeAt Go.RowKit IntS
set_option linter.unusedVariables false
/-- Boxes with sums, and rows of ints. -/
structure Pit (w : World) (bs : List (Nat × Value × List Mono)) (rs : List (Value × List Int)) (u : World) : Prop where
  bw : Below w.heap.size w u
  box : ∀ b ∈ bs, Rec b.1 [b.2.1] u ∧ ∃ B, PRow u B b.2.1 b.2.2
  row : ∀ r ∈ rs, ∃ B, Row u B r.1 r.2
theorem Pit.below {w u u' : World} {bs : List (Nat × Value × List Mono)} {rs : List (Value × List Int)} (h : Pit w bs rs u) (hb : Below u.heap.size u u') : Pit w bs rs u' :=
  ⟨h.bw.trans (hb.mono h.bw.size), fun b hm => ⟨(h.box b hm).1.below hb, (h.box b hm).2.imp fun B q => q.below hb⟩, fun r hm => (h.row r hm).imp fun B q => q.below hb⟩
theorem Pit.drew {w u : World} {bs : List (Nat × Value × List Mono)} {rs : List (Value × List Int)} (h : Pit w bs rs u) : Pit w bs rs u.drew := h.below (Below.refl _ _).drew
theorem Pit.add {w u : World} {bs : List (Nat × Value × List Mono)} {rs : List (Value × List Int)} {v : Value} {ps : List Mono} {B : Nat} (h : Pit w bs rs u) (hp : PRow u B v ps) : Pit w ((u.heap.size, v, ps) :: bs) rs (u.alloc (.cells #[v] 25)) := by
  have hb : Below u.heap.size u (u.alloc (.cells #[v] 25)) := (Below.refl _ _).alloc (Nat.le_refl _) _
  refine ⟨(h.below hb).bw, fun b hm => ?_, (h.below hb).row⟩
  rcases List.mem_cons.1 hm with rfl | hm
  · exact ⟨Rec.new u [v] _, B, hp.below hb⟩
  · exact (h.below hb).box b hm
theorem Pit.addRow {w u : World} {bs : List (Nat × Value × List Mono)} {rs : List (Value × List Int)} {v : Value} {xs : List Int} {B : Nat} (h : Pit w bs rs u) (hr : Row u B v xs) : Pit w bs ((v, xs) :: rs) u := ⟨h.bw, h.box, fun r hm => by
  rcases List.mem_cons.1 hm with rfl | hm
  · exact ⟨B, hr⟩
  · exact h.row r hm⟩
theorem Pit.new {w u : World} (hb : Below w.heap.size w u) : Pit w [] [] u := ⟨hb, fun b h => absurd h (by simp), fun r h => absurd h (by simp)⟩
end Go.Proofs.Ytckhfpaicnjknaa.Pol
