/-
  What a law over sums knows of the world: boxes with sums, rows of ints.
-/
import Derived.Test.YtckhfpaicnjknaaGreatJoG
import Derived.Test.YtckhfpaicnjknaaGreatJoK
import Derived.Test.YtckhfpaicnjknaaGreatJoD
import Derived.Test.YtckhfpaicnjknaaGreatDrawPb
namespace Go.Proofs.YtckhfpaicnjknaaGreat.Pol
open Go.ChangeShapes Go.WideShapes Go.ChangeAt Go.RowKit IntS
set_option linter.unusedVariables false
/-- Boxes with sums, and rows of ints. -/
structure Pit (w : World) (bs : List (Nat × Value × List Mono)) (rs : List (Value × List Int)) (u : World) : Prop where
  bw : Below w.heap.size w u
  box : ∀ b ∈ bs, Rec b.1 [b.2.1] u ∧ ∃ B, PRow u B b.2.1 b.2.2
  row : ∀ r ∈ rs, ∃ B, Row u B r.1 r.2
theorem Pit.below {w u u' : World} {bs : List (Nat × Value × List Mono)} {rs : List (Value × List Int)} (h : Pit w bs rs u) (hb : Below u.heap.size u u') : Pit w bs rs u' :=
  ⟨h.bw.trans (hb.mono h.bw.size), fun b hm => ⟨(h.box b hm).1.below hb, (h.box b hm).2.imp fun B q => q.below hb⟩, fun r hm => (h.row r hm).imp fun B q => q.below hb⟩
theorem Pit.drew {w u : World} {bs : List (Nat × Value × List Mono)} {rs : List (Value × List Int)} (h : Pit w bs rs u) : Pit w bs rs u.drew := h.below (Below.refl _ _).drew
theorem Pit.add {w u : World} {bs : List (Nat × Value × List Mono)} {rs : List (Value × List Int)} {v : Value} {ps : List Mono} {B : Nat} (h : Pit w bs rs u) (hp : PRow u B v ps) : Pit w ((u.heap.size, v, ps) :: bs) rs (u.alloc (.cells #[v] 25)) := by
  have hb : Below u.heap.size u (u.alloc (.cells #[v] 25)) := (Below.refl _ _).alloc (Nat.le_refl _) _
  refine ⟨(h.below hb).bw, fun b hm => ?_, (h.below hb).row⟩
  rcases List.mem_cons.1 hm with rfl | hm
  · exact ⟨Rec.new u [v] _, B, hp.below hb⟩
  · exact (h.below hb).box b hm
theorem Pit.addRow {w u : World} {bs : List (Nat × Value × List Mono)} {rs : List (Value × List Int)} {v : Value} {xs : List Int} {B : Nat} (h : Pit w bs rs u) (hr : Row u B v xs) : Pit w bs ((v, xs) :: rs) u := ⟨h.bw, h.box, fun r hm => by
  rcases List.mem_cons.1 hm with rfl | hm
  · exact ⟨B, hr⟩
  · exact h.row r hm⟩
theorem Pit.new {w u : World} (hb : Below w.heap.size w u) : Pit w [] [] u := ⟨hb, fun b h => absurd h (by simp), fun r h => absurd h (by simp)⟩
end Go.Proofs.YtckhfpaicnjknaaGreat.Pol
namespace Go.Proofs.YtckhfpaicnjknaaGreat.Pol
open Go.ChangeShapes Go.WideShapes Go.ChangeAt Go.RowKit IntS
set_option linter.unusedVariables false
structure M2 (d : World) (b : Bool) (p : Value) (W : World) : Prop where
  bw : Below d.heap.size d W
  z : b = true → ∃ Z, p = .pointer (some ⟨Z, 0, none⟩) ∧ Rec Z [.slice none 0 0] W ∧ d.heap.size ≤ Z
structure N2 (d : World) (b : Bool) (p : Value) (a : Option Addr) (c : Nat) (qs : List Mono) (W : World) : Prop where
  m : M2 d b p W
  ex : ∃ lo hi, d.heap.size ≤ lo ∧ hi ≤ W.heap.size ∧ WPoly W lo hi (.slice a qs.length c) qs ∧ (b = true → ∀ Z, p = .pointer (some ⟨Z, 0, none⟩) → Z < lo ∨ hi ≤ Z)
theorem M2.new (d : World) (p : Value) : M2 d false p d := ⟨Below.refl _ _, fun h => by cases h⟩
theorem M2.below {d W W' : World} {b : Bool} {p : Value} (h : M2 d b p W) (hb : Below W.heap.size W W') : M2 d b p W' :=
  ⟨h.bw.trans (hb.mono h.bw.size), fun e => by
    obtain ⟨Z, h1, h2, h3⟩ := h.z e
    exact ⟨Z, h1, h2.below hb, h3⟩⟩
theorem M2.box {d W : World} {p : Value} (h : M2 d false p W) (t : TypeId) : M2 d true (.pointer (some ⟨W.heap.size, 0, none⟩)) (W.alloc (.cells #[.slice none 0 0] t)) :=
  ⟨h.bw.trans ((Draw.alloc_below W _).mono h.bw.size), fun _ => ⟨W.heap.size, rfl, Rec.new W [.slice none 0 0] t, h.bw.size⟩⟩
theorem N2.of {d W W' : World} {b : Bool} {p : Value} {a : Option Addr} {c : Nat} {qs : List Mono} (h : M2 d b p W) (hw : WPoly W' W.heap.size W'.heap.size (.slice a qs.length c) qs) (hb : Below W.heap.size W W') : N2 d b p a c qs W' := by
  refine ⟨h.below hb, _, _, h.bw.size, Nat.le_refl _, hw, fun e Z hp => ?_⟩
  obtain ⟨Z', h1, h2, _⟩ := h.z e
  rw [hp] at h1
  cases h1
  exact Or.inl h2.lt
theorem N2.box {d W : World} {p : Value} {a : Option Addr} {c : Nat} {qs : List Mono} (h : N2 d false p a c qs W) (t : TypeId) : N2 d true (.pointer (some ⟨W.heap.size, 0, none⟩)) a c qs (W.alloc (.cells #[.slice none 0 0] t)) := by
  obtain ⟨lo, hi, k1, k2, k3, _⟩ := h.ex
  have hb := Draw.alloc_below W (.cells #[.slice none 0 0] t)
  exact ⟨h.m.box t, lo, hi, k1, Nat.le_trans k2 hb.size, k3.below hb, fun _ Z e => Or.inr (by cases e; exact k2)⟩
/-- How such a region ends. -/
structure D2 (d : World) (Z : Nat) (a : Option Addr) (c : Nat) (qs : List Mono) (V : World) : Prop where
  bw : Below d.heap.size d V
  rz : Rec Z [.slice a qs.length c] V
  pr : ∃ B, PRow V B (.slice a qs.length c) qs
theorem N2.over {d W V : World} {Z : Nat} {a : Option Addr} {c : Nat} {qs : List Mono} (h : N2 d true (.pointer (some ⟨Z, 0, none⟩)) a c qs W) (hz : Rec Z [.slice a qs.length c] V) (ht : Turn Z W V) : D2 d Z a c qs V := by
  obtain ⟨lo, hi, k1, k2, k3, k4⟩ := h.ex
  obtain ⟨Z', e, h2, h3⟩ := h.m.z rfl
  cases e
  have h5 := k4 rfl Z rfl
  exact ⟨h.m.bw.trans (ht.below h3 h.m.bw.size), hz, ((Draw.PS.of k3 k2).turn ht (fun q => by omega)).read⟩
theorem Pit.more {w u : World} {bs : List (Nat × Value × List Mono)} {rs : List (Value × List Int)} {v : Value} {ps : List Mono} {Z B : Nat} (h : Pit w bs rs u) (hz : Rec Z [v] u) (hp : PRow u B v ps) : Pit w ((Z, v, ps) :: bs) rs u := ⟨h.bw, fun b hm => by
  rcases List.mem_cons.1 hm with rfl | hm
  · exact ⟨hz, B, hp⟩
  · exact h.box b hm, h.row⟩
end Go.Proofs.YtckhfpaicnjknaaGreat.Pol
