/-
  The program's deeds on a machine behind a pointer: contracts of behind, goOn, setRegister, interrupt, standsStill.
-/
import Derived.Test.YtlgpnogeoaoidaaMchK
import Derived.Test.YtlgpnogeoaoidaaMchN
import Derived.Test.YtlgpnogeoaoidaaMchG
namespace Go.Proofs.Ytlgpnogeoaoidaa.Mch
open Go.ChangeShapes Go.WideShapes Go.ChangeAt Go.RowKit IntS
/-- A block of a type with these cells. -/
structure Box (Z : Nat) (t : TypeId) (cs : List Value) (u : World) : Prop where
  r : Rec Z cs u
  t : IsT u Z t
theorem Box.new (w : World) (cs : List Value) (t : TypeId) : Box w.heap.size t cs (w.alloc (.cells cs.toArray t)) := ⟨Rec.new w cs t, IsT.new w cs.toArray t⟩
theorem Box.below {Z : Nat} {t : TypeId} {cs : List Value} {u u' : World} (h : Box Z t cs u) (hb : Below u.heap.size u u') : Box Z t cs u' := ⟨h.r.below hb, h.t.below hb⟩
theorem Box.alloc {Z : Nat} {t : TypeId} {cs : List Value} {u : World} (h : Box Z t cs u) (o : Obj) : Box Z t cs (u.alloc o) := h.below ((Below.refl _ _).alloc (Nat.le_refl _) o)
theorem Box.ints {Z lo : Nat} {t : TypeId} {cs : List Value} {u u' : World} (h : Box Z t cs u) (ht : t ≠ 3) (hi : Ints lo u u') : Box Z t cs u' := ⟨h.r.ints h.t ht hi, h.t.ints ht hi⟩
theorem Box.set {Z : Nat} {t : TypeId} {cs cs' : List Value} {u : World} (h : Box Z t cs u) (i : Nat) (v : Value) (hi : i < cs.length) (he : cs.set i v = cs') : Box Z t cs' (u.setCell ⟨Z, i, none⟩ v) := ⟨h.r.set i v hi he, h.t.set _ _⟩
theorem Box.other {Z : Nat} {t : TypeId} {cs : List Value} {u : World} (h : Box Z t cs u) (p : Addr) (v : Value) (hp : p.block ≠ Z) : Box Z t cs (u.setCell p v) := ⟨h.r.other p v hp, h.t.set _ _⟩
theorem IsT.keep {S : Nat → Prop} {w w' : World} {b : Nat} {t : TypeId} (h : IsT w b t) (hk : Keep S w w') (hb : ¬ S b) : IsT w' b t := by
  have hl := h.lt
  obtain ⟨cur, fz, h⟩ := h
  exact ⟨cur, fz, (hk.block b hl hb).trans h⟩
theorem Box.keep {S : Nat → Prop} {Z : Nat} {t : TypeId} {cs : List Value} {w w' : World} (h : Box Z t cs w) (hk : Keep S w w') (hZ : ¬ S Z) : Box Z t cs w' := ⟨h.r.keep hk hZ, IsT.keep h.t hk hZ⟩
theorem rec_far {Z Y : Nat} {cs : List Value} {w : World} (h : Rec Z cs w) (hY : Y ≠ Z) (v0 v1 v2 v3 v4 v5 v6 v7 v8 v9 : Value) : Rec Z cs ((((((((((w.setCell ⟨Y, 0, none⟩ v0).setCell ⟨Y, 1, none⟩ v1).setCell ⟨Y, 2, none⟩ v2).setCell ⟨Y, 3, none⟩ v3).setCell ⟨Y, 4, none⟩ v4).setCell ⟨Y, 5, none⟩ v5).setCell ⟨Y, 6, none⟩ v6).setCell ⟨Y, 7, none⟩ v7).setCell ⟨Y, 8, none⟩ v8).setCell ⟨Y, 9, none⟩ v9) :=
  (((((((((h.other ⟨Y, 0, none⟩ v0 hY).other ⟨Y, 1, none⟩ v1 hY).other ⟨Y, 2, none⟩ v2 hY).other ⟨Y, 3, none⟩ v3 hY).other ⟨Y, 4, none⟩ v4 hY).other ⟨Y, 5, none⟩ v5 hY).other ⟨Y, 6, none⟩ v6 hY).other ⟨Y, 7, none⟩ v7 hY).other ⟨Y, 8, none⟩ v8 hY).other ⟨Y, 9, none⟩ v9 hY
theorem Box.far {Z Y : Nat} {t : TypeId} {cs : List Value} {u : World} (h : Box Z t cs u) (hY : Y ≠ Z) (v0 v1 v2 v3 v4 v5 v6 v7 v8 v9 : Value) : Box Z t cs ((((((((((u.setCell ⟨Y, 0, none⟩ v0).setCell ⟨Y, 1, none⟩ v1).setCell ⟨Y, 2, none⟩ v2).setCell ⟨Y, 3, none⟩ v3).setCell ⟨Y, 4, none⟩ v4).setCell ⟨Y, 5, none⟩ v5).setCell ⟨Y, 6, none⟩ v6).setCell ⟨Y, 7, none⟩ v7).setCell ⟨Y, 8, none⟩ v8).setCell ⟨Y, 9, none⟩ v9) :=
  ⟨rec_far h.r hY v0 v1 v2 v3 v4 v5 v6 v7 v8 v9, ((((((((((h.t.set _ _).set _ _).set _ _).set _ _).set _ _).set _ _).set _ _).set _ _).set _ _).set _ _)⟩
theorem Box.ten {Z : Nat} {t : TypeId} {x0 x1 x2 x3 x4 x5 x6 x7 x8 x9 : Value} {u : World} (h : Box Z t [x0, x1, x2, x3, x4, x5, x6, x7, x8, x9] u) (v0 v1 v2 v3 v4 v5 v6 v7 v8 v9 : Value) : Box Z t [v0, v1, v2, v3, v4, v5, v6, v7, v8, v9] ((((((((((u.setCell ⟨Z, 0, none⟩ v0).setCell ⟨Z, 1, none⟩ v1).setCell ⟨Z, 2, none⟩ v2).setCell ⟨Z, 3, none⟩ v3).setCell ⟨Z, 4, none⟩ v4).setCell ⟨Z, 5, none⟩ v5).setCell ⟨Z, 6, none⟩ v6).setCell ⟨Z, 7, none⟩ v7).setCell ⟨Z, 8, none⟩ v8).setCell ⟨Z, 9, none⟩ v9) :=
  ⟨h.r.ten v0 v1 v2 v3 v4 v5 v6 v7 v8 v9, ((((((((((h.t.set _ _).set _ _).set _ _).set _ _).set _ _).set _ _).set _ _).set _ _).set _ _).set _ _)⟩
end Go.Proofs.Ytlgpnogeoaoidaa.Mch
namespace Go.Proofs.Ytlgpnogeoaoidaa.MchI
open Go.ChangeShapes Go.WideShapes Go.ChangeAt Go.RowKit IntS Mch
end Go.Proofs.Ytlgpnogeoaoidaa.MchI
