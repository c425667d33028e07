/-
  Machines: contracts of the laws' own helpers over them (eqMchMach, szMchMach, markMchMach, heldMchMach).
-/
import Derived.Test.YtmmlhmhlfmafgaaMchM
namespace Go.Proofs.Ytmmlhmhlfmafgaa.Mch
open Go.ChangeShapes Go.WideShapes Go.ChangeAt Go.RowKit IntS
/-- Two blocks of what came in. -/
structure Two (w : World) (n : Nat) (A B : List Value) (u : World) : Prop where
  bw : Below n w u
  a : Rec n A u
  b : Rec (n + 1) B u
theorem Two.new (w : World) (A B : List Value) (t1 t2 : TypeId) : Two w w.heap.size A B ((w.alloc (.cells A.toArray t1)).alloc (.cells B.toArray t2)) := by
  have hz := Rec.new (w.alloc (.cells A.toArray t1)) B t2
  have ez : (w.alloc (.cells A.toArray t1)).heap.size = w.heap.size + 1 := by simp
  rw [ez] at hz
  exact ⟨((Below.refl _ _).alloc (Nat.le_refl _) _).alloc (by simp) _, (Rec.new w A t1).alloc _, hz⟩
theorem Two.below {w u u' : World} {n : Nat} {A B : List Value} (h : Two w n A B u) (hb : Below u.heap.size u u') : Two w n A B u' :=
  ⟨h.bw.trans (hb.mono (Nat.le_of_lt h.a.lt)), h.a.below hb, h.b.below hb⟩
/-- A block of what came in. -/
structure One (w : World) (n : Nat) (A : List Value) (u : World) : Prop where
  bw : Below n w u
  a : Rec n A u
theorem One.new (w : World) (A : List Value) (t1 : TypeId) : One w w.heap.size A (w.alloc (.cells A.toArray t1)) := ⟨(Below.refl _ _).alloc (Nat.le_refl _) _, Rec.new w A t1⟩
theorem One.below {w u u' : World} {n : Nat} {A : List Value} (h : One w n A u) (hb : Below u.heap.size u u') : One w n A u' :=
  ⟨h.bw.trans (hb.mono (Nat.le_of_lt h.a.lt)), h.a.below hb⟩
theorem Rec.drew {Z : Nat} {cs : List Value} {w : World} (h : Rec Z cs w) : Rec Z cs w.drew := ⟨h.lt, h.cell, h.soft⟩
theorem One.drew {w u : World} {n : Nat} {A : List Value} (h : One w n A u) : One w n A u.drew := ⟨h.bw.drew, h.a.drew⟩
theorem row_drew {w : World} {B : Nat} {v : Value} {xs : List Int} (h : Row w B v xs) : Row w.drew B v xs := ⟨h.ex⟩
theorem RMach.drew {w : World} {c : List Value} {m : M} (h : RMach w c m) : RMach w.drew c m := by
  obtain ⟨r, e, i, o, b1, b2, b3, b4, hc, h1, h2, h3, h4⟩ := h
  exact ⟨r, e, i, o, b1, b2, b3, b4, hc, row_drew h1, row_drew h2, row_drew h3, row_drew h4⟩
theorem same_ne (a : Int) : (a != a) = false := by simp
theorem same_neb (a : Bool) : (a != a) = false := by simp
end Go.Proofs.Ytmmlhmhlfmafgaa.Mch
