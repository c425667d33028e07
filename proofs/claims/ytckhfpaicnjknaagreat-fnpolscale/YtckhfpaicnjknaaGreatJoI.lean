/-
  Blocks that hold structs, and what turns.
-/
import Derived.Test.YtckhfpaicnjknaaGreatIntS
import Derived.Test.YtckhfpaicnjknaaGreatPolF
namespace Go.Proofs.YtckhfpaicnjknaaGreat.Pol
open Go.ChangeShapes Go.WideShapes Go.ChangeAt Go.RowKit IntS
/-- A block that holds a struct's cells. -/
structure Rec (Z : Nat) (cs : List Value) (w : World) : Prop where
  lt : Z < w.heap.size
  cell : ∀ (i : Nat) v, cs[i]? = some v → w.cell? ⟨Z, i, none⟩ = some v
  soft : ∀ i : Nat, w.frozen? ⟨Z, i, none⟩ = false
theorem Rec.new (w : World) (cs : List Value) (t : TypeId) : Rec w.heap.size cs (w.alloc (.cells cs.toArray t)) :=
  ⟨by simp, fun i v h => by rw [World.cell?_alloc_new]; simpa using h, fun i => by simp⟩
theorem Rec.turn {Z B : Nat} {cs : List Value} {w w' : World} (h : Rec Z cs w) (ht : Turn B w w') (hB : Z ≠ B) : Rec Z cs w' :=
  ⟨Nat.lt_of_lt_of_le h.lt ht.size, fun i v hv => (ht.cell (p := ⟨Z, i, none⟩) h.lt hB).trans (h.cell i v hv), fun i => (ht.frozen (p := ⟨Z, i, none⟩) h.lt hB).trans (h.soft i)⟩
theorem Rec.below {Z : Nat} {cs : List Value} {w w' : World} (h : Rec Z cs w) (hb : Below w.heap.size w w') : Rec Z cs w' := h.turn (B := Z + 1) (Turn.of_below hb) (by omega)
theorem Rec.alloc {Z : Nat} {cs : List Value} {w : World} (h : Rec Z cs w) (o : Obj) : Rec Z cs (w.alloc o) := h.below ((Below.refl _ _).alloc (Nat.le_refl _) o)
theorem Rec.other {Z : Nat} {cs : List Value} {w : World} (h : Rec Z cs w) (p : Addr) (v : Value) (hp : p.block ≠ Z) : Rec Z cs (w.setCell p v) := h.turn ((Turn.refl p.block w).setCell rfl v) (fun e => hp e.symm)
theorem Rec.set {Z : Nat} {cs cs' : List Value} {w : World} (h : Rec Z cs w) (i : Nat) (v : Value) (hi : i < cs.length) (he : cs.set i v = cs') : Rec Z cs' (w.setCell ⟨Z, i, none⟩ v) := by
  subst he
  refine ⟨by simpa [World.setCell] using h.lt, fun j x hx => ?_, fun j => (World.frozen?_setCell ..).trans (h.soft j)⟩
  by_cases e : i = j
  · subst e
    rw [List.getElem?_set_self hi] at hx
    obtain rfl := Option.some.inj hx
    exact World.cell?_setCell_same w _ _ (h.cell i _ (List.getElem?_eq_getElem hi))
  · rw [List.getElem?_set_ne e] at hx
    rw [World.cell?_setCell_other w _ _ _ (fun h2 => e (congrArg Addr.off h2))]
    exact h.cell j x hx
theorem other_row {w : World} {B : Nat} {v : Value} {xs : List Int} (h : WRow w B v xs) (p : Addr) (x : Value) (hp : p.block ≠ B) : WRow (w.setCell p x) B v xs := h.turn ((Turn.refl p.block w).setCell rfl x) (fun e => hp e.symm)
/-- The three blocks of toMchMach: what came in, the answer, and what is filled. -/
structure Three (w : World) (n : Nat) (A Z O : List Value) (u : World) : Prop where
  bw : Below n w u
  a : Rec n A u
  z : Rec (n + 1) Z u
  o : Rec (n + 1 + 1) O u
theorem Three.new (w : World) (A Z O : List Value) (t1 t2 t3 : TypeId) : Three w w.heap.size A Z O (((w.alloc (.cells A.toArray t1)).alloc (.cells Z.toArray t2)).alloc (.cells O.toArray t3)) := by
  have hz := Rec.new (w.alloc (.cells A.toArray t1)) Z t2
  have ez : (w.alloc (.cells A.toArray t1)).heap.size = w.heap.size + 1 := by simp
  have ho := Rec.new ((w.alloc (.cells A.toArray t1)).alloc (.cells Z.toArray t2)) O t3
  have eo : ((w.alloc (.cells A.toArray t1)).alloc (.cells Z.toArray t2)).heap.size = w.heap.size + 1 + 1 := by simp
  rw [ez] at hz
  rw [eo] at ho
  exact ⟨(((Below.refl _ _).alloc (Nat.le_refl _) _).alloc (by simp) _).alloc (by simp; omega) _, ((Rec.new w A t1).alloc _).alloc _, hz.alloc _, ho⟩
theorem Three.below {w u u' : World} {n : Nat} {A Z O : List Value} (h : Three w n A Z O u) (hb : Below u.heap.size u u') : Three w n A Z O u' :=
  ⟨h.bw.trans (hb.mono (Nat.le_of_lt h.a.lt)), h.a.below hb, h.z.below hb, h.o.below hb⟩
theorem Three.set {w u : World} {n : Nat} {A Z O O' : List Value} (h : Three w n A Z O u) (i : Nat) (v : Value) (hi : i < O.length) (he : O.set i v = O') : Three w n A Z O' (u.setCell ⟨n + 1 + 1, i, none⟩ v) :=
  ⟨h.bw.setCell (by show n ≤ n + 1 + 1; omega) _, h.a.other _ _ (by show n + 1 + 1 ≠ n; omega), h.z.other _ _ (by show n + 1 + 1 ≠ n + 1; omega), h.o.set i v hi he⟩
/-- A block of what came in. -/
structure One (w : World) (n : Nat) (A : List Value) (u : World) : Prop where
  bw : Below n w u
  a : Rec n A u
theorem One.new (w : World) (A : List Value) (t1 : TypeId) : One w w.heap.size A (w.alloc (.cells A.toArray t1)) := ⟨(Below.refl _ _).alloc (Nat.le_refl _) _, Rec.new w A t1⟩
theorem One.below {w u u' : World} {n : Nat} {A : List Value} (h : One w n A u) (hb : Below u.heap.size u u') : One w n A u' :=
  ⟨h.bw.trans (hb.mono (Nat.le_of_lt h.a.lt)), h.a.below hb⟩
theorem Rec.drew {Z : Nat} {cs : List Value} {w : World} (h : Rec Z cs w) : Rec Z cs w.drew := ⟨h.lt, h.cell, h.soft⟩
theorem One.drew {w u : World} {n : Nat} {A : List Value} (h : One w n A u) : One w n A u.drew := ⟨h.bw.drew, h.a.drew⟩
theorem row_drew {w : World} {B : Nat} {v : Value} {xs : List Int} (h : Row w B v xs) : Row w.drew B v xs := ⟨h.ex⟩
/-- Of the blocks that were there only those of a set may have turned. -/
structure Keep (S : Nat → Prop) (w w' : World) : Prop where
  os : w'.os = w.os
  tape : w'.tape = w.tape
  output : w'.output = w.output
  size : w.heap.size ≤ w'.heap.size
  block : ∀ k, k < w.heap.size → ¬ S k → w'.heap[k]? = w.heap[k]?
theorem Keep.refl (S : Nat → Prop) (w : World) : Keep S w w := ⟨rfl, rfl, rfl, Nat.le_refl _, fun _ _ _ => rfl⟩
theorem Keep.of_below {S : Nat → Prop} {w w' : World} (h : Below w.heap.size w w') : Keep S w w' := ⟨h.os, h.tape, h.output, h.size, fun k hk _ => h.block k hk⟩
theorem Keep.trans {S : Nat → Prop} {a b c : World} (h : Keep S a b) (k : Keep S b c) : Keep S a c :=
  ⟨k.os.trans h.os, k.tape.trans h.tape, k.output.trans h.output, Nat.le_trans h.size k.size, fun j hj hn => (k.block j (Nat.lt_of_lt_of_le hj h.size) hn).trans (h.block j hj hn)⟩
theorem Keep.turn {S : Nat → Prop} {a b c : World} {B : Nat} (h : Keep S a b) (k : Turn B b c) (hB : ∀ j, j < a.heap.size → ¬ S j → j ≠ B) : Keep S a c :=
  ⟨k.os.trans h.os, k.tape.trans h.tape, k.output.trans h.output, Nat.le_trans h.size k.size, fun j hj hn => (k.block j (Nat.lt_of_lt_of_le hj h.size) (hB j hj hn)).trans (h.block j hj hn)⟩
theorem Keep.mono {S S' : Nat → Prop} {w w' : World} (h : Keep S w w') (hs : ∀ k, k < w.heap.size → S k → S' k) : Keep S' w w' := ⟨h.os, h.tape, h.output, h.size, fun k hk hn => h.block k hk (fun h2 => hn (hs k hk h2))⟩
theorem Keep.below {S : Nat → Prop} {n : Nat} {w w' : World} (h : Keep S w w') (hn : n ≤ w.heap.size) (hS : ∀ k, k < n → ¬ S k) : Below n w w' := ⟨h.os, h.tape, h.output, h.size, fun k hk => h.block k (Nat.lt_of_lt_of_le hk hn) (hS k hk)⟩
theorem Rec.keep {S : Nat → Prop} {Z : Nat} {cs : List Value} {w w' : World} (h : Rec Z cs w) (hk : Keep S w w') (hZ : ¬ S Z) : Rec Z cs w' := by
  have e := hk.block Z h.lt hZ
  exact ⟨Nat.lt_of_lt_of_le h.lt hk.size, fun j v hv => (World.cell?_of_block (w := w) (a := ⟨Z, j, none⟩) e).trans (h.cell j v hv), fun j => (World.frozen?_of_block (w := w) (a := ⟨Z, j, none⟩) e).trans (h.soft j)⟩
theorem row_keep {S : Nat → Prop} {w w' : World} {B : Nat} {v : Value} {xs : List Int} (h : WRow w B v xs) (hk : Keep S w w') (hB : ¬ S B) : WRow w' B v xs := by
  obtain ⟨a, cap, off, h1, h2, h3, hz, h4⟩ := h
  refine ⟨a, cap, off, h1, h2, h3, hz, ?_⟩
  rcases h4 with h4 | ⟨h4, hlt, h5⟩
  · exact Or.inl h4
  · have e := hk.block B hlt hB
    exact Or.inr ⟨h4, Nat.lt_of_lt_of_le hlt hk.size, fun i x hx => ⟨(World.cell?_of_block (w := w) (a := ⟨B, off + i, none⟩) e).trans (h5 i x hx).1, (World.frozen?_of_block (w := w) (a := ⟨B, off + i, none⟩) e).trans (h5 i x hx).2⟩⟩
theorem Keep.of_turn {B : Nat} {w w' : World} (h : Turn B w w') : Keep (fun k => k = B) w w' := ⟨h.os, h.tape, h.output, h.size, fun k hk hn => h.block k hk hn⟩
end Go.Proofs.YtckhfpaicnjknaaGreat.Pol

