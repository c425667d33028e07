/-
  Machines: what it is that a struct holds one, and contracts of the laws' own helpers over them (szMchMach, toMchMach, eqMchMach, markMchMach, heldMchMach).
-/
import Derived.Test.YtmmlhmhlfmafgaaIntS
import Derived.Test.YtmmlhmhlfmafgaaShape
namespace Go.Proofs.Ytmmlhmhlfmafgaa.Mch
open Go.ChangeShapes Go.WideShapes Go.ChangeAt Go.RowKit IntS
/-- A block that holds a struct's cells. -/
structure Rec (Z : Nat) (cs : List Value) (w : World) : Prop where
  lt : Z < w.heap.size
  cell : ∀ (i : Nat) v, cs[i]? = some v → w.cell? ⟨Z, i, none⟩ = some v
  soft : ∀ i : Nat, w.frozen? ⟨Z, i, none⟩ = false
theorem Rec.new (w : World) (cs : List Value) (t : TypeId) : Rec w.heap.size cs (w.alloc (.cells cs.toArray t)) :=
  ⟨by simp, fun i v h => by rw [World.cell?_alloc_new]; simpa using h, fun i => by simp⟩
theorem Rec.turn {Z B : Nat} {cs : List Value} {w w' : World} (h : Rec Z cs w) (ht : Turn B w w') (hB : Z ≠ B) : Rec Z cs w' :=
  ⟨Nat.lt_of_lt_of_le h.lt ht.size, fun i v hv => (ht.cell (p := ⟨Z, i, none⟩) h.lt hB).trans (h.cell i v hv), fun i => (ht.frozen (p := ⟨Z, i, none⟩) h.lt hB).trans (h.soft i)⟩
theorem Rec.below {Z : Nat} {cs : List Value} {w w' : World} (h : Rec Z cs w) (hb : Below w.heap.size w w') : Rec Z cs w' := h.turn (B := Z + 1) (Turn.of_below hb) (by omega)
theorem Rec.alloc {Z : Nat} {cs : List Value} {w : World} (h : Rec Z cs w) (o : Obj) : Rec Z cs (w.alloc o) := h.below ((Below.refl _ _).alloc (Nat.le_refl _) o)
theorem Rec.other {Z : Nat} {cs : List Value} {w : World} (h : Rec Z cs w) (p : Addr) (v : Value) (hp : p.block ≠ Z) : Rec Z cs (w.setCell p v) := h.turn ((Turn.refl p.block w).setCell rfl v) (fun e => hp e.symm)
theorem Rec.set {Z : Nat} {cs cs' : List Value} {w : World} (h : Rec Z cs w) (i : Nat) (v : Value) (hi : i < cs.length) (he : cs.set i v = cs') : Rec Z cs' (w.setCell ⟨Z, i, none⟩ v) := by
  subst he
  refine ⟨by simpa [World.setCell] using h.lt, fun j x hx => ?_, fun j => (World.frozen?_setCell ..).trans (h.soft j)⟩
  by_cases e : i = j
  · subst e
    rw [List.getElem?_set_self hi] at hx
    obtain rfl := Option.some.inj hx
    exact World.cell?_setCell_same w _ _ (h.cell i _ (List.getElem?_eq_getElem hi))
  · rw [List.getElem?_set_ne e] at hx
    rw [World.cell?_setCell_other w _ _ _ (fun h2 => e (congrArg Addr.off h2))]
    exact h.cell j x hx
theorem other_row {w : World} {B : Nat} {v : Value} {xs : List Int} (h : WRow w B v xs) (p : Addr) (x : Value) (hp : p.block ≠ B) : WRow (w.setCell p x) B v xs := h.turn ((Turn.refl p.block w).setCell rfl x) (fun e => hp e.symm)
/-- A machine. -/
structure M where
  regs : List Int
  pc : Int
  mem : List Int
  save : Int
  lets : Bool
  waits : Bool
  halt : Int
  ins : List Int
  outs : List Int
  count : Int
/-- A machine's cells. -/
def mv (m : M) (r e i o : Value) : List Value := [r, .int .i64 m.pc, e, .int .i64 m.save, .bool m.lets, .bool m.waits, .int .i64 m.halt, i, o, .int .i64 m.count]
/-- A struct that holds a machine. -/
structure RMach (w : World) (c : List Value) (m : M) : Prop where
  ex : ∃ r e i o b1 b2 b3 b4, c = mv m r e i o ∧ Row w b1 r m.regs ∧ Row w b2 e m.mem ∧ Row w b3 i m.ins ∧ Row w b4 o m.outs
theorem RMach.below {w w' : World} {c : List Value} {m : M} (h : RMach w c m) (hb : Below w.heap.size w w') : RMach w' c m := by
  obtain ⟨r, e, i, o, b1, b2, b3, b4, hc, h1, h2, h3, h4⟩ := h
  exact ⟨r, e, i, o, b1, b2, b3, b4, hc, h1.below hb, h2.below hb, h3.below hb, h4.below hb⟩
/-- A struct that holds a machine whose lists lie in blocks of their own, from block lo on. -/
structure WMach (w : World) (lo : Nat) (c : List Value) (m : M) : Prop where
  ex : ∃ r e i o b1 b2 b3 b4, c = mv m r e i o ∧ WRow w b1 r m.regs ∧ WRow w b2 e m.mem ∧ WRow w b3 i m.ins ∧ WRow w b4 o m.outs ∧ lo ≤ b1 ∧ lo ≤ b2 ∧ lo ≤ b3 ∧ lo ≤ b4 ∧ b1 ≠ b2 ∧ b1 ≠ b3 ∧ b1 ≠ b4 ∧ b2 ≠ b3 ∧ b2 ≠ b4 ∧ b3 ≠ b4
theorem WMach.read {w : World} {lo : Nat} {c : List Value} {m : M} (h : WMach w lo c m) : RMach w c m := by
  obtain ⟨r, e, i, o, b1, b2, b3, b4, hc, h1, h2, h3, h4, _⟩ := h
  exact ⟨r, e, i, o, b1, b2, b3, b4, hc, h1.row, h2.row, h3.row, h4.row⟩
theorem WMach.below {w w' : World} {lo : Nat} {c : List Value} {m : M} (h : WMach w lo c m) (hb : Below w.heap.size w w') : WMach w' lo c m := by
  obtain ⟨r, e, i, o, b1, b2, b3, b4, hc, h1, h2, h3, h4, hr⟩ := h
  exact ⟨r, e, i, o, b1, b2, b3, b4, hc, h1.below hb, h2.below hb, h3.below hb, h4.below hb, hr⟩
/-- No list of a machine is longer than that. -/
def Small (m : M) : Prop := m.regs.length ≤ 1048576 ∧ m.mem.length ≤ 1048576 ∧ m.ins.length ≤ 1048576 ∧ m.outs.length ≤ 1048576
/-- The three blocks of toMchMach: what came in, the answer, and what is filled. -/
structure Three (w : World) (n : Nat) (A Z O : List Value) (u : World) : Prop where
  bw : Below n w u
  a : Rec n A u
  z : Rec (n + 1) Z u
  o : Rec (n + 1 + 1) O u
theorem Three.new (w : World) (A Z O : List Value) (t1 t2 t3 : TypeId) : Three w w.heap.size A Z O (((w.alloc (.cells A.toArray t1)).alloc (.cells Z.toArray t2)).alloc (.cells O.toArray t3)) := by
  have hz := Rec.new (w.alloc (.cells A.toArray t1)) Z t2
  have ez : (w.alloc (.cells A.toArray t1)).heap.size = w.heap.size + 1 := by simp
  have ho := Rec.new ((w.alloc (.cells A.toArray t1)).alloc (.cells Z.toArray t2)) O t3
  have eo : ((w.alloc (.cells A.toArray t1)).alloc (.cells Z.toArray t2)).heap.size = w.heap.size + 1 + 1 := by simp
  rw [ez] at hz
  rw [eo] at ho
  exact ⟨(((Below.refl _ _).alloc (Nat.le_refl _) _).alloc (by simp) _).alloc (by simp; omega) _, ((Rec.new w A t1).alloc _).alloc _, hz.alloc _, ho⟩
theorem Three.below {w u u' : World} {n : Nat} {A Z O : List Value} (h : Three w n A Z O u) (hb : Below u.heap.size u u') : Three w n A Z O u' :=
  ⟨h.bw.trans (hb.mono (Nat.le_of_lt h.a.lt)), h.a.below hb, h.z.below hb, h.o.below hb⟩
theorem Three.set {w u : World} {n : Nat} {A Z O O' : List Value} (h : Three w n A Z O u) (i : Nat) (v : Value) (hi : i < O.length) (he : O.set i v = O') : Three w n A Z O' (u.setCell ⟨n + 1 + 1, i, none⟩ v) :=
  ⟨h.bw.setCell (by show n ≤ n + 1 + 1; omega) _, h.a.other _ _ (by show n + 1 + 1 ≠ n; omega), h.z.other _ _ (by show n + 1 + 1 ≠ n + 1; omega), h.o.set i v hi he⟩
end Go.Proofs.Ytmmlhmhlfmafgaa.Mch
