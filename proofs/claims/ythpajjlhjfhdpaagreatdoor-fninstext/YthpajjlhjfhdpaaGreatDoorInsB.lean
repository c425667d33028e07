/-
  A block of memory that holds an instruction, and what leaves it as it is.
-/
import Derived.Test.YthpajjlhjfhdpaaGreatDoorInsC
namespace Go.Proofs.YthpajjlhjfhdpaaGreatDoor.Ins
open Go.ChangeShapes Go.WideShapes Go.ChangeAt Go.RowKit
/-- A block that holds an instruction. -/
structure Blk (Z : Nat) (a b c d : Int) (w : World) : Prop where
  lt : Z < w.heap.size
  c0 : w.cell? ⟨Z, 0, none⟩ = some (.int .i64 a)
  c1 : w.cell? ⟨Z, 1, none⟩ = some (.int .i64 b)
  c2 : w.cell? ⟨Z, 2, none⟩ = some (.int .i64 c)
  c3 : w.cell? ⟨Z, 3, none⟩ = some (.int .i64 d)
  f0 : w.frozen? ⟨Z, 0, none⟩ = false
  f1 : w.frozen? ⟨Z, 1, none⟩ = false
  f2 : w.frozen? ⟨Z, 2, none⟩ = false
  f3 : w.frozen? ⟨Z, 3, none⟩ = false
theorem Blk.new (w : World) (a b c d : Int) (t : TypeId) : Blk w.heap.size a b c d (w.alloc (.cells #[.int .i64 a, .int .i64 b, .int .i64 c, .int .i64 d] t)) :=
  ⟨by simp, by simp, by simp, by simp, by simp, by simp, by simp, by simp, by simp⟩
theorem Blk.below {Z : Nat} {a b c d : Int} {w w' : World} (h : Blk Z a b c d w) (hb : Below w.heap.size w w') : Blk Z a b c d w' :=
  ⟨Nat.lt_of_lt_of_le h.lt hb.size, cell_below hb h.c0, cell_below hb h.c1, cell_below hb h.c2, cell_below hb h.c3, (hb.frozen (p := ⟨Z, 0, none⟩) h.lt).trans h.f0, (hb.frozen (p := ⟨Z, 1, none⟩) h.lt).trans h.f1, (hb.frozen (p := ⟨Z, 2, none⟩) h.lt).trans h.f2, (hb.frozen (p := ⟨Z, 3, none⟩) h.lt).trans h.f3⟩
theorem Blk.alloc {Z : Nat} {a b c d : Int} {w : World} (h : Blk Z a b c d w) (o : Obj) : Blk Z a b c d (w.alloc o) := h.below ((Below.refl _ _).alloc (Nat.le_refl _) o)
theorem cell_far {w : World} {p q : Addr} (v : Value) (h : p.block ≠ q.block) : (w.setCell p v).cell? q = w.cell? q := World.cell?_setCell_other w p q v (fun e => h (by rw [e]))
theorem Blk.other {Z : Nat} {a b c d : Int} {w : World} (h : Blk Z a b c d w) {p : Addr} (v : Value) (hp : p.block ≠ Z) : Blk Z a b c d (w.setCell p v) :=
  ⟨by simpa [World.setCell] using h.lt, (cell_far v hp).trans h.c0, (cell_far v hp).trans h.c1, (cell_far v hp).trans h.c2, (cell_far v hp).trans h.c3, (World.frozen?_setCell ..).trans h.f0, (World.frozen?_setCell ..).trans h.f1, (World.frozen?_setCell ..).trans h.f2, (World.frozen?_setCell ..).trans h.f3⟩
theorem Blk.set3 {Z : Nat} {a b c d : Int} {w : World} (h : Blk Z a b c d w) (x : Int) : Blk Z a b c x (w.setCell ⟨Z, 3, none⟩ (.int .i64 x)) :=
  ⟨by simpa [World.setCell] using h.lt, (World.cell?_setCell_other w _ _ _ (by simp)).trans h.c0, (World.cell?_setCell_other w _ _ _ (by simp)).trans h.c1, (World.cell?_setCell_other w _ _ _ (by simp)).trans h.c2, World.cell?_setCell_same w _ _ h.c3, (World.frozen?_setCell ..).trans h.f0, (World.frozen?_setCell ..).trans h.f1, (World.frozen?_setCell ..).trans h.f2, (World.frozen?_setCell ..).trans h.f3⟩
end Go.Proofs.YthpajjlhjfhdpaaGreatDoor.Ins
