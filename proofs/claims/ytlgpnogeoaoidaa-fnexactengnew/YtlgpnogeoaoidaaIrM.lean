/-
  Pieces of code as data: slices that hold operations, structs that hold pieces of code; contracts of the laws' own szIrBlock, toIrBlock, eqIrBlock.
-/
import Derived.Test.YtlgpnogeoaoidaaMchM2
import Derived.StillTailTactics
namespace Go.Proofs.Ytlgpnogeoaoidaa.Ir
set_option linter.unusedVariables false
open Go.ChangeShapes Go.WideShapes Go.ChangeAt Go.RowKit IntS Mch
theorem region_tail {P : Program} {id : Nat} {Q : Exit → Act → World → Prop} {a : Act} {w : World} {l : List Oper} (n : Nat) (hm : P.follows .mixedOrders = true) (hB : Region.lexTailB .any l.toArray n = true)
    (h : wpStill P l.toArray w.drew (fun a' => wpList P l.toArray Q (l.drop n) a' w.drew) (l.take n) a) : (Code.region id l.toArray true).wp P Q a w := wp_region_still_tail n hm hB h
/-- An operation: what it does, of which operations ahead of it, with which number, and for which instruction. -/
structure Opn where
  kd : Int
  x : Int
  y : Int
  k : Int
  t : Int
/-- A piece of code: its place, how many instructions it stands for, its operations, and how it goes on. -/
structure Bk where
  pc : Int
  ln : Int
  ops : List Opn
  en : Int
  x : Int
  y : Int
  k : Int
/-- The five cells of an operation at a place. -/
def OpAt (w : World) (B p : Nat) (o : Opn) : Prop := w.cell? ⟨B, p, none⟩ = some (.int .i64 o.kd) ∧ w.cell? ⟨B, p + 1, none⟩ = some (.int .i64 o.x) ∧ w.cell? ⟨B, p + 2, none⟩ = some (.int .i64 o.y) ∧ w.cell? ⟨B, p + 3, none⟩ = some (.int .i64 o.k) ∧ w.cell? ⟨B, p + 4, none⟩ = some (.int .i64 o.t)
theorem OpAt.below {w w' : World} {B p : Nat} {o : Opn} (h : OpAt w B p o) (hb : Below w.heap.size w w') : OpAt w' B p o := by
  obtain ⟨h1, h2, h3, h4, h5⟩ := h
  exact ⟨cell_below hb h1, cell_below hb h2, cell_below hb h3, cell_below hb h4, cell_below hb h5⟩
def SoftAt (w : World) (B p : Nat) : Prop := w.frozen? ⟨B, p, none⟩ = false ∧ w.frozen? ⟨B, p + 1, none⟩ = false ∧ w.frozen? ⟨B, p + 2, none⟩ = false ∧ w.frozen? ⟨B, p + 3, none⟩ = false ∧ w.frozen? ⟨B, p + 4, none⟩ = false
/-- A slice that holds operations. -/
structure ORow (w : World) (B : Nat) (v : Value) (os : List Opn) : Prop where
  ex : ∃ a cap off, v = .slice a os.length cap ∧ os.length ≤ cap ∧ cap ≤ maxLen ∧ (a = none → cap = 0) ∧ (os = [] ∨ (a = some ⟨B, off, none⟩ ∧ ∀ (i : Nat) o, os[i]? = some o → OpAt w B (off + i * 5) o))
theorem ORow.below {w w' : World} {B : Nat} {v : Value} {os : List Opn} (h : ORow w B v os) (hb : Below w.heap.size w w') : ORow w' B v os := by
  obtain ⟨a, cap, off, h1, h2, h3, hz, h4⟩ := h
  exact ⟨a, cap, off, h1, h2, h3, hz, h4.imp id fun ⟨e, q⟩ => ⟨e, fun i t ht => (q i t ht).below hb⟩⟩
theorem ORow.drew {w : World} {B : Nat} {v : Value} {os : List Opn} (h : ORow w B v os) : ORow w.drew B v os := h.below (Below.refl _ _).drew
/-- A slice of operations that may be written. -/
structure WORow (w : World) (B : Nat) (v : Value) (os : List Opn) : Prop where
  ex : ∃ a cap off, v = .slice a os.length cap ∧ os.length ≤ cap ∧ cap ≤ maxLen ∧ (a = none → cap = 0) ∧ (os = [] ∨ (a = some ⟨B, off, none⟩ ∧ B < w.heap.size ∧ ∀ (i : Nat) o, os[i]? = some o → OpAt w B (off + i * 5) o ∧ SoftAt w B (off + i * 5)))
theorem WORow.row {w : World} {B : Nat} {v : Value} {os : List Opn} (h : WORow w B v os) : ORow w B v os := by
  obtain ⟨a, cap, off, h1, h2, h3, hz, h4⟩ := h
  exact ⟨a, cap, off, h1, h2, h3, hz, h4.imp id fun ⟨e, _, q⟩ => ⟨e, fun i t ht => (q i t ht).1⟩⟩
theorem WORow.turn {w w' : World} {B B' : Nat} {v : Value} {os : List Opn} (h : WORow w B v os) (ht : Turn B' w w') (hB : B ≠ B') : WORow w' B v os := by
  obtain ⟨a, cap, off, h1, h2, h3, hz, h4⟩ := h
  refine ⟨a, cap, off, h1, h2, h3, hz, h4.imp id fun ⟨e, l, q⟩ => ⟨e, Nat.lt_of_lt_of_le l ht.size, fun i t hx => ?_⟩⟩
  obtain ⟨⟨q1, q2, q3, q4, q5⟩, s1, s2, s3, s4, s5⟩ := q i t hx
  have c (p : Nat) : w'.cell? ⟨B, p, none⟩ = w.cell? ⟨B, p, none⟩ := ht.cell (p := ⟨B, p, none⟩) l hB
  have f (p : Nat) : w'.frozen? ⟨B, p, none⟩ = w.frozen? ⟨B, p, none⟩ := ht.frozen (p := ⟨B, p, none⟩) l hB
  exact ⟨⟨(c _).trans q1, (c _).trans q2, (c _).trans q3, (c _).trans q4, (c _).trans q5⟩, (f _).trans s1, (f _).trans s2, (f _).trans s3, (f _).trans s4, (f _).trans s5⟩
theorem WORow.below {w w' : World} {B : Nat} {v : Value} {os : List Opn} (h : WORow w B v os) (hb : Below w.heap.size w w') : WORow w' B v os := h.turn (B' := B + 1) (Turn.of_below hb) (by omega)
def bv (b : Bk) (s : Value) : List Value := [.int .i64 b.pc, .int .i64 b.ln, s, .int .i64 b.en, .int .i64 b.x, .int .i64 b.y, .int .i64 b.k]
/-- A struct that holds a piece of code. -/
structure RBk (w : World) (c : List Value) (b : Bk) : Prop where
  ex : ∃ a cap B, c = bv b (.slice a b.ops.length cap) ∧ ORow w B (.slice a b.ops.length cap) b.ops
theorem RBk.below {w w' : World} {c : List Value} {b : Bk} (h : RBk w c b) (hb : Below w.heap.size w w') : RBk w' c b := by
  obtain ⟨a, cap, B, h1, h2⟩ := h
  exact ⟨a, cap, B, h1, h2.below hb⟩
theorem RBk.drew {w : World} {c : List Value} {b : Bk} (h : RBk w c b) : RBk w.drew c b := h.below (Below.refl _ _).drew
/-- A struct that holds a piece of code, its operations in block B, where they may be written. -/
structure WBk (w : World) (B : Nat) (c : List Value) (b : Bk) : Prop where
  ex : ∃ a cap, c = bv b (.slice a b.ops.length cap) ∧ WORow w B (.slice a b.ops.length cap) b.ops
theorem WBk.read {w : World} {B : Nat} {c : List Value} {b : Bk} (h : WBk w B c b) : RBk w c b := by
  obtain ⟨a, cap, h1, h2⟩ := h
  exact ⟨a, cap, B, h1, h2.row⟩
theorem WBk.below {w w' : World} {B : Nat} {c : List Value} {b : Bk} (h : WBk w B c b) (hb : Below w.heap.size w w') : WBk w' B c b := by
  obtain ⟨a, cap, h1, h2⟩ := h
  exact ⟨a, cap, h1, h2.below hb⟩
theorem WBk.turn {w w' : World} {B B' : Nat} {c : List Value} {b : Bk} (h : WBk w B c b) (ht : Turn B' w w') (hB : B ≠ B') : WBk w' B c b := by
  obtain ⟨a, cap, h1, h2⟩ := h
  exact ⟨a, cap, h1, h2.turn ht hB⟩
theorem eqIrOp (o : Opn) (w : World) : Calls Try.prog 57 #[.agg #[.int .i64 o.kd, .int .i64 o.x, .int .i64 o.y, .int .i64 o.k, .int .i64 o.t], .agg #[.int .i64 o.kd, .int .i64 o.x, .int .i64 o.y, .int .i64 o.k, .int .i64 o.t]] w fun e w' => e = .returned (.bool true) ∧ Below w.heap.size w w' := by
  have n1 := same_ne o.kd
  have n2 := same_ne o.x
  have n3 := same_ne o.y
  have n4 := same_ne o.k
  have n5 := same_ne o.t
  go_enter Try.func57, Try.ntmps57
  go_wp2
  go_ret
  exact ⟨rfl, ((Below.refl _ _).alloc (Nat.le_refl _) _).alloc (by simp) _⟩
end Go.Proofs.Ytlgpnogeoaoidaa.Ir
