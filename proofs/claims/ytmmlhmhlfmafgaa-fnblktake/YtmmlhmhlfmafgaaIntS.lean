/-
  Slices of ints: what it is that one holds a list, and contracts of the laws' own helpers over them (szIntS, eqIntS, heldIntS, markIntS, toIntS).
-/
import Derived.Test.YtmmlhmhlfmafgaaProg
import Derived.WalkKit
import Derived.WalkSpells
import Derived.ProofKit
import Derived.OwnWalk
import Derived.OpenShut
import Derived.Below
import Derived.Handy
import Derived.Deep.OwnRows
namespace Go.Proofs.Ytmmlhmhlfmafgaa.IntS
open Go.ChangeShapes Go.WideShapes Go.ChangeAt Go.RowKit
theorem hide {p : Prop} (h : p) : Hid p := h
theorem ret_bool {b c : Bool} (h : b = c) : Ending.returned (.bool b) = .returned (.bool c) := by rw [h]
theorem ret_int {b c : Int} (h : b = c) : Ending.returned (.int .i64 b) = .returned (.int .i64 c) := by rw [h]
theorem cell_below {w w' : World} (hb : Below w.heap.size w w') {a : Addr} {v : Value} (h : w.cell? a = some v) : w'.cell? a = some v :=
  (hb.cell (World.block_lt_of_cell? w a h)).trans h
/-- A slice that holds a list of ints; they lie in block B, if there are any. -/
structure Row (w : World) (B : Nat) (v : Value) (xs : List Int) : Prop where
  ex : ∃ a cap off, v = .slice a xs.length cap ∧ xs.length ≤ cap ∧ cap ≤ maxLen ∧ (a = none → cap = 0) ∧ (xs = [] ∨ (a = some ⟨B, off, none⟩ ∧ ∀ (i : Nat) x, xs[i]? = some x → w.cell? ⟨B, off + i, none⟩ = some (.int .i64 x)))
theorem Row.below {w w' : World} {B : Nat} {v : Value} {xs : List Int} (h : Row w B v xs) (hb : Below w.heap.size w w') : Row w' B v xs := by
  obtain ⟨a, cap, off, h1, h2, h3, hz, h4⟩ := h
  refine ⟨a, cap, off, h1, h2, h3, hz, ?_⟩
  rcases h4 with h4 | ⟨h4, h5⟩
  · exact Or.inl h4
  · exact Or.inr ⟨h4, fun i x hx => cell_below hb (h5 i x hx)⟩
/-- Of the blocks that were there only block B may have turned. -/
structure Turn (B : Nat) (w w' : World) : Prop where
  os : w'.os = w.os
  tape : w'.tape = w.tape
  output : w'.output = w.output
  size : w.heap.size ≤ w'.heap.size
  block : ∀ k, k < w.heap.size → k ≠ B → w'.heap[k]? = w.heap[k]?
theorem Turn.refl (B : Nat) (w : World) : Turn B w w := ⟨rfl, rfl, rfl, Nat.le_refl _, fun _ _ _ => rfl⟩
theorem Turn.trans {B : Nat} {a b c : World} (h : Turn B a b) (k : Turn B b c) : Turn B a c :=
  ⟨k.os.trans h.os, k.tape.trans h.tape, k.output.trans h.output, Nat.le_trans h.size k.size, fun j hj hB => (k.block j (Nat.lt_of_lt_of_le hj h.size) hB).trans (h.block j hj hB)⟩
theorem Turn.of_below {B : Nat} {w w' : World} (h : Below w.heap.size w w') : Turn B w w' := ⟨h.os, h.tape, h.output, h.size, fun k hk _ => h.block k hk⟩
theorem Turn.below {B n : Nat} {w w' : World} (h : Turn B w w') (hB : n ≤ B) (hn : n ≤ w.heap.size) : Below n w w' :=
  ⟨h.os, h.tape, h.output, h.size, fun k hk => h.block k (Nat.lt_of_lt_of_le hk hn) (by omega)⟩
theorem Turn.cell {B : Nat} {w w' : World} (h : Turn B w w') {p : Addr} (hp : p.block < w.heap.size) (hB : p.block ≠ B) : w'.cell? p = w.cell? p := World.cell?_of_block (w := w) (h.block p.block hp hB)
theorem Turn.frozen {B : Nat} {w w' : World} (h : Turn B w w') {p : Addr} (hp : p.block < w.heap.size) (hB : p.block ≠ B) : w'.frozen? p = w.frozen? p := World.frozen?_of_block (w := w) (h.block p.block hp hB)
theorem Turn.drew {B : Nat} {w w' : World} (h : Turn B w w') : Turn B w w'.drew := ⟨h.os, h.tape, h.output, h.size, h.block⟩
theorem Turn.setCell {B : Nat} {w w' : World} (h : Turn B w w') {p : Addr} (hp : p.block = B) (v : Value) : Turn B w (w'.setCell p v) := by
  have hb : Below B w' (w'.setCell p v) := (Below.refl B w').setCell (Nat.le_of_eq hp.symm) v
  refine ⟨hb.os.trans h.os, hb.tape.trans h.tape, hb.output.trans h.output, Nat.le_trans h.size hb.size, fun k hk hB => ?_⟩
  rw [← h.block k hk hB]
  exact Below.heap_setCell w' p v k (by rw [hp]; exact hB)
/-- A slice of ints that may be written. -/
structure WRow (w : World) (B : Nat) (v : Value) (xs : List Int) : Prop where
  ex : ∃ a cap off, v = .slice a xs.length cap ∧ xs.length ≤ cap ∧ cap ≤ maxLen ∧ (a = none → cap = 0) ∧ (xs = [] ∨ (a = some ⟨B, off, none⟩ ∧ B < w.heap.size ∧ ∀ (i : Nat) x, xs[i]? = some x → w.cell? ⟨B, off + i, none⟩ = some (.int .i64 x) ∧ w.frozen? ⟨B, off + i, none⟩ = false))
theorem WRow.row {w : World} {B : Nat} {v : Value} {xs : List Int} (h : WRow w B v xs) : Row w B v xs := by
  obtain ⟨a, cap, off, h1, h2, h3, hz, h4⟩ := h
  refine ⟨a, cap, off, h1, h2, h3, hz, ?_⟩
  rcases h4 with h4 | ⟨h4, _, h5⟩
  · exact Or.inl h4
  · exact Or.inr ⟨h4, fun i x hx => (h5 i x hx).1⟩
theorem WRow.turn {w w' : World} {B B' : Nat} {v : Value} {xs : List Int} (h : WRow w B v xs) (ht : Turn B' w w') (hB : B ≠ B') : WRow w' B v xs := by
  obtain ⟨a, cap, off, h1, h2, h3, hz, h4⟩ := h
  refine ⟨a, cap, off, h1, h2, h3, hz, ?_⟩
  rcases h4 with h4 | ⟨h4, hlt, h5⟩
  · exact Or.inl h4
  · exact Or.inr ⟨h4, Nat.lt_of_lt_of_le hlt ht.size, fun i x hx => ⟨(ht.cell (p := ⟨B, off + i, none⟩) hlt hB).trans (h5 i x hx).1, (ht.frozen (p := ⟨B, off + i, none⟩) hlt hB).trans (h5 i x hx).2⟩⟩
theorem WRow.below {w w' : World} {B : Nat} {v : Value} {xs : List Int} (h : WRow w B v xs) (hb : Below w.heap.size w w') : WRow w' B v xs := h.turn (B' := B + 1) (Turn.of_below hb) (by omega)
/-- So many numbers, one by one, from a first one on. -/
def marks (k : Int) (n : Nat) : List Int := (List.range n).map fun (i : Nat) => k + (i : Int)
theorem marks_len (k : Int) (n : Nat) : (marks k n).length = n := by simp [marks]
theorem marks_at {k : Int} {n i : Nat} (h : i < n) : (marks k n)[i]? = some (k + i) := by simp [marks, h]
/-- Where a slice has been marked up to a place. -/
structure Marked (w : World) (B off n : Nat) (k : Int) (j : Nat) (u : World) : Prop where
  turn : Turn B w u
  lt : B < u.heap.size
  done : ∀ i, i < j → u.cell? ⟨B, off + i, none⟩ = some (.int .i64 (k + (i : Int)))
  left : ∀ i, j ≤ i → i < n → ∃ y : Int, u.cell? ⟨B, off + i, none⟩ = some (.int .i64 y)
  soft : ∀ i, i < n → u.frozen? ⟨B, off + i, none⟩ = false
theorem Marked.next {w u : World} {B off n j : Nat} {k : Int} (h : Marked w B off n k j u) (hj : j < n) : Marked w B off n k (j + 1) (u.setCell ⟨B, off + j, none⟩ (.int .i64 (k + (j : Int)))) := by
  obtain ⟨y, hy⟩ := h.left j (Nat.le_refl _) hj
  have hne (i : Nat) (hi : i ≠ j) : (u.setCell ⟨B, off + j, none⟩ (.int .i64 (k + (j : Int)))).cell? ⟨B, off + i, none⟩ = u.cell? ⟨B, off + i, none⟩ := World.cell?_setCell_other u _ _ _ (fun e => hi (by have h2 : off + j = off + i := congrArg Addr.off e; omega))
  refine ⟨h.turn.setCell rfl _, by simpa [World.setCell] using h.lt, fun i hi => ?_, fun i h1 h2 => ?_, fun i hi => (World.frozen?_setCell ..).trans (h.soft i hi)⟩
  · by_cases e : i = j
    · subst e
      exact World.cell?_setCell_same u _ _ hy
    · rw [hne i e]
      exact h.done i (by omega)
  · rw [hne i (by omega)]
    exact h.left i (by omega) h2
/-- Where a slice has been filled up to a place. -/
structure Filled (w : World) (n : Nat) (xs : List Int) (j : Nat) (u : World) : Prop where
  below : Below w.heap.size w u
  lt : w.heap.size < u.heap.size
  done : ∀ i x, i < j → xs[i]? = some x → u.cell? ⟨w.heap.size, i, none⟩ = some (.int .i64 x)
  left : ∀ i, i < n → ∃ y : Int, u.cell? ⟨w.heap.size, i, none⟩ = some (.int .i64 y)
  soft : ∀ i, i < n → u.frozen? ⟨w.heap.size, i, none⟩ = false
theorem Filled.next {w u : World} {n j : Nat} {xs : List Int} {x : Int} (h : Filled w n xs j u) (hj : j < n) (hx : xs[j]? = some x) : Filled w n xs (j + 1) (u.setCell ⟨w.heap.size, j, none⟩ (.int .i64 x)) := by
  obtain ⟨y, hy⟩ := h.left j hj
  have hne (i : Nat) (hi : i ≠ j) : (u.setCell ⟨w.heap.size, j, none⟩ (.int .i64 x)).cell? ⟨w.heap.size, i, none⟩ = u.cell? ⟨w.heap.size, i, none⟩ := World.cell?_setCell_other u _ _ _ (fun e => hi (by have h2 : j = i := congrArg Addr.off e; omega))
  refine ⟨h.below.setCell (Nat.le_refl _) _, by simpa [World.setCell] using h.lt, fun i z hi hz => ?_, fun i h2 => ?_, fun i hi => (World.frozen?_setCell ..).trans (h.soft i hi)⟩
  · by_cases e : i = j
    · subst e
      rw [hx] at hz
      obtain rfl := Option.some.inj hz
      exact World.cell?_setCell_same u _ _ hy
    · rw [hne i e]
      exact h.done i z (by omega) hz
  · by_cases e : i = j
    · subst e
      exact ⟨x, World.cell?_setCell_same u _ _ hy⟩
    · rw [hne i e]
      exact h.left i h2
theorem filled_new (w : World) (n : Nat) (xs : List Int) (t : TypeId) : Filled w n xs 0 (w.alloc (.cells (madeCells #[.int .i64 0] n) t)) := by
  have hc (i : Nat) (hi : i < n) : (w.alloc (.cells (madeCells #[.int .i64 0] n) t)).cell? ⟨w.heap.size, i, none⟩ = some (.int .i64 0) := by
    rw [World.cell?_alloc_new]
    simp [madeCells, hi, Nat.mod_one]
  refine ⟨(Below.refl _ _).alloc (Nat.le_refl _) _, by simp, fun i x hi => by omega, fun i hi => ⟨0, hc i hi⟩, fun i hi => by simp⟩
end Go.Proofs.Ytmmlhmhlfmafgaa.IntS
