/-
  Sums as lists of parts: which are ok, how they stand; slices that hold them.
-/
import Derived.Test.YtckhfpaicnjknaaGreatIntS
import Derived.Test.YtckhfpaicnjknaaGreatJoB
namespace Go.Proofs.YtckhfpaicnjknaaGreat.Pol
open Go.ChangeShapes Go.WideShapes Go.ChangeAt Go.RowKit IntS
/-- A part: a word and its atoms. -/
abbrev Mono := Int × List Int
theorem all_no {f : Nat → Bool} {n k : Nat} (hk : k < n) (h : f k = false) : (List.range n).all f = false := by
  rw [List.all_eq_false]
  exact ⟨k, List.mem_range.2 hk, by rw [h]; decide⟩
theorem all_yes {f : Nat → Bool} {n : Nat} (h : ∀ k, k < n → f k = true) : (List.range n).all f = true := by
  rw [List.all_eq_true]
  exact fun k hk => h k (List.mem_range.1 hk)
theorem all_at {f : Nat → Bool} {n k : Nat} (h : (List.range n).all f = true) (hk : k < n) : f k = true := by
  rw [List.all_eq_true] at h
  exact h k (List.mem_range.2 hk)
/-- How two numbers stand. -/
def cmpI (a b : Int) : Int := if a < b then -1 else if b < a then 1 else 0
theorem cmp_lt {a b : Int} (h : a < b) : cmpI a b = -1 := if_pos h
theorem cmp_gt {a b : Int} (h : b < a) : cmpI a b = 1 := by unfold cmpI; rw [if_neg (by omega), if_pos h]
theorem cmp_eq {a b : Int} (h : a = b) : cmpI a b = 0 := by unfold cmpI; rw [if_neg (by omega), if_neg (by omega)]
/-- How two lists stand, by the first that differs. -/
def lexI : List Int → List Int → Int
  | [], [] => 0
  | [], _ :: _ => -1
  | _ :: _, [] => 1
  | x :: xs, y :: ys => if x < y then -1 else if y < x then 1 else lexI xs ys
/-- How parts with these atoms stand. -/
def ordA (a b : List Int) : Int := if a.length < b.length then -1 else if b.length < a.length then 1 else lexI a b
/-- Whether a list does not fall at a place. -/
def upAt (a : List Int) (j : Nat) : Bool := decide (j = 0 ∨ a.getD (j - 1) 0 ≤ a.getD j 0)
def atomAt (a : List Int) (j : Nat) : Bool := decide (0 ≤ a.getD j 0 ∧ a.getD j 0 < 200)
/-- Whether a part is ok. -/
def monoB (m : Mono) : Bool := decide (1 ≤ m.1 ∧ m.1 ≤ 65535) && decide (m.2.length ≤ 4) && (List.range m.2.length).all (fun j => atomAt m.2 j && upAt m.2 j)
def partAt (p : List Mono) (k : Nat) : Bool := monoB (p.getD k (0, [])) && decide (k = 0 ∨ ordA (p.getD (k - 1) (0, [])).2 (p.getD k (0, [])).2 < 0)
/-- Whether a sum is ok. -/
def okP (p : List Mono) : Bool := decide (p.length ≤ 12) && (List.range p.length).all (partAt p)
/-- Whether all atoms are below a number. -/
def underB (p : List Mono) (n : Int) : Bool := (List.range p.length).all fun i => (List.range (p.getD i (0, [])).2.length).all fun j => decide ((p.getD i (0, [])).2.getD j 0 < n)
/-- The word that a sum is. -/
def numP (p : List Mono) : Int × Bool := if okP p = false then (0, false) else match p with
  | [] => (0, true)
  | [(c, [])] => (c, true)
  | _ => (0, false)
/-- How two lists of parts stand, part by part. -/
def ordM : List Mono → List Mono → Int
  | [], [] => 0
  | [], _ :: _ => -1
  | _ :: _, [] => 1
  | x :: xs, y :: ys => if ordA x.2 y.2 ≠ 0 then ordA x.2 y.2 else if x.1 < y.1 then -1 else if y.1 < x.1 then 1 else ordM xs ys
def ordP (a b : List Mono) : Int := if a.length < b.length then -1 else if b.length < a.length then 1 else ordM a b
/-- What a part comes to. -/
def monoVal (vals : List Int) : List Int → Int → Int
  | [], c => c
  | k :: ks, c => monoVal vals ks (c * (if k < vals.length then vals.getD k.toNat 0 else 0) % 65536)
def sumVal (vals : List Int) : List Mono → Int → Int
  | [], n => n
  | m :: r, n => sumVal vals r ((n + monoVal vals m.2 m.1) % 65536)
/-- A slice that holds parts; they lie in block B, if there are any. -/
structure PRow (w : World) (B : Nat) (v : Value) (ps : List Mono) : Prop where
  ex : ∃ a cap off, v = .slice a ps.length cap ∧ ps.length ≤ cap ∧ cap ≤ maxLen ∧ (a = none → cap = 0) ∧ (ps = [] ∨ (a = some ⟨B, off, none⟩ ∧ ∀ (i : Nat) x, ps[i]? = some x → w.cell? ⟨B, off + i * 2, none⟩ = some (.int .i64 x.1) ∧ ∃ s b, w.cell? ⟨B, off + i * 2 + 1, none⟩ = some s ∧ Row w b s x.2))
theorem PRow.below {w w' : World} {B : Nat} {v : Value} {ps : List Mono} (h : PRow w B v ps) (hb : Below w.heap.size w w') : PRow w' B v ps := by
  obtain ⟨a, cap, off, h1, h2, h3, hz, h4⟩ := h
  refine ⟨a, cap, off, h1, h2, h3, hz, ?_⟩
  rcases h4 with h4 | ⟨h4, h5⟩
  · exact Or.inl h4
  · refine Or.inr ⟨h4, fun i x hx => ?_⟩
    obtain ⟨h6, s, b, h7, h8⟩ := h5 i x hx
    exact ⟨cell_below hb h6, s, b, cell_below hb h7, h8.below hb⟩
theorem Row.of_get {w : World} {B : Nat} {v : Value} {xs : List Int} (h : Row w B v xs) : ∃ a cap, v = .slice a xs.length cap := by
  obtain ⟨a, cap, _, rfl, _⟩ := h
  exact ⟨a, cap, rfl⟩
theorem getD_at {xs : List Int} {i : Nat} {x : Int} (h : xs[i]? = some x) : xs.getD i 0 = x := by rw [List.getD_eq_getElem?_getD, h]; rfl
theorem getD_part {ps : List Mono} {i : Nat} {x : Mono} (h : ps[i]? = some x) : ps.getD i (0, []) = x := by rw [List.getD_eq_getElem?_getD, h]; rfl
end Go.Proofs.YtckhfpaicnjknaaGreat.Pol
