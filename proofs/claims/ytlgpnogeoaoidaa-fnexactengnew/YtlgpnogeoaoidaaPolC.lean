/-
  How lists of ints stand, and whether they fall: contracts of cmp.Compare, cmp.Less, slices.Compare, slices.IsSorted at ints, of the program's orderOfAtoms and of the specification's l4Order and l1In.
-/
import Derived.Test.YtlgpnogeoaoidaaPolM
import Derived.StillTailTactics
namespace Go.Proofs.Ytlgpnogeoaoidaa.Pol
open Go.ChangeShapes Go.WideShapes Go.ChangeAt Go.RowKit IntS
theorem region_tail {P : Program} {id : Nat} {Q : Exit → Act → World → Prop} {a : Act} {w : World} {l : List Oper} (n : Nat) (hm : P.follows .mixedOrders = true) (hB : Region.lexTailB .any l.toArray n = true)
    (h : wpStill P l.toArray w.drew (fun a' => wpList P l.toArray Q (l.drop n) a' w.drew) (l.take n) a) : (Code.region id l.toArray true).wp P Q a w := wp_region_still_tail n hm hB h
/-- A head of reads that is still to be walked; nothing unfolds it by itself. -/
structure Head (P : Program) (ops : Array Oper) (w : World) (Q : Act → Prop) (l : List Oper) (a : Act) : Prop where
  h : wpStill P ops w Q l a
theorem head_yes {P : Program} {ops : Array Oper} {w : World} {Q : Act → Prop} {a : Act} {o : Oper} {rest : List Oper} (hw : Region.wanted o (yielded ops a.tmps) = true)
    (h : ∀ K : Act → Prop, (∀ a, Head P ops w Q rest a → K a) → o.still P a w K) : Head P ops w Q (o :: rest) a := ⟨wpStill_step fun K hK => by rw [if_pos hw]; exact h K (fun a h => hK a h.h)⟩
theorem head_no {P : Program} {ops : Array Oper} {w : World} {Q : Act → Prop} {a : Act} {o : Oper} {rest : List Oper} (hw : Region.wanted o (yielded ops a.tmps) = false)
    (h : Head P ops w Q rest (a.put o.dst undef)) : Head P ops w Q (o :: rest) a := ⟨wpStill_step fun K hK => by rw [if_neg (by rw [hw]; decide)]; exact hK _ h.h⟩
theorem head_nil {P : Program} {ops : Array Oper} {w : World} {Q : Act → Prop} {a : Act} (h : Q a) : Head P ops w Q [] a := ⟨wpStill_nil h⟩
theorem region_head {P : Program} {id : Nat} {Q : Exit → Act → World → Prop} {a : Act} {w : World} {l : List Oper} (n : Nat) (hm : P.follows .mixedOrders = true) (hB : Region.lexTailB .any l.toArray n = true)
    (h : Head P l.toArray w.drew (fun a' => wpList P l.toArray Q (l.drop n) a' w.drew) (l.take n) a) : (Code.region id l.toArray true).wp P Q a w := wp_region_still_tail n hm hB h.h
theorem drop_cons {α : Type} {a : List α} {k : Nat} {x : α} (h : a[k]? = some x) : a.drop k = x :: a.drop (k + 1) := by
  obtain ⟨hk, rfl⟩ := List.getElem?_eq_some_iff.1 h
  exact List.drop_eq_getElem_cons hk
theorem lex_lt {a b : List Int} {k : Nat} {x y : Int} (hx : a[k]? = some x) (hy : b[k]? = some y) (h : x < y) : lexI (a.drop k) (b.drop k) = -1 := by
  rw [drop_cons hx, drop_cons hy, lexI, if_pos h]
theorem lex_gt {a b : List Int} {k : Nat} {x y : Int} (hx : a[k]? = some x) (hy : b[k]? = some y) (h : y < x) : lexI (a.drop k) (b.drop k) = 1 := by
  rw [drop_cons hx, drop_cons hy, lexI, if_neg (by omega), if_pos h]
theorem lex_eq {a b : List Int} {k : Nat} {x y : Int} (hx : a[k]? = some x) (hy : b[k]? = some y) (h : x = y) : lexI (a.drop k) (b.drop k) = lexI (a.drop (k + 1)) (b.drop (k + 1)) := by
  rw [drop_cons hx, drop_cons hy, lexI, if_neg (by omega), if_neg (by omega)]
theorem lex_end {a b : List Int} {k : Nat} (ha : a.length ≤ k) (hb : b.length ≤ k) : lexI (a.drop k) (b.drop k) = 0 := by
  rw [List.drop_eq_nil_of_le ha, List.drop_eq_nil_of_le hb]
  rfl
theorem ord_same {a b : List Int} (h : a.length = b.length) : ordA a b = lexI a b := by unfold ordA; rw [if_neg (by omega), if_neg (by omega)]
theorem ord_lt {a b : List Int} (h : a.length < b.length) : ordA a b = -1 := by unfold ordA; rw [if_pos h]
theorem ord_gt {a b : List Int} (h : b.length < a.length) : ordA a b = 1 := by unfold ordA; rw [if_neg (by omega), if_pos h]
theorem lex_bd : ∀ a b : List Int, lexI a b = -1 ∨ lexI a b = 0 ∨ lexI a b = 1
  | [], [] => by simp [lexI]
  | [], _ :: _ => by simp [lexI]
  | _ :: _, [] => by simp [lexI]
  | x :: xs, y :: ys => by
    rw [lexI]
    split
    · exact Or.inl rfl
    · split
      · exact Or.inr (Or.inr rfl)
      · exact lex_bd xs ys
theorem ord_bd (a b : List Int) : ordA a b = -1 ∨ ordA a b = 0 ∨ ordA a b = 1 := by
  unfold ordA
  split
  · exact Or.inl rfl
  · split
    · exact Or.inr (Or.inr rfl)
    · exact lex_bd a b
def inI (n lo hi : Int) : Bool := decide (lo ≤ n ∧ n ≤ hi)
theorem l1In (n lo hi : Int) (w : World) : Calls Try.prog 40 #[.int .i64 n, .int .i64 lo, .int .i64 hi] w fun e w' => e = .returned (.bool (inI n lo hi)) ∧ w' = w := by
  by_cases h0 : lo ≤ n
  · by_cases h1 : n ≤ hi
    · have HD : Hid (inI n lo hi = true) := decide_eq_true ⟨h0, h1⟩
      go_enter Try.func40, Try.ntmps40
      go_wp2
      go_ret
      exact ⟨ret_bool HD.out.symm, rfl⟩
    · have HD : Hid (inI n lo hi = false) := decide_eq_false (fun h => h1 h.2)
      go_enter Try.func40, Try.ntmps40
      go_wp2
      go_ret
      exact ⟨ret_bool HD.out.symm, rfl⟩
  · have HD : Hid (inI n lo hi = false) := decide_eq_false (fun h => h0 h.1)
    go_enter Try.func40, Try.ntmps40
    go_wp2
    go_ret
    exact ⟨ret_bool HD.out.symm, rfl⟩
end Go.Proofs.Ytlgpnogeoaoidaa.Pol
