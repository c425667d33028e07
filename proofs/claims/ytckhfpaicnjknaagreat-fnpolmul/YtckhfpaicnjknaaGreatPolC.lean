/-
  How lists of ints stand, and whether they fall: contracts of cmp.Compare, cmp.Less, slices.Compare, slices.IsSorted at ints, of the program's orderOfAtoms and of the specification's l4Order and l1In.
-/
import Derived.Test.YtckhfpaicnjknaaGreatPolM
import Derived.StillTailTactics
namespace Go.Proofs.YtckhfpaicnjknaaGreat.Pol
open Go.ChangeShapes Go.WideShapes Go.ChangeAt Go.RowKit IntS
theorem region_tail {P : Program} {id : Nat} {Q : Exit → Act → World → Prop} {a : Act} {w : World} {l : List Oper} (n : Nat) (hm : P.follows .mixedOrders = true) (hB : Region.lexTailB .any l.toArray n = true)
    (h : wpStill P l.toArray w.drew (fun a' => wpList P l.toArray Q (l.drop n) a' w.drew) (l.take n) a) : (Code.region id l.toArray true).wp P Q a w := wp_region_still_tail n hm hB h
/-- A head of reads that is still to be walked; nothing unfolds it by itself. -/
structure Head (P : Program) (ops : Array Oper) (w : World) (Q : Act → Prop) (l : List Oper) (a : Act) : Prop where
  h : wpStill P ops w Q l a
theorem head_yes {P : Program} {ops : Array Oper} {w : World} {Q : Act → Prop} {a : Act} {o : Oper} {rest : List Oper} (hw : Region.wanted o (yielded ops a.tmps) = true)
    (h : ∀ K : Act → Prop, (∀ a, Head P ops w Q rest a → K a) → o.still P a w K) : Head P ops w Q (o :: rest) a := ⟨wpStill_step fun K hK => by rw [if_pos hw]; exact h K (fun a h => hK a h.h)⟩
theorem head_no {P : Program} {ops : Array Oper} {w : World} {Q : Act → Prop} {a : Act} {o : Oper} {rest : List Oper} (hw : Region.wanted o (yielded ops a.tmps) = false)
    (h : Head P ops w Q rest (a.put o.dst undef)) : Head P ops w Q (o :: rest) a := ⟨wpStill_step fun K hK => by rw [if_neg (by rw [hw]; decide)]; exact hK _ h.h⟩
theorem head_nil {P : Program} {ops : Array Oper} {w : World} {Q : Act → Prop} {a : Act} (h : Q a) : Head P ops w Q [] a := ⟨wpStill_nil h⟩
theorem region_head {P : Program} {id : Nat} {Q : Exit → Act → World → Prop} {a : Act} {w : World} {l : List Oper} (n : Nat) (hm : P.follows .mixedOrders = true) (hB : Region.lexTailB .any l.toArray n = true)
    (h : Head P l.toArray w.drew (fun a' => wpList P l.toArray Q (l.drop n) a' w.drew) (l.take n) a) : (Code.region id l.toArray true).wp P Q a w := wp_region_still_tail n hm hB h.h
theorem drop_cons {α : Type} {a : List α} {k : Nat} {x : α} (h : a[k]? = some x) : a.drop k = x :: a.drop (k + 1) := by
  obtain ⟨hk, rfl⟩ := List.getElem?_eq_some_iff.1 h
  exact List.drop_eq_getElem_cons hk
theorem lex_lt {a b : List Int} {k : Nat} {x y : Int} (hx : a[k]? = some x) (hy : b[k]? = some y) (h : x < y) : lexI (a.drop k) (b.drop k) = -1 := by
  rw [drop_cons hx, drop_cons hy, lexI, if_pos h]
theorem lex_gt {a b : List Int} {k : Nat} {x y : Int} (hx : a[k]? = some x) (hy : b[k]? = some y) (h : y < x) : lexI (a.drop k) (b.drop k) = 1 := by
  rw [drop_cons hx, drop_cons hy, lexI, if_neg (by omega), if_pos h]
theorem lex_eq {a b : List Int} {k : Nat} {x y : Int} (hx : a[k]? = some x) (hy : b[k]? = some y) (h : x = y) : lexI (a.drop k) (b.drop k) = lexI (a.drop (k + 1)) (b.drop (k + 1)) := by
  rw [drop_cons hx, drop_cons hy, lexI, if_neg (by omega), if_neg (by omega)]
theorem lex_end {a b : List Int} {k : Nat} (ha : a.length ≤ k) (hb : b.length ≤ k) : lexI (a.drop k) (b.drop k) = 0 := by
  rw [List.drop_eq_nil_of_le ha, List.drop_eq_nil_of_le hb]
  rfl
theorem ord_same {a b : List Int} (h : a.length = b.length) : ordA a b = lexI a b := by unfold ordA; rw [if_neg (by omega), if_neg (by omega)]
theorem ord_lt {a b : List Int} (h : a.length < b.length) : ordA a b = -1 := by unfold ordA; rw [if_pos h]
theorem ord_gt {a b : List Int} (h : b.length < a.length) : ordA a b = 1 := by unfold ordA; rw [if_neg (by omega), if_pos h]
theorem lex_bd : ∀ a b : List Int, lexI a b = -1 ∨ lexI a b = 0 ∨ lexI a b = 1
  | [], [] => by simp [lexI]
  | [], _ :: _ => by simp [lexI]
  | _ :: _, [] => by simp [lexI]
  | x :: xs, y :: ys => by
    rw [lexI]
    split
    · exact Or.inl rfl
    · split
      · exact Or.inr (Or.inr rfl)
      · exact lex_bd xs ys
theorem ord_bd (a b : List Int) : ordA a b = -1 ∨ ordA a b = 0 ∨ ordA a b = 1 := by
  unfold ordA
  split
  · exact Or.inl rfl
  · split
    · exact Or.inr (Or.inr rfl)
    · exact lex_bd a b
def inI (n lo hi : Int) : Bool := decide (lo ≤ n ∧ n ≤ hi)
theorem l1In (n lo hi : Int) (w : World) : Calls Tryz.prog 54 #[.int .i64 n, .int .i64 lo, .int .i64 hi] w fun e w' => e = .returned (.bool (inI n lo hi)) ∧ w' = w := by
  by_cases h0 : lo ≤ n
  · by_cases h1 : n ≤ hi
    · have HD : Hid (inI n lo hi = true) := decide_eq_true ⟨h0, h1⟩
      go_enter Tryz.func54, Tryz.ntmps54
      go_wp2
      go_ret
      exact ⟨ret_bool HD.out.symm, rfl⟩
    · have HD : Hid (inI n lo hi = false) := decide_eq_false (fun h => h1 h.2)
      go_enter Tryz.func54, Tryz.ntmps54
      go_wp2
      go_ret
      exact ⟨ret_bool HD.out.symm, rfl⟩
  · have HD : Hid (inI n lo hi = false) := decide_eq_false (fun h => h0 h.1)
    go_enter Tryz.func54, Tryz.ntmps54
    go_wp2
    go_ret
    exact ⟨ret_bool HD.out.symm, rfl⟩
theorem isNaN (x : Int) (w : World) : Calls Tryz.prog 74 #[.int .i64 x] w fun e w' => e = .returned (.bool false) ∧ w' = w := by
  have h : (x != x) = false := by simp
  go_enter Tryz.func74, Tryz.ntmps74
  go_wp2
  go_ret
  exact ⟨rfl, rfl⟩
theorem compare (x y : Int) (w : World) : Calls Tryz.prog 63 #[.int .i64 x, .int .i64 y] w fun e w' => e = .returned (.int .i64 (cmpI x y)) ∧ w' = w := by
  by_cases h0 : x < y
  · have HD := hide (cmp_lt h0)
    go_enter Tryz.func63, Tryz.ntmps63
    go_wp2_with fail
    refine (isNaN x _).mono ?_
    rintro e u ⟨rfl, rfl⟩
    go_wp2_with fail
    refine (isNaN y _).mono ?_
    rintro e u ⟨rfl, rfl⟩
    go_wp2
    go_ret
    exact ⟨ret_int HD.out.symm, rfl⟩
  · by_cases h1 : y < x
    · have HD := hide (cmp_gt h1)
      go_enter Tryz.func63, Tryz.ntmps63
      go_wp2_with fail
      refine (isNaN x _).mono ?_
      rintro e u ⟨rfl, rfl⟩
      go_wp2_with fail
      refine (isNaN y _).mono ?_
      rintro e u ⟨rfl, rfl⟩
      go_wp2
      go_ret
      exact ⟨ret_int HD.out.symm, rfl⟩
    · have HD := hide (cmp_eq (a := x) (b := y) (by omega))
      go_enter Tryz.func63, Tryz.ntmps63
      go_wp2_with fail
      refine (isNaN x _).mono ?_
      rintro e u ⟨rfl, rfl⟩
      go_wp2_with fail
      refine (isNaN y _).mono ?_
      rintro e u ⟨rfl, rfl⟩
      go_wp2
      go_ret
      exact ⟨ret_int HD.out.symm, rfl⟩
theorem less (x y : Int) (w : World) : Calls Tryz.prog 73 #[.int .i64 x, .int .i64 y] w fun e w' => e = .returned (.bool (decide (x < y))) ∧ w' = w := by
  go_enter Tryz.func73, Tryz.ntmps73
  go_wp2_with fail
  refine (isNaN x _).mono ?_
  rintro e u ⟨rfl, rfl⟩
  go_wp2
  go_ret
  exact ⟨rfl, rfl⟩
set_option maxRecDepth 8000 in
set_option maxHeartbeats 2000000 in
theorem sliceCompare (xs ys : List Int) (B B' : Nat) (v v' : Value) (w : World) (h : Row w B v xs) (h' : Row w B' v' ys) (hl : xs.length = ys.length) :
    Calls Tryz.prog 64 #[v, v'] w fun e w' => e = .returned (.int .i64 (lexI xs ys)) ∧ w' = w := by
  obtain ⟨a, cap, off, rfl, h2, h3, hz, h4⟩ := h
  obtain ⟨a', cap', off', rfl, h2', h3', hz', h4'⟩ := h'
  unfold maxLen at h3 h3'
  clear hz hz'
  obtain ⟨n, hn⟩ : ∃ n, xs.length = n := ⟨_, rfl⟩
  have hn' : ys.length = n := by omega
  rw [hn] at h2 ⊢
  rw [hn'] at h2' ⊢
  have EN := hide hn
  have EN' := hide hn'
  have H4 := hide h4
  have H4' := hide h4'
  clear hn hn' h4 h4' hl
  by_cases h0 : n = 0
  · subst h0
    have HD : Hid (lexI xs ys = 0) := show _ = _ by rw [List.length_eq_zero_iff.1 EN.out, List.length_eq_zero_iff.1 EN'.out]; rfl
    clear H4 H4' EN EN'
    go_enter Tryz.func64, Tryz.ntmps64
    go_wp2
    refine wp_loop_rounds 1 ?_
    rw [rounds_succ]
    go_wp2
    go_ret
    exact ⟨ret_int HD.out.symm, rfl⟩
  · obtain ⟨rfl, hc⟩ := H4.out.resolve_left (fun e => h0 (by rw [← EN.out, e]; rfl))
    obtain ⟨rfl, hc'⟩ := H4'.out.resolve_left (fun e => h0 (by rw [← EN'.out, e]; rfl))
    have HC := hide hc
    have HC' := hide hc'
    clear hc hc' H4 H4'
    go_enter Tryz.func64, Tryz.ntmps64
    go_wp2
    go_loopw [11] (fun i wr => ∃ k : Nat, k ≤ n ∧ i = .int .i64 k ∧ Hid (lexI (xs.drop k) (ys.drop k) = lexI xs ys) ∧ wr = w) (fun i _ => n - (intOf i).toNat)
    case atStart => exact ⟨0, by omega, rfl, rfl, rfl⟩
    case round =>
      obtain ⟨k, hk, rfl, HE, rfl⟩ := hrel
      by_cases hlt : k < n
      · obtain ⟨x, ex⟩ : ∃ x, xs[k]? = some x := ⟨_, List.getElem?_eq_getElem (by rw [EN.out]; exact hlt)⟩
        obtain ⟨y, ey⟩ : ∃ y, ys[k]? = some y := ⟨_, List.getElem?_eq_getElem (by rw [EN'.out]; exact hlt)⟩
        have cx := HC.out k x ex
        have cy := HC'.out k y ey
        have EX := hide ex
        have EY := hide ey
        clear ex ey
        have hlt2 : ¬ (n : Int) ≤ k := by omega
        go_wp2_with fail
        refine (compare x y _).mono ?_
        rintro e u ⟨rfl, rfl⟩
        by_cases e1 : x < y
        · have HD : Hid (lexI xs ys = -1) := HE.out.symm.trans (lex_lt EX.out EY.out e1)
          rw [cmp_lt e1]
          clear e1
          go_wp2
          go_ret
          exact ⟨ret_int HD.out.symm, rfl⟩
        · by_cases e2 : y < x
          · have HD : Hid (lexI xs ys = 1) := HE.out.symm.trans (lex_gt EX.out EY.out e2)
            rw [cmp_gt e2]
            clear e1 e2
            go_wp2
            go_ret
            exact ⟨ret_int HD.out.symm, rfl⟩
          · have HX : Hid (lexI (xs.drop (k + 1)) (ys.drop (k + 1)) = lexI xs ys) := (lex_eq EX.out EY.out (by omega)).symm.trans HE.out
            rw [cmp_eq (show x = y by omega)]
            clear e1 e2
            go_wp2
            exact ⟨⟨k + 1, by omega, by go_num, HX, trivial⟩, by simp [intOf]; omega⟩
      · have HD : Hid (lexI xs ys = 0) := HE.out.symm.trans (lex_end (by rw [EN.out]; omega) (by rw [EN'.out]; omega))
        go_wp2
        go_ret
        exact ⟨ret_int HD.out.symm, rfl⟩
theorem orderOfAtoms (xs ys : List Int) (B B' : Nat) (v v' : Value) (w : World) (h : Row w B v xs) (h' : Row w B' v' ys) :
    Calls Tryz.prog 42 #[v, v'] w fun e w' => e = .returned (.int .i64 (ordA xs ys)) ∧ w' = w := by
  have H := hide h
  have H' := hide h'
  obtain ⟨a, cap, off, rfl, h2, h3, hz, h4⟩ := h
  obtain ⟨a', cap', off', rfl, h2', h3', hz', h4'⟩ := h'
  unfold maxLen at h3 h3'
  clear hz hz' h4 h4'
  go_enter Tryz.func42, Tryz.ntmps42
  go_wp2_with fail
  refine (compare xs.length ys.length _).mono ?_
  rintro e u ⟨rfl, rfl⟩
  by_cases e1 : xs.length < ys.length
  · have HD := hide (ord_lt e1)
    rw [cmp_lt (show (xs.length : Int) < ys.length by omega)]
    clear e1
    go_wp2
    go_ret
    exact ⟨ret_int HD.out.symm, rfl⟩
  · by_cases e2 : ys.length < xs.length
    · have HD := hide (ord_gt e2)
      rw [cmp_gt (show (ys.length : Int) < xs.length by omega)]
      clear e1 e2
      go_wp2
      go_ret
      exact ⟨ret_int HD.out.symm, rfl⟩
    · have HL : Hid (xs.length = ys.length) := show _ = _ by omega
      have HD := hide (ord_same HL.out)
      rw [cmp_eq (show (xs.length : Int) = ys.length by omega)]
      clear e1 e2
      go_wp2_with fail
      refine (sliceCompare xs ys B B' _ _ _ H.out H'.out HL.out).mono ?_
      rintro e u ⟨rfl, rfl⟩
      go_wp2
      go_ret
      exact ⟨ret_int HD.out.symm, rfl⟩
set_option maxRecDepth 8000 in
set_option maxHeartbeats 2000000 in
theorem l4Order (xs ys : List Int) (B B' : Nat) (v v' : Value) (w : World) (h : Row w B v xs) (h' : Row w B' v' ys) :
    Calls Tryz.prog 37 #[v, v'] w fun e w' => e = .returned (.int .i64 (ordA xs ys)) ∧ Below w.heap.size w w' := by
  obtain ⟨a, cap, off, rfl, h2, h3, hz, h4⟩ := h
  obtain ⟨a', cap', off', rfl, h2', h3', hz', h4'⟩ := h'
  unfold maxLen at h3 h3'
  clear hz hz'
  by_cases hl : xs.length = ys.length
  · have HO := hide (ord_same hl)
    obtain ⟨n, hn⟩ : ∃ n, xs.length = n := ⟨_, rfl⟩
    have hn' : ys.length = n := by omega
    rw [hn] at h2 ⊢
    rw [hn'] at h2' ⊢
    have EN := hide hn
    have EN' := hide hn'
    have H4 := hide h4
    have H4' := hide h4'
    have nn : ((n : Int) != (n : Int)) = false := by simp
    clear hn hn' h4 h4' hl
    by_cases h0 : n = 0
    · subst h0
      have HD : Hid (ordA xs ys = 0) := show _ = _ by rw [HO.out, List.length_eq_zero_iff.1 EN.out, List.length_eq_zero_iff.1 EN'.out]; rfl
      clear H4 H4' EN EN' HO
      go_enter Tryz.func37, Tryz.ntmps37
      go_wp2
      refine wp_loop_rounds 1 ?_
      rw [rounds_succ]
      go_wp2
      go_ret
      exact ⟨ret_int HD.out.symm, Below.refl _ _⟩
    · obtain ⟨rfl, hc⟩ := H4.out.resolve_left (fun e => h0 (by rw [← EN.out, e]; rfl))
      obtain ⟨rfl, hc'⟩ := H4'.out.resolve_left (fun e => h0 (by rw [← EN'.out, e]; rfl))
      have HC := hide hc
      have HC' := hide hc'
      clear hc hc' H4 H4'
      go_enter Tryz.func37, Tryz.ntmps37
      go_wp2
      go_loopw [5] (fun i wr => ∃ k : Nat, k ≤ n ∧ i = .int .i64 k ∧ Hid (lexI (xs.drop k) (ys.drop k) = lexI xs ys) ∧ Hid (Below w.heap.size w wr)) (fun i _ => n - (intOf i).toNat)
      case atStart => exact ⟨0, by omega, rfl, rfl, Below.refl _ _⟩
      case round =>
        obtain ⟨k, hk, rfl, HE, HB⟩ := hrel
        by_cases hlt : k < n
        · obtain ⟨x, ex⟩ : ∃ x, xs[k]? = some x := ⟨_, List.getElem?_eq_getElem (by rw [EN.out]; exact hlt)⟩
          obtain ⟨y, ey⟩ : ∃ y, ys[k]? = some y := ⟨_, List.getElem?_eq_getElem (by rw [EN'.out]; exact hlt)⟩
          have cx := cell_below HB.out (HC.out k x ex)
          have cy := cell_below HB.out (HC'.out k y ey)
          have EX := hide ex
          have EY := hide ey
          clear ex ey
          by_cases e1 : x < y
          · have HD : Hid (ordA xs ys = -1) := HO.out.trans (HE.out.symm.trans (lex_lt EX.out EY.out e1))
            have HD2 : Hid (Below w.heap.size w wr.drew) := HB.out.drew
            go_wp2
            go_still (by kernel_rfl)
            go_wp2
            go_ret
            exact ⟨ret_int HD.out.symm, HD2.out⟩
          · by_cases e2 : y < x
            · have HD : Hid (ordA xs ys = 1) := HO.out.trans (HE.out.symm.trans (lex_gt EX.out EY.out e2))
              have HD2 : Hid (Below w.heap.size w wr.drew.drew) := HB.out.drew.drew
              go_wp2_with fail
              refine region_tail 8 (by kernel_rfl) (by kernel_rfl) ?_
              simp only [List.take_succ_cons, List.take_zero, List.drop_succ_cons, List.drop_zero]
              repeat still_step
              refine wpStill_nil ?_
              go_wp2_with fail
              have dx : wr.drew.cell? ⟨B, off + k, none⟩ = some (.int .i64 x) := cx
              have dy : wr.drew.cell? ⟨B', off' + k, none⟩ = some (.int .i64 y) := cy
              clear cx cy
              generalize wr.drew = wd at dx dy HD2 ⊢
              refine region_tail 8 (by kernel_rfl) (by kernel_rfl) ?_
              simp only [List.take_succ_cons, List.take_zero, List.drop_succ_cons, List.drop_zero]
              repeat still_step
              refine wpStill_nil ?_
              go_wp2
              go_ret
              exact ⟨ret_int HD.out.symm, HD2.out⟩
            · have HX : Hid (lexI (xs.drop (k + 1)) (ys.drop (k + 1)) = lexI xs ys) := (lex_eq EX.out EY.out (by omega)).symm.trans HE.out
              have HD2 : Hid (Below w.heap.size w wr.drew.drew) := HB.out.drew.drew
              go_wp2_with fail
              refine region_tail 8 (by kernel_rfl) (by kernel_rfl) ?_
              simp only [List.take_succ_cons, List.take_zero, List.drop_succ_cons, List.drop_zero]
              repeat still_step
              refine wpStill_nil ?_
              go_wp2_with fail
              have dx : wr.drew.cell? ⟨B, off + k, none⟩ = some (.int .i64 x) := cx
              have dy : wr.drew.cell? ⟨B', off' + k, none⟩ = some (.int .i64 y) := cy
              clear cx cy
              generalize wr.drew = wd at dx dy HD2 ⊢
              refine region_tail 8 (by kernel_rfl) (by kernel_rfl) ?_
              simp only [List.take_succ_cons, List.take_zero, List.drop_succ_cons, List.drop_zero]
              repeat still_step
              refine wpStill_nil ?_
              go_wp2
              exact ⟨⟨k + 1, by omega, by go_num, HX, HD2⟩, by simp [intOf]; omega⟩
        · have HD : Hid (ordA xs ys = 0) := HO.out.trans (HE.out.symm.trans (lex_end (by rw [EN.out]; omega) (by rw [EN'.out]; omega)))
          go_wp2
          go_ret
          exact ⟨ret_int HD.out.symm, HB.out⟩
  · have nn : ((xs.length : Int) != (ys.length : Int)) = true := by simp; omega
    by_cases e1 : xs.length < ys.length
    · have HD := hide (ord_lt e1)
      have e1' : (xs.length : Int) < ys.length := by omega
      clear h4 h4' hl e1
      go_enter Tryz.func37, Tryz.ntmps37
      go_wp2
      go_ret
      exact ⟨ret_int HD.out.symm, Below.refl _ _⟩
    · have HD := hide (ord_gt (a := xs) (b := ys) (by omega))
      have e1' : ¬ (xs.length : Int) < ys.length := by omega
      clear h4 h4' hl e1
      go_enter Tryz.func37, Tryz.ntmps37
      go_wp2
      go_ret
      exact ⟨ret_int HD.out.symm, Below.refl _ _⟩
end Go.Proofs.YtckhfpaicnjknaaGreat.Pol
