/-
  How lists of ints stand, and whether they fall: contracts of cmp.Compare, cmp.Less, slices.Compare, slices.IsSorted at ints, of the program's orderOfAtoms and of the specification's l4Order and l1In.
  Parts that are ok: contracts of slices.IsSorted at ints, of the program's isAtom and partOk, and of the specification's l4Mono.
  The specification's l4Mono.
-/
import Derived.Test.YtggilenddbobnaaGreatAl
import Derived.Test.YtggilenddbobnaaGreatJ01
import Derived.StillTailTactics
namespace Go.Proofs.YtggilenddbobnaaGreat.Pol
open Go.ChangeShapes Go.WideShapes Go.ChangeAt Go.RowKit IntS
theorem region_tail {P : Program} {id : Nat} {Q : Exit → Act → World → Prop} {a : Act} {w : World} {l : List Oper} (n : Nat) (hm : P.follows .mixedOrders = true) (hB : Region.lexTailB .any l.toArray n = true)
 (h : wpStill P l.toArray w.drew (fun a' => wpList P l.toArray Q (l.drop n) a' w.drew) (l.take n) a) : (Code.region id l.toArray true).wp P Q a w := wp_region_still_tail n hm hB h
/-- A head of reads that is still to be walked; nothing unfolds it by itself. -/
structure Head (P : Program) (ops : Array Oper) (w : World) (Q : Act → Prop) (l : List Oper) (a : Act) : Prop where
 h : wpStill P ops w Q l a
theorem head_yes {P : Program} {ops : Array Oper} {w : World} {Q : Act → Prop} {a : Act} {o : Oper} {rest : List Oper} (hw : Region.wanted o (yielded ops a.tmps) = true)
 (h : ∀ K : Act → Prop, (∀ a, Head P ops w Q rest a → K a) → o.still P a w K) : Head P ops w Q (o :: rest) a := ⟨wpStill_step fun K hK => by rw [if_pos hw]; exact h K (fun a h => hK a h.h)⟩
theorem head_no {P : Program} {ops : Array Oper} {w : World} {Q : Act → Prop} {a : Act} {o : Oper} {rest : List Oper} (hw : Region.wanted o (yielded ops a.tmps) = false)
 (h : Head P ops w Q rest (a.put o.dst undef)) : Head P ops w Q (o :: rest) a := ⟨wpStill_step fun K hK => by rw [if_neg (by rw [hw]; decide)]; exact hK _ h.h⟩
theorem head_nil {P : Program} {ops : Array Oper} {w : World} {Q : Act → Prop} {a : Act} (h : Q a) : Head P ops w Q [] a := ⟨wpStill_nil h⟩
theorem region_head {P : Program} {id : Nat} {Q : Exit → Act → World → Prop} {a : Act} {w : World} {l : List Oper} (n : Nat) (hm : P.follows .mixedOrders = true) (hB : Region.lexTailB .any l.toArray n = true)
 (h : Head P l.toArray w.drew (fun a' => wpList P l.toArray Q (l.drop n) a' w.drew) (l.take n) a) : (Code.region id l.toArray true).wp P Q a w := wp_region_still_tail n hm hB h.h
theorem drop_cons {α : Type} {a : List α} {k : Nat} {x : α} (h : a[k]? = some x) : a.drop k = x :: a.drop (k + 1) := by
 obtain ⟨hk, rfl⟩ := List.getElem?_eq_some_iff.1 h
 exact List.drop_eq_getElem_cons hk
theorem lex_lt {a b : List Int} {k : Nat} {x y : Int} (hx : a[k]? = some x) (hy : b[k]? = some y) (h : x < y) : lexI (a.drop k) (b.drop k) = -1 := by
 rw [drop_cons hx, drop_cons hy, lexI, if_pos h]
theorem lex_gt {a b : List Int} {k : Nat} {x y : Int} (hx : a[k]? = some x) (hy : b[k]? = some y) (h : y < x) : lexI (a.drop k) (b.drop k) = 1 := by
 rw [drop_cons hx, drop_cons hy, lexI, if_neg (by omega), if_pos h]
theorem lex_eq {a b : List Int} {k : Nat} {x y : Int} (hx : a[k]? = some x) (hy : b[k]? = some y) (h : x = y) : lexI (a.drop k) (b.drop k) = lexI (a.drop (k + 1)) (b.drop (k + 1)) := by
 rw [drop_cons hx, drop_cons hy, lexI, if_neg (by omega), if_neg (by omega)]
theorem lex_end {a b : List Int} {k : Nat} (ha : a.length ≤ k) (hb : b.length ≤ k) : lexI (a.drop k) (b.drop k) = 0 := by
 rw [List.drop_eq_nil_of_le ha, List.drop_eq_nil_of_le hb]
 rfl
theorem ord_same {a b : List Int} (h : a.length = b.length) : ordA a b = lexI a b := by unfold ordA; rw [if_neg (by omega), if_neg (by omega)]
theorem ord_lt {a b : List Int} (h : a.length < b.length) : ordA a b = -1 := by unfold ordA; rw [if_pos h]
theorem ord_gt {a b : List Int} (h : b.length < a.length) : ordA a b = 1 := by unfold ordA; rw [if_neg (by omega), if_pos h]
def inI (n lo hi : Int) : Bool := decide (lo ≤ n ∧ n ≤ hi)
theorem l1In (n lo hi : Int) (w : World) : Calls Tryz.prog 19 #[.int .i64 n, .int .i64 lo, .int .i64 hi] w fun e w' => e = .returned (.bool (inI n lo hi)) ∧ w' = w := by
 by_cases h0 : lo ≤ n
 · by_cases h1 : n ≤ hi
   · have HD : Hid (inI n lo hi = true) := decide_eq_true ⟨h0, h1⟩
     go_enter Tryz.func19, Tryz.ntmps19
     go_wp2
     go_ret
     exact ⟨ret_bool HD.out.symm, rfl⟩
   · have HD : Hid (inI n lo hi = false) := decide_eq_false (fun h => h1 h.2)
     go_enter Tryz.func19, Tryz.ntmps19
     go_wp2
     go_ret
     exact ⟨ret_bool HD.out.symm, rfl⟩
 · have HD : Hid (inI n lo hi = false) := decide_eq_false (fun h => h0 h.1)
   go_enter Tryz.func19, Tryz.ntmps19
   go_wp2
   go_ret
   exact ⟨ret_bool HD.out.symm, rfl⟩
theorem isNaN (x : Int) (w : World) : Calls Tryz.prog 101 #[.int .i64 x] w fun e w' => e = .returned (.bool false) ∧ w' = w := by
 have h : (x != x) = false := by simp
 go_enter Tryz.func101, Tryz.ntmps101
 go_wp2
 go_ret
 exact ⟨rfl, rfl⟩
theorem compare (x y : Int) (w : World) : Calls Tryz.prog 64 #[.int .i64 x, .int .i64 y] w fun e w' => e = .returned (.int .i64 (cmpI x y)) ∧ w' = w := by
 by_cases h0 : x < y
 · have HD := hide (cmp_lt h0)
   go_enter Tryz.func64, Tryz.ntmps64
   go_wp2_with fail
   refine (isNaN x _).mono ?_
   rintro e u ⟨rfl, rfl⟩
   go_wp2_with fail
   refine (isNaN y _).mono ?_
   rintro e u ⟨rfl, rfl⟩
   go_wp2
   go_ret
   exact ⟨ret_int HD.out.symm, rfl⟩
 · by_cases h1 : y < x
   · have HD := hide (cmp_gt h1)
     go_enter Tryz.func64, Tryz.ntmps64
     go_wp2_with fail
     refine (isNaN x _).mono ?_
     rintro e u ⟨rfl, rfl⟩
     go_wp2_with fail
     refine (isNaN y _).mono ?_
     rintro e u ⟨rfl, rfl⟩
     go_wp2
     go_ret
     exact ⟨ret_int HD.out.symm, rfl⟩
   · have HD := hide (cmp_eq (a := x) (b := y) (by omega))
     go_enter Tryz.func64, Tryz.ntmps64
     go_wp2_with fail
     refine (isNaN x _).mono ?_
     rintro e u ⟨rfl, rfl⟩
     go_wp2_with fail
     refine (isNaN y _).mono ?_
     rintro e u ⟨rfl, rfl⟩
     go_wp2
     go_ret
     exact ⟨ret_int HD.out.symm, rfl⟩
theorem less (x y : Int) (w : World) : Calls Tryz.prog 122 #[.int .i64 x, .int .i64 y] w fun e w' => e = .returned (.bool (decide (x < y))) ∧ w' = w := by
 go_enter Tryz.func122, Tryz.ntmps122
 go_wp2_with fail
 refine (isNaN x _).mono ?_
 rintro e u ⟨rfl, rfl⟩
 go_wp2
 go_ret
 exact ⟨rfl, rfl⟩
set_option maxRecDepth 8000 in
set_option maxHeartbeats 2000000 in
theorem sliceCompare (xs ys : List Int) (B B' : Nat) (v v' : Value) (w : World) (h : Row w B v xs) (h' : Row w B' v' ys) (hl : xs.length = ys.length) :
 Calls Tryz.prog 112 #[v, v'] w fun e w' => e = .returned (.int .i64 (lexI xs ys)) ∧ w' = w := by
 obtain ⟨a, cap, off, rfl, h2, h3, hz, h4⟩ := h
 obtain ⟨a', cap', off', rfl, h2', h3', hz', h4'⟩ := h'
 unfold maxLen at h3 h3'
 clear hz hz'
 obtain ⟨n, hn⟩ : ∃ n, xs.length = n := ⟨_, rfl⟩
 have hn' : ys.length = n := by omega
 rw [hn] at h2 ⊢
 rw [hn'] at h2' ⊢
 have EN := hide hn
 have EN' := hide hn'
 have H4 := hide h4
 have H4' := hide h4'
 clear hn hn' h4 h4' hl
 by_cases h0 : n = 0
 · subst h0
   have HD : Hid (lexI xs ys = 0) := show _ = _ by rw [List.length_eq_zero_iff.1 EN.out, List.length_eq_zero_iff.1 EN'.out]; rfl
   clear H4 H4' EN EN'
   go_enter Tryz.func112, Tryz.ntmps112
   go_wp2
   refine wp_loop_rounds 1 ?_
   rw [rounds_succ]
   go_wp2
   go_ret
   exact ⟨ret_int HD.out.symm, rfl⟩
 · obtain ⟨rfl, hc⟩ := H4.out.resolve_left (fun e => h0 (by rw [← EN.out, e]; rfl))
   obtain ⟨rfl, hc'⟩ := H4'.out.resolve_left (fun e => h0 (by rw [← EN'.out, e]; rfl))
   have HC := hide hc
   have HC' := hide hc'
   clear hc hc' H4 H4'
   go_enter Tryz.func112, Tryz.ntmps112
   go_wp2
   go_loopw [11] (fun i wr => ∃ k : Nat, k ≤ n ∧ i = .int .i64 k ∧ Hid (lexI (xs.drop k) (ys.drop k) = lexI xs ys) ∧ wr = w) (fun i _ => n - (intOf i).toNat)
   case atStart => exact ⟨0, by omega, rfl, rfl, rfl⟩
   case round =>
    obtain ⟨k, hk, rfl, HE, rfl⟩ := hrel
    by_cases hlt : k < n
    · obtain ⟨x, ex⟩ : ∃ x, xs[k]? = some x := ⟨_, List.getElem?_eq_getElem (by rw [EN.out]; exact hlt)⟩
      obtain ⟨y, ey⟩ : ∃ y, ys[k]? = some y := ⟨_, List.getElem?_eq_getElem (by rw [EN'.out]; exact hlt)⟩
      have cx := HC.out k x ex
      have cy := HC'.out k y ey
      have EX := hide ex
      have EY := hide ey
      clear ex ey
      have hlt2 : ¬ (n : Int) ≤ k := by omega
      go_wp2_with fail
      refine (compare x y _).mono ?_
      rintro e u ⟨rfl, rfl⟩
      by_cases e1 : x < y
      · have HD : Hid (lexI xs ys = -1) := HE.out.symm.trans (lex_lt EX.out EY.out e1)
        rw [cmp_lt e1]
        clear e1
        go_wp2
        go_ret
        exact ⟨ret_int HD.out.symm, rfl⟩
      · by_cases e2 : y < x
        · have HD : Hid (lexI xs ys = 1) := HE.out.symm.trans (lex_gt EX.out EY.out e2)
          rw [cmp_gt e2]
          clear e1 e2
          go_wp2
          go_ret
          exact ⟨ret_int HD.out.symm, rfl⟩
        · have HX : Hid (lexI (xs.drop (k + 1)) (ys.drop (k + 1)) = lexI xs ys) := (lex_eq EX.out EY.out (by omega)).symm.trans HE.out
          rw [cmp_eq (show x = y by omega)]
          clear e1 e2
          go_wp2
          exact ⟨⟨k + 1, by omega, by go_num, HX, trivial⟩, by simp [intOf]; omega⟩
    · have HD : Hid (lexI xs ys = 0) := HE.out.symm.trans (lex_end (by rw [EN.out]; omega) (by rw [EN'.out]; omega))
      go_wp2
      go_ret
      exact ⟨ret_int HD.out.symm, rfl⟩
theorem orderOfAtoms (xs ys : List Int) (B B' : Nat) (v v' : Value) (w : World) (h : Row w B v xs) (h' : Row w B' v' ys) :
 Calls Tryz.prog 88 #[v, v'] w fun e w' => e = .returned (.int .i64 (ordA xs ys)) ∧ w' = w := by
 have H := hide h
 have H' := hide h'
 obtain ⟨a, cap, off, rfl, h2, h3, hz, h4⟩ := h
 obtain ⟨a', cap', off', rfl, h2', h3', hz', h4'⟩ := h'
 unfold maxLen at h3 h3'
 clear hz hz' h4 h4'
 go_enter Tryz.func88, Tryz.ntmps88
 go_wp2_with fail
 refine (compare xs.length ys.length _).mono ?_
 rintro e u ⟨rfl, rfl⟩
 by_cases e1 : xs.length < ys.length
 · have HD := hide (ord_lt e1)
   rw [cmp_lt (show (xs.length : Int) < ys.length by omega)]
   clear e1
   go_wp2
   go_ret
   exact ⟨ret_int HD.out.symm, rfl⟩
 · by_cases e2 : ys.length < xs.length
   · have HD := hide (ord_gt e2)
     rw [cmp_gt (show (ys.length : Int) < xs.length by omega)]
     clear e1 e2
     go_wp2
     go_ret
     exact ⟨ret_int HD.out.symm, rfl⟩
   · have HL : Hid (xs.length = ys.length) := show _ = _ by omega
     have HD := hide (ord_same HL.out)
     rw [cmp_eq (show (xs.length : Int) = ys.length by omega)]
     clear e1 e2
     go_wp2_with fail
     refine (sliceCompare xs ys B B' _ _ _ H.out H'.out HL.out).mono ?_
     rintro e u ⟨rfl, rfl⟩
     go_wp2
     go_ret
     exact ⟨ret_int HD.out.symm, rfl⟩
set_option maxRecDepth 8000 in
set_option maxHeartbeats 2000000 in
theorem l4Order (xs ys : List Int) (B B' : Nat) (v v' : Value) (w : World) (h : Row w B v xs) (h' : Row w B' v' ys) :
 Calls Tryz.prog 77 #[v, v'] w fun e w' => e = .returned (.int .i64 (ordA xs ys)) ∧ Below w.heap.size w w' := by
 obtain ⟨a, cap, off, rfl, h2, h3, hz, h4⟩ := h
 obtain ⟨a', cap', off', rfl, h2', h3', hz', h4'⟩ := h'
 unfold maxLen at h3 h3'
 clear hz hz'
 by_cases hl : xs.length = ys.length
 · have HO := hide (ord_same hl)
   obtain ⟨n, hn⟩ : ∃ n, xs.length = n := ⟨_, rfl⟩
   have hn' : ys.length = n := by omega
   rw [hn] at h2 ⊢
   rw [hn'] at h2' ⊢
   have EN := hide hn
   have EN' := hide hn'
   have H4 := hide h4
   have H4' := hide h4'
   have nn : ((n : Int) != (n : Int)) = false := by simp
   clear hn hn' h4 h4' hl
   by_cases h0 : n = 0
   · subst h0
     have HD : Hid (ordA xs ys = 0) := show _ = _ by rw [HO.out, List.length_eq_zero_iff.1 EN.out, List.length_eq_zero_iff.1 EN'.out]; rfl
     clear H4 H4' EN EN' HO
     go_enter Tryz.func77, Tryz.ntmps77
     go_wp2
     refine wp_loop_rounds 1 ?_
     rw [rounds_succ]
     go_wp2
     go_ret
     exact ⟨ret_int HD.out.symm, Below.refl _ _⟩
   · obtain ⟨rfl, hc⟩ := H4.out.resolve_left (fun e => h0 (by rw [← EN.out, e]; rfl))
     obtain ⟨rfl, hc'⟩ := H4'.out.resolve_left (fun e => h0 (by rw [← EN'.out, e]; rfl))
     have HC := hide hc
     have HC' := hide hc'
     clear hc hc' H4 H4'
     go_enter Tryz.func77, Tryz.ntmps77
     go_wp2
     go_loopw [5] (fun i wr => ∃ k : Nat, k ≤ n ∧ i = .int .i64 k ∧ Hid (lexI (xs.drop k) (ys.drop k) = lexI xs ys) ∧ Hid (Below w.heap.size w wr)) (fun i _ => n - (intOf i).toNat)
     case atStart => exact ⟨0, by omega, rfl, rfl, Below.refl _ _⟩
     case round =>
      obtain ⟨k, hk, rfl, HE, HB⟩ := hrel
      by_cases hlt : k < n
      · obtain ⟨x, ex⟩ : ∃ x, xs[k]? = some x := ⟨_, List.getElem?_eq_getElem (by rw [EN.out]; exact hlt)⟩
        obtain ⟨y, ey⟩ : ∃ y, ys[k]? = some y := ⟨_, List.getElem?_eq_getElem (by rw [EN'.out]; exact hlt)⟩
        have cx := cell_below HB.out (HC.out k x ex)
        have cy := cell_below HB.out (HC'.out k y ey)
        have EX := hide ex
        have EY := hide ey
        clear ex ey
        by_cases e1 : x < y
        · have HD : Hid (ordA xs ys = -1) := HO.out.trans (HE.out.symm.trans (lex_lt EX.out EY.out e1))
          have HD2 : Hid (Below w.heap.size w wr.drew) := HB.out.drew
          go_wp2
          go_still (by kernel_rfl)
          go_wp2
          go_ret
          exact ⟨ret_int HD.out.symm, HD2.out⟩
        · by_cases e2 : y < x
          · have HD : Hid (ordA xs ys = 1) := HO.out.trans (HE.out.symm.trans (lex_gt EX.out EY.out e2))
            have HD2 : Hid (Below w.heap.size w wr.drew.drew) := HB.out.drew.drew
            go_wp2_with fail
            refine region_tail 8 (by kernel_rfl) (by kernel_rfl) ?_
            simp only [List.take_succ_cons, List.take_zero, List.drop_succ_cons, List.drop_zero]
            repeat still_step
            refine wpStill_nil ?_
            go_wp2_with fail
            have dx : wr.drew.cell? ⟨B, off + k, none⟩ = some (.int .i64 x) := cx
            have dy : wr.drew.cell? ⟨B', off' + k, none⟩ = some (.int .i64 y) := cy
            clear cx cy
            generalize wr.drew = wd at dx dy HD2 ⊢
            refine region_tail 8 (by kernel_rfl) (by kernel_rfl) ?_
            simp only [List.take_succ_cons, List.take_zero, List.drop_succ_cons, List.drop_zero]
            repeat still_step
            refine wpStill_nil ?_
            go_wp2
            go_ret
            exact ⟨ret_int HD.out.symm, HD2.out⟩
          · have HX : Hid (lexI (xs.drop (k + 1)) (ys.drop (k + 1)) = lexI xs ys) := (lex_eq EX.out EY.out (by omega)).symm.trans HE.out
            have HD2 : Hid (Below w.heap.size w wr.drew.drew) := HB.out.drew.drew
            go_wp2_with fail
            refine region_tail 8 (by kernel_rfl) (by kernel_rfl) ?_
            simp only [List.take_succ_cons, List.take_zero, List.drop_succ_cons, List.drop_zero]
            repeat still_step
            refine wpStill_nil ?_
            go_wp2_with fail
            have dx : wr.drew.cell? ⟨B, off + k, none⟩ = some (.int .i64 x) := cx
            have dy : wr.drew.cell? ⟨B', off' + k, none⟩ = some (.int .i64 y) := cy
            clear cx cy
            generalize wr.drew = wd at dx dy HD2 ⊢
            refine region_tail 8 (by kernel_rfl) (by kernel_rfl) ?_
            simp only [List.take_succ_cons, List.take_zero, List.drop_succ_cons, List.drop_zero]
            repeat still_step
            refine wpStill_nil ?_
            go_wp2
            exact ⟨⟨k + 1, by omega, by go_num, HX, HD2⟩, by simp [intOf]; omega⟩
      · have HD : Hid (ordA xs ys = 0) := HO.out.trans (HE.out.symm.trans (lex_end (by rw [EN.out]; omega) (by rw [EN'.out]; omega)))
        go_wp2
        go_ret
        exact ⟨ret_int HD.out.symm, HB.out⟩
 · have nn : ((xs.length : Int) != (ys.length : Int)) = true := by simp; omega
   by_cases e1 : xs.length < ys.length
   · have HD := hide (ord_lt e1)
     have e1' : (xs.length : Int) < ys.length := by omega
     clear h4 h4' hl e1
     go_enter Tryz.func77, Tryz.ntmps77
     go_wp2
     go_ret
     exact ⟨ret_int HD.out.symm, Below.refl _ _⟩
   · have HD := hide (ord_gt (a := xs) (b := ys) (by omega))
     have e1' : ¬ (xs.length : Int) < ys.length := by omega
     clear h4 h4' hl e1
     go_enter Tryz.func77, Tryz.ntmps77
     go_wp2
     go_ret
     exact ⟨ret_int HD.out.symm, Below.refl _ _⟩
end Go.Proofs.YtggilenddbobnaaGreat.Pol
namespace Go.Proofs.YtggilenddbobnaaGreat.Pol
open Go.ChangeShapes Go.WideShapes Go.ChangeAt Go.RowKit IntS
theorem up_no {xs : List Int} {k : Nat} {x y : Int} (hx : xs[k]? = some x) (hy : xs[k + 1]? = some y) (h : y < x) : upAt xs (k + 1) = false := by
 unfold upAt
 rw [Nat.add_sub_cancel, getD_at hx, getD_at hy]
 exact decide_eq_false (by omega)
theorem up_yes {xs : List Int} {k : Nat} {x y : Int} (hx : xs[k]? = some x) (hy : xs[k + 1]? = some y) (h : ¬ y < x) : upAt xs (k + 1) = true := by
 unfold upAt
 rw [Nat.add_sub_cancel, getD_at hx, getD_at hy]
 exact decide_eq_true (by omega)
theorem up_zero (xs : List Int) : upAt xs 0 = true := decide_eq_true (Or.inl rfl)
theorem all_and {f g : Nat → Bool} (n : Nat) : (List.range n).all (fun j => f j && g j) = ((List.range n).all f && (List.range n).all g) := by
 rw [Bool.eq_iff_iff]
 simp only [Bool.and_eq_true, List.all_eq_true, List.mem_range]
 exact ⟨fun h => ⟨fun j hj => (h j hj).1, fun j hj => (h j hj).2⟩, fun h j hj => ⟨h.1 j hj, h.2 j hj⟩⟩
set_option maxRecDepth 8000 in
set_option maxHeartbeats 2000000 in
theorem isSorted (xs : List Int) (B : Nat) (v : Value) (w : World) (h : Row w B v xs) :
 Calls Tryz.prog 111 #[v] w fun e w' => e = .returned (.bool ((List.range xs.length).all (upAt xs))) ∧ Below w.heap.size w w' := by
 have HL := hide (rfl : xs.length = xs.length)
 obtain ⟨RES, eRES⟩ : ∃ r, (List.range xs.length).all (upAt xs) = r := ⟨_, rfl⟩
 rw [eRES]
 have ER := hide eRES
 clear eRES HL
 obtain ⟨a, cap, off, rfl, h2, h3, hz, h4⟩ := h
 unfold maxLen at h3
 clear hz
 obtain ⟨n, en⟩ : ∃ n, xs.length = n := ⟨_, rfl⟩
 rw [en] at h2 ⊢
 have EN := hide en
 have H4 := hide h4
 clear en h4
 rw [EN.out] at ER
 by_cases h0 : n = 0
 · subst h0
   have HD : Hid (RES = true) := ER.out.symm.trans rfl
   clear H4 EN
   go_enter Tryz.func111, Tryz.ntmps111
   go_wp2
   refine wp_loop_rounds 1 ?_
   rw [rounds_succ]
   go_wp2
   go_ret
   exact ⟨ret_bool HD.out.symm, Below.refl _ _⟩
 · obtain ⟨rfl, hc⟩ := H4.out.resolve_left (fun e => h0 (by rw [← EN.out, e]; rfl))
   have HC := hide hc
   clear hc H4
   go_enter Tryz.func111, Tryz.ntmps111
   go_wp2
   go_loopw [3] (fun i wr => ∃ k : Nat, k < n ∧ i = .int .i64 k ∧ Hid (∀ j, k < j → j < n → upAt xs j = true) ∧ Hid (Below w.heap.size w wr)) (fun i _ => (intOf i).toNat)
   case atStart => exact ⟨n - 1, by omega, by rw [show ((n - 1 : Nat) : Int) = (n : Int) - 1 by omega], fun j hj hj2 => by omega, Below.refl _ _⟩
   case round =>
    obtain ⟨p, hp, rfl, HE, HB⟩ := hrel
    by_cases hlt : 0 < p
    · obtain ⟨k, hk⟩ : ∃ k, p = k + 1 := ⟨p - 1, by omega⟩
      obtain ⟨x, ex⟩ : ∃ x, xs[k]? = some x := ⟨_, List.getElem?_eq_getElem (by rw [EN.out]; omega)⟩
      obtain ⟨y, ey⟩ : ∃ y, xs[p]? = some y := ⟨_, List.getElem?_eq_getElem (by rw [EN.out]; omega)⟩
      have cx := cell_below HB.out (HC.out k x ex)
      have cy := cell_below HB.out (HC.out p y ey)
      have EX := hide ex
      have EY := hide (hk ▸ ey : xs[k + 1]? = some y)
      have PK := hide hk
      have e1 : ((p : Nat) : Int) - 1 = (k : Nat) := by omega
      have lk : ((k : Nat) : Int) < (n : Nat) := by omega
      have wk : IntKind.i64.wrap ((k : Nat) : Int) = (k : Nat) := by rw [IntKind.wrap_i64]; omega
      have lp : ((p : Nat) : Int) < (n : Nat) := by omega
      have HB2 : Hid (Below w.heap.size w wr.drew) := HB.out.drew
      clear ex ey hk
      go_wp2_with fail
      refine region_tail 9 (by kernel_rfl) (by kernel_rfl) ?_
      simp only [List.take_succ_cons, List.take_zero, List.drop_succ_cons, List.drop_zero]
      repeat still_step
      refine wpStill_nil ?_
      go_wp2_with fail
      refine (less y x _).mono ?_
      rintro e u ⟨rfl, rfl⟩
      by_cases hb : y < x
      · have HD : Hid (RES = false) := ER.out.symm.trans (all_no (k := k + 1) (by have := PK.out; omega) (up_no EX.out EY.out hb))
        rw [decide_eq_true hb]
        clear hb
        go_wp2
        go_ret
        exact ⟨ret_bool HD.out.symm, HB2.out⟩
      · have HX : Hid (∀ j, k < j → j < n → upAt xs j = true) := fun j hj hj2 => by
         by_cases ej : j = k + 1
         · subst ej; exact up_yes EX.out EY.out hb
         · exact HE.out j (by have := PK.out; omega) hj2
        rw [decide_eq_false hb]
        clear hb
        go_wp2
        exact ⟨⟨k, by have := PK.out; omega, by first | rfl | go_num, HX, HB2⟩, by simp [intOf]; have := PK.out; omega⟩
    · have HD : Hid (RES = true) := ER.out.symm.trans (all_yes fun j hj => by
       by_cases ej : j = 0
       · subst ej; exact up_zero xs
       · exact HE.out j (by omega) hj)
      have e0 : p = 0 := by omega
      subst e0
      go_wp2
      go_ret
      exact ⟨ret_bool HD.out.symm, HB.out⟩
def atomB (k : Int) : Bool := decide (0 ≤ k ∧ k < 200)
theorem isAtom (k : Int) (w : World) : Calls Tryz.prog 69 #[.int .i64 k] w fun e w' => e = .returned (.bool (atomB k)) ∧ w' = w := by
 by_cases h0 : 0 ≤ k
 · by_cases h1 : k < 200
   · have HD : Hid (atomB k = true) := decide_eq_true ⟨h0, h1⟩
     go_enter Tryz.func69, Tryz.ntmps69
     go_wp2
     go_ret
     exact ⟨ret_bool HD.out.symm, rfl⟩
   · have HD : Hid (atomB k = false) := decide_eq_false (fun h => h1 h.2)
     go_enter Tryz.func69, Tryz.ntmps69
     go_wp2
     go_ret
     exact ⟨ret_bool HD.out.symm, rfl⟩
 · have HD : Hid (atomB k = false) := decide_eq_false (fun h => h0 h.1)
   go_enter Tryz.func69, Tryz.ntmps69
   go_wp2
   go_ret
   exact ⟨ret_bool HD.out.symm, rfl⟩
theorem atom_at {xs : List Int} {k : Nat} {x : Int} (h : xs[k]? = some x) : atomAt xs k = atomB x := by unfold atomAt atomB; rw [getD_at h]
theorem mono_coef {c : Int} {xs : List Int} (h : ¬ (1 ≤ c ∧ c ≤ 65535)) : monoB (c, xs) = false := by unfold monoB; rw [decide_eq_false h]; rfl
theorem mono_len {c : Int} {xs : List Int} (h : ¬ xs.length ≤ 4) : monoB (c, xs) = false := by unfold monoB; rw [decide_eq_false h]; simp
theorem mono_atoms {c : Int} {xs : List Int} (h1 : 1 ≤ c ∧ c ≤ 65535) (h2 : xs.length ≤ 4) : monoB (c, xs) = (List.range xs.length).all (fun j => atomAt xs j && upAt xs j) := by unfold monoB; rw [decide_eq_true h1, decide_eq_true h2]; rfl
set_option maxRecDepth 8000 in
set_option maxHeartbeats 4000000 in
theorem partOk (c : Int) (xs : List Int) (B : Nat) (v : Value) (w : World) (h : Row w B v xs) :
 Calls Tryz.prog 87 #[.agg #[.int .i64 c, v]] w fun e w' => e = .returned (.bool (monoB (c, xs))) ∧ Below w.heap.size w w' := by
 have RX := hide h
 obtain ⟨a, cap, off, rfl, h2, h3, hz, h4⟩ := h
 unfold maxLen at h3
 clear hz
 have bV : Below w.heap.size w (w.alloc (.cells #[.int .i64 c, .slice a xs.length cap] 82)) := (Below.refl _ _).alloc (Nat.le_refl _) _
 have BW := hide bV
 replace RX := hide (RX.out.below bV)
 clear bV
 by_cases e0 : c = 0
 · have HD := hide (mono_coef (c := c) (xs := xs) (by omega))
   subst e0
   clear h4
   go_enter Tryz.func87, Tryz.ntmps87
   go_wp2
   go_ret
   exact ⟨ret_bool HD.out.symm, BW.out⟩
 have e0' : (c == 0) = false := by simp [e0]
 have E0 := hide e0
 clear e0
 by_cases e1 : 0 ≤ c ∧ c < 65536
 case neg =>
  have HD := hide (mono_coef (c := c) (xs := xs) (by omega))
  have HW := hide (Wrd.wok_f e1)
  clear h4 e1
  go_enter Tryz.func87, Tryz.ntmps87
  go_wp2_with fail
  refine (Wrd.implOk c _).mono ?_
  rintro e u ⟨rfl, rfl⟩
  rw [HW.out]
  go_wp2
  go_ret
  exact ⟨ret_bool HD.out.symm, BW.out⟩
 have HW := hide (Wrd.wok_t e1.1 e1.2)
 have HC1 : Hid (1 ≤ c ∧ c ≤ 65535) := show _ ∧ _ by have := E0.out; omega
 clear e1
 by_cases e2 : xs.length ≤ 4
 case neg =>
  have HD := hide (mono_len (c := c) e2)
  have e2' : (4 : Int) < xs.length := by omega
  clear h4 e2
  go_enter Tryz.func87, Tryz.ntmps87
  go_wp2_with fail
  refine (Wrd.implOk c _).mono ?_
  rintro e u ⟨rfl, rfl⟩
  rw [HW.out]
  go_wp2
  go_ret
  exact ⟨ret_bool HD.out.symm, BW.out⟩
 have HM := hide (mono_atoms HC1.out e2)
 have e2' : ¬ (4 : Int) < xs.length := by omega
 clear e2
 obtain ⟨RES, eRES⟩ : ∃ r, monoB (c, xs) = r := ⟨_, rfl⟩
 rw [eRES]
 replace HM := hide (eRES.symm.trans HM.out)
 clear eRES
 obtain ⟨n, en⟩ : ∃ n, xs.length = n := ⟨_, rfl⟩
 have EN := hide en
 rw [en] at h2 e2' BW HM RX ⊢
 have H4 := hide h4
 clear en h4
 go_enter Tryz.func87, Tryz.ntmps87
 go_wp2_with fail
 refine (Wrd.implOk c _).mono ?_
 rintro e u ⟨rfl, rfl⟩
 rw [HW.out]
 by_cases h0 : n = 0
 · subst h0
   have HD : Hid (RES = true) := HM.out.trans rfl
   have HS0 : Hid ((List.range xs.length).all (upAt xs) = true) := show _ = _ by rw [EN.out]; rfl
   go_wp2
   refine wp_loop_rounds 1 ?_
   rw [rounds_succ]
   go_wp2_with fail
   refine (isSorted xs B _ _ RX.out).mono ?_
   rintro e u2 ⟨rfl, hb⟩
   rw [HS0.out]
   replace BW := hide (BW.out.trans (hb.mono BW.out.size))
   clear hb
   go_wp2
   go_ret
   exact ⟨ret_bool HD.out.symm, BW.out⟩
 · obtain ⟨rfl, hc⟩ := H4.out.resolve_left (fun e => h0 (by rw [← EN.out, e]; rfl))
   have HC := hide hc
   clear hc H4
   go_wp2
   have z1 : (w.alloc (.cells #[.int .i64 c, .slice (some ⟨B, off, none⟩) n cap] 82)).cell? ⟨w.heap.size, 1, none⟩ = some (.slice (some ⟨B, off, none⟩) n cap) := by rw [World.cell?_alloc_new]; rfl
   have HV := hide (fun (k : Nat) (x : Int) (hx : xs[k]? = some x) => cell_below ((Below.refl w.heap.size w).alloc (Nat.le_refl _) (.cells #[.int .i64 c, .slice (some ⟨B, off, none⟩) n cap] 82)) (HC.out k x hx))
   generalize w.alloc (.cells #[.int .i64 c, .slice (some ⟨B, off, none⟩) n cap] 82) = V at BW RX HV z1 ⊢
   go_loopw [23] (fun i wr => ∃ k : Nat, k ≤ n ∧ i = .int .i64 k ∧ Hid (∀ j, j < k → atomAt xs j = true) ∧ wr = V) (fun i _ => n - (intOf i).toNat)
   case atStart => exact ⟨0, by omega, rfl, fun j hj => by omega, rfl⟩
   case round =>
    obtain ⟨k, hk, rfl, HE, rfl⟩ := hrel
    by_cases hlt : k < n
    · obtain ⟨x, ex⟩ : ∃ x, xs[k]? = some x := ⟨_, List.getElem?_eq_getElem (by rw [EN.out]; exact hlt)⟩
      have cx := HV.out k x ex
      have EX := hide ex
      clear ex
      go_wp2_with fail
      refine (isAtom x _).mono ?_
      rintro e u ⟨rfl, rfl⟩
      cases hb : atomB x with
      | true =>
       have HX : Hid (∀ j, j < k + 1 → atomAt xs j = true) := fun j hj => by
        by_cases ej : j = k
        · subst ej; rw [atom_at EX.out]; exact hb
        · exact HE.out j (by omega)
       clear hb
       go_wp2
       exact ⟨⟨k + 1, by omega, by go_num, HX, trivial⟩, by simp [intOf]; omega⟩
      | false =>
       have HD : Hid (RES = false) := HM.out.trans (all_no (k := k) hlt (by rw [atom_at EX.out, hb]; rfl))
       clear hb
       go_wp2
       go_ret
       exact ⟨ret_bool HD.out.symm, BW.out⟩
    · have HD : Hid (RES = (List.range xs.length).all (upAt xs)) := HM.out.trans (by
       rw [all_and, all_yes (f := atomAt xs) (fun j hj => HE.out j (by omega)), EN.out]
       rfl)
      go_wp2_with fail
      refine (isSorted xs B _ _ RX.out).mono ?_
      rintro e u2 ⟨rfl, hb⟩
      replace BW := hide (BW.out.trans (hb.mono BW.out.size))
      clear hb
      rw [← HD.out]
      go_wp2
      go_ret
      exact ⟨rfl, BW.out⟩
end Go.Proofs.YtggilenddbobnaaGreat.Pol
namespace Go.Proofs.YtggilenddbobnaaGreat.Pol
open Go.ChangeShapes Go.WideShapes Go.ChangeAt Go.RowKit IntS
theorem in_atom (x : Int) : inI x 0 199 = atomB x := by unfold inI atomB; congr 1; rw [eq_iff_iff]; omega
set_option maxRecDepth 8000 in
set_option maxHeartbeats 4000000 in
theorem l4Mono (c : Int) (xs : List Int) (B : Nat) (v : Value) (w : World) (h : Row w B v xs) :
 Calls Tryz.prog 76 #[.agg #[.int .i64 c, v]] w fun e w' => e = .returned (.bool (monoB (c, xs))) ∧ Below w.heap.size w w' := by
 obtain ⟨a, cap, off, rfl, h2, h3, hz, h4⟩ := h
 unfold maxLen at h3
 clear hz
 have bV : Below w.heap.size w (w.alloc (.cells #[.int .i64 c, .slice a xs.length cap] 82)) := (Below.refl _ _).alloc (Nat.le_refl _) _
 have BW := hide bV
 clear bV
 by_cases e1 : 1 ≤ c ∧ c ≤ 65535
 case neg =>
  have HD := hide (mono_coef (c := c) (xs := xs) e1)
  have HW : Hid (inI c 1 65535 = false) := decide_eq_false e1
  clear h4 e1
  go_enter Tryz.func76, Tryz.ntmps76
  go_wp2_with fail
  refine (l1In c 1 65535 _).mono ?_
  rintro e u ⟨rfl, rfl⟩
  rw [HW.out]
  go_wp2
  go_ret
  exact ⟨ret_bool HD.out.symm, BW.out⟩
 have HW : Hid (inI c 1 65535 = true) := decide_eq_true e1
 have HC1 := hide e1
 clear e1
 by_cases e2 : xs.length ≤ 4
 case neg =>
  have HD := hide (mono_len (c := c) e2)
  have e2' : (4 : Int) < xs.length := by omega
  clear h4 e2
  go_enter Tryz.func76, Tryz.ntmps76
  go_wp2_with fail
  refine (l1In c 1 65535 _).mono ?_
  rintro e u ⟨rfl, rfl⟩
  rw [HW.out]
  go_wp2
  go_ret
  exact ⟨ret_bool HD.out.symm, BW.out⟩
 have HM := hide (mono_atoms HC1.out e2)
 have e2' : ¬ (4 : Int) < xs.length := by omega
 clear e2
 obtain ⟨RES, eRES⟩ : ∃ r, monoB (c, xs) = r := ⟨_, rfl⟩
 rw [eRES]
 replace HM := hide (eRES.symm.trans HM.out)
 clear eRES
 obtain ⟨n, en⟩ : ∃ n, xs.length = n := ⟨_, rfl⟩
 have EN := hide en
 rw [en] at h2 e2' BW HM ⊢
 have H4 := hide h4
 clear en h4
 go_enter Tryz.func76, Tryz.ntmps76
 go_wp2_with fail
 refine (l1In c 1 65535 _).mono ?_
 rintro e u ⟨rfl, rfl⟩
 rw [HW.out]
 by_cases h0 : n = 0
 · subst h0
   have HD : Hid (RES = true) := HM.out.trans rfl
   go_wp2
   refine wp_loop_rounds 1 ?_
   rw [rounds_succ]
   go_wp2
   go_ret
   exact ⟨ret_bool HD.out.symm, BW.out⟩
 · obtain ⟨rfl, hc⟩ := H4.out.resolve_left (fun e => h0 (by rw [← EN.out, e]; rfl))
   have HC := hide hc
   clear hc H4
   go_wp2
   have ZZ : Hid ((w.alloc (.cells #[.int .i64 c, .slice (some ⟨B, off, none⟩) n cap] 82)).cell? ⟨w.heap.size, 1, none⟩ = some (.slice (some ⟨B, off, none⟩) n cap)) := show _ = _ by rw [World.cell?_alloc_new]; rfl
   have HV := hide (fun (k : Nat) (x : Int) (hx : xs[k]? = some x) => cell_below ((Below.refl w.heap.size w).alloc (Nat.le_refl _) (.cells #[.int .i64 c, .slice (some ⟨B, off, none⟩) n cap] 82)) (HC.out k x hx))
   generalize w.alloc (.cells #[.int .i64 c, .slice (some ⟨B, off, none⟩) n cap] 82) = V at BW HV ZZ ⊢
   go_loopw [3] (fun i wr => ∃ k : Nat, k ≤ n ∧ i = .int .i64 k ∧ Hid (∀ j, j < k → (atomAt xs j && upAt xs j) = true) ∧ Hid (Below V.heap.size V wr)) (fun i _ => n - (intOf i).toNat)
   case atStart => exact ⟨0, by omega, rfl, fun j hj => by omega, Below.refl _ _⟩
   case round =>
    obtain ⟨k, hk, rfl, HE, HB⟩ := hrel
    have z1 := cell_below HB.out ZZ.out
    by_cases hlt : k < n
    · obtain ⟨x, ex⟩ : ∃ x, xs[k]? = some x := ⟨_, List.getElem?_eq_getElem (by rw [EN.out]; exact hlt)⟩
      have cx := cell_below HB.out (HV.out k x ex)
      have EX := hide ex
      clear ex
      have HB2 : Hid (Below V.heap.size V wr.drew) := HB.out.drew
      cases hb : atomB x with
      | false =>
       have HD : Hid (RES = false) := HM.out.trans (all_no (k := k) hlt (by rw [atom_at EX.out, hb]; rfl))
       have HI : Hid (inI x 0 199 = false) := (in_atom x).trans hb
       clear hb
       go_wp2_with fail
       refine region_head 24 (by kernel_rfl) (by kernel_rfl) ?_
       simp only [List.take_succ_cons, List.take_zero, List.drop_succ_cons, List.drop_zero]
       refine head_yes (by kernel_rfl) (fun K hK => ?_)
       go_simp
       refine hK _ ?_
       clear hK K
       refine head_yes (by kernel_rfl) (fun K hK => ?_)
       go_simp
       refine hK _ ?_
       clear hK K
       refine head_yes (by kernel_rfl) (fun K hK => ?_)
       go_simp
       refine hK _ ?_
       clear hK K
       refine head_yes (by kernel_rfl) (fun K hK => ?_)
       go_simp
       refine hK _ ?_
       clear hK K
       refine head_yes (by kernel_rfl) (fun K hK => ?_)
       go_simp
       refine hK _ ?_
       clear hK K
       refine head_yes (by kernel_rfl) (fun K hK => ?_)
       go_simp
       refine ⟨_, l1In x 0 199 _, hK _ ?_⟩
       clear hK K
       rw [HI.out]
       refine head_yes (by kernel_rfl) (fun K hK => ?_)
       go_simp
       refine hK _ ?_
       clear hK K
       refine head_yes (by kernel_rfl) (fun K hK => ?_)
       go_simp
       refine hK _ ?_
       clear hK K
       refine head_no (by kernel_rfl) ?_
       simp only [Act.put, sA, List.set]
       refine head_no (by kernel_rfl) ?_
       simp only [Act.put, sA, List.set]
       refine head_no (by kernel_rfl) ?_
       simp only [Act.put, sA, List.set]
       refine head_no (by kernel_rfl) ?_
       simp only [Act.put, sA, List.set]
       refine head_no (by kernel_rfl) ?_
       simp only [Act.put, sA, List.set]
       refine head_no (by kernel_rfl) ?_
       simp only [Act.put, sA, List.set]
       refine head_no (by kernel_rfl) ?_
       simp only [Act.put, sA, List.set]
       refine head_no (by kernel_rfl) ?_
       simp only [Act.put, sA, List.set]
       refine head_no (by kernel_rfl) ?_
       simp only [Act.put, sA, List.set]
       refine head_no (by kernel_rfl) ?_
       simp only [Act.put, sA, List.set]
       refine head_no (by kernel_rfl) ?_
       simp only [Act.put, sA, List.set]
       refine head_no (by kernel_rfl) ?_
       simp only [Act.put, sA, List.set]
       refine head_no (by kernel_rfl) ?_
       simp only [Act.put, sA, List.set]
       refine head_no (by kernel_rfl) ?_
       simp only [Act.put, sA, List.set]
       refine head_no (by kernel_rfl) ?_
       simp only [Act.put, sA, List.set]
       refine head_no (by kernel_rfl) ?_
       simp only [Act.put, sA, List.set]
       refine head_nil ?_
       go_wp2
       go_ret
       exact ⟨ret_bool HD.out.symm, BW.out.trans (HB2.out.mono BW.out.size)⟩
      | true =>
       have HI : Hid (inI x 0 199 = true) := (in_atom x).trans hb
       have HA : Hid (atomAt xs k = true) := (atom_at EX.out).trans hb
       clear hb
       by_cases hk0 : k = 0
       · subst hk0
         rw [Nat.add_zero] at cx
         have HX : Hid (∀ j, j < 0 + 1 → (atomAt xs j && upAt xs j) = true) := fun j hj => by
          obtain rfl : j = 0 := by omega
          rw [HA.out, up_zero]
          rfl
         go_wp2_with fail
         refine region_head 24 (by kernel_rfl) (by kernel_rfl) ?_
         simp only [List.take_succ_cons, List.take_zero, List.drop_succ_cons, List.drop_zero]
         refine head_yes (by kernel_rfl) (fun K hK => ?_)
         go_simp
         refine hK _ ?_
         clear hK K
         refine head_yes (by kernel_rfl) (fun K hK => ?_)
         go_simp
         refine hK _ ?_
         clear hK K
         refine head_yes (by kernel_rfl) (fun K hK => ?_)
         go_simp
         refine hK _ ?_
         clear hK K
         refine head_yes (by kernel_rfl) (fun K hK => ?_)
         go_simp
         refine hK _ ?_
         clear hK K
         refine head_yes (by kernel_rfl) (fun K hK => ?_)
         go_simp
         refine hK _ ?_
         clear hK K
         refine head_yes (by kernel_rfl) (fun K hK => ?_)
         go_simp
         refine ⟨_, l1In x 0 199 _, hK _ ?_⟩
         clear hK K
         rw [HI.out]
         refine head_yes (by kernel_rfl) (fun K hK => ?_)
         go_simp
         refine hK _ ?_
         clear hK K
         refine head_yes (by kernel_rfl) (fun K hK => ?_)
         go_simp
         refine hK _ ?_
         clear hK K
         refine head_yes (by kernel_rfl) (fun K hK => ?_)
         go_simp
         refine hK _ ?_
         clear hK K
         refine head_yes (by kernel_rfl) (fun K hK => ?_)
         go_simp
         refine hK _ ?_
         clear hK K
         refine head_yes (by kernel_rfl) (fun K hK => ?_)
         go_simp
         refine hK _ ?_
         clear hK K
         refine head_no (by kernel_rfl) ?_
         simp only [Act.put, sA, List.set]
         refine head_no (by kernel_rfl) ?_
         simp only [Act.put, sA, List.set]
         refine head_no (by kernel_rfl) ?_
         simp only [Act.put, sA, List.set]
         refine head_no (by kernel_rfl) ?_
         simp only [Act.put, sA, List.set]
         refine head_no (by kernel_rfl) ?_
         simp only [Act.put, sA, List.set]
         refine head_no (by kernel_rfl) ?_
         simp only [Act.put, sA, List.set]
         refine head_no (by kernel_rfl) ?_
         simp only [Act.put, sA, List.set]
         refine head_no (by kernel_rfl) ?_
         simp only [Act.put, sA, List.set]
         refine head_no (by kernel_rfl) ?_
         simp only [Act.put, sA, List.set]
         refine head_no (by kernel_rfl) ?_
         simp only [Act.put, sA, List.set]
         refine head_no (by kernel_rfl) ?_
         simp only [Act.put, sA, List.set]
         refine head_no (by kernel_rfl) ?_
         simp only [Act.put, sA, List.set]
         refine head_yes (by kernel_rfl) (fun K hK => ?_)
         go_simp
         refine hK _ ?_
         clear hK K
         refine head_nil ?_
         go_wp2
         exact ⟨⟨1, by omega, by first | rfl | go_num, HX, HB2⟩, by simp [intOf]; omega⟩
       · obtain ⟨p, hp⟩ : ∃ p, k = p + 1 := ⟨k - 1, by omega⟩
         obtain ⟨y, ey⟩ : ∃ y, xs[p]? = some y := ⟨_, List.getElem?_eq_getElem (by rw [EN.out]; omega)⟩
         have cy := cell_below HB.out (HV.out p y ey)
         have EY := hide ey
         have PK := hide hp
         have hk1 : (0 : Int) < (k : Nat) := by omega
         have hk2 : 0 < k := by omega
         have e1 : ((k : Nat) : Int) - 1 = (p : Nat) := by omega
         have lp : ((p : Nat) : Int) < (n : Nat) := by omega
         have lk : ((k : Nat) : Int) < (n : Nat) := by omega
         have wp : IntKind.i64.wrap ((p : Nat) : Int) = (p : Nat) := by rw [IntKind.wrap_i64]; omega
         clear ey hp hk0
         by_cases hf : x < y
         · have HD : Hid (RES = false) := HM.out.trans (all_no (k := k) hlt (by rw [HA.out, show upAt xs k = false by have := PK.out; subst this; exact up_no EY.out EX.out hf]; rfl))
           go_wp2_with fail
           refine region_head 24 (by kernel_rfl) (by kernel_rfl) ?_
           simp only [List.take_succ_cons, List.take_zero, List.drop_succ_cons, List.drop_zero]
           refine head_yes (by kernel_rfl) (fun K hK => ?_)
           go_simp
           refine hK _ ?_
           clear hK K
           refine head_yes (by kernel_rfl) (fun K hK => ?_)
           go_simp
           refine hK _ ?_
           clear hK K
           refine head_yes (by kernel_rfl) (fun K hK => ?_)
           go_simp
           refine hK _ ?_
           clear hK K
           refine head_yes (by kernel_rfl) (fun K hK => ?_)
           go_simp
           refine hK _ ?_
           clear hK K
           refine head_yes (by kernel_rfl) (fun K hK => ?_)
           go_simp
           refine hK _ ?_
           clear hK K
           refine head_yes (by kernel_rfl) (fun K hK => ?_)
           go_simp
           refine ⟨_, l1In x 0 199 _, hK _ ?_⟩
           clear hK K
           rw [HI.out]
           refine head_yes (by kernel_rfl) (fun K hK => ?_)
           go_simp
           refine hK _ ?_
           clear hK K
           refine head_yes (by kernel_rfl) (fun K hK => ?_)
           go_simp
           refine hK _ ?_
           clear hK K
           refine head_yes (by kernel_rfl) (fun K hK => ?_)
           go_simp
           refine hK _ ?_
           clear hK K
           refine head_yes (by kernel_rfl) (fun K hK => ?_)
           go_simp
           refine hK _ ?_
           clear hK K
           refine head_yes (by kernel_rfl) (fun K hK => ?_)
           go_simp
           refine hK _ ?_
           clear hK K
           refine head_yes (by kernel_rfl) (fun K hK => ?_)
           go_simp
           refine hK _ ?_
           clear hK K
           refine head_yes (by kernel_rfl) (fun K hK => ?_)
           go_simp
           refine hK _ ?_
           clear hK K
           refine head_yes (by kernel_rfl) (fun K hK => ?_)
           go_simp
           refine hK _ ?_
           clear hK K
           refine head_yes (by kernel_rfl) (fun K hK => ?_)
           go_simp
           refine hK _ ?_
           clear hK K
           refine head_yes (by kernel_rfl) (fun K hK => ?_)
           go_simp
           refine hK _ ?_
           clear hK K
           refine head_yes (by kernel_rfl) (fun K hK => ?_)
           go_simp
           refine hK _ ?_
           clear hK K
           refine head_yes (by kernel_rfl) (fun K hK => ?_)
           go_simp
           refine hK _ ?_
           clear hK K
           refine head_yes (by kernel_rfl) (fun K hK => ?_)
           go_simp
           refine hK _ ?_
           clear hK K
           refine head_yes (by kernel_rfl) (fun K hK => ?_)
           go_simp
           refine hK _ ?_
           clear hK K
           refine head_yes (by kernel_rfl) (fun K hK => ?_)
           go_simp
           refine hK _ ?_
           clear hK K
           refine head_yes (by kernel_rfl) (fun K hK => ?_)
           go_simp
           refine hK _ ?_
           clear hK K
           refine head_yes (by kernel_rfl) (fun K hK => ?_)
           go_simp
           refine hK _ ?_
           clear hK K
           refine head_yes (by kernel_rfl) (fun K hK => ?_)
           go_simp
           refine hK _ ?_
           clear hK K
           refine head_nil ?_
           go_wp2
           go_ret
           exact ⟨ret_bool HD.out.symm, BW.out.trans (HB2.out.mono BW.out.size)⟩
         · have HX : Hid (∀ j, j < k + 1 → (atomAt xs j && upAt xs j) = true) := fun j hj => by
            by_cases ej : j = k
            · subst ej
              rw [HA.out, show upAt xs j = true by have := PK.out; subst this; exact up_yes EY.out EX.out hf]
              rfl
            · exact HE.out j (by omega)
           go_wp2_with fail
           refine region_head 24 (by kernel_rfl) (by kernel_rfl) ?_
           simp only [List.take_succ_cons, List.take_zero, List.drop_succ_cons, List.drop_zero]
           refine head_yes (by kernel_rfl) (fun K hK => ?_)
           go_simp
           refine hK _ ?_
           clear hK K
           refine head_yes (by kernel_rfl) (fun K hK => ?_)
           go_simp
           refine hK _ ?_
           clear hK K
           refine head_yes (by kernel_rfl) (fun K hK => ?_)
           go_simp
           refine hK _ ?_
           clear hK K
           refine head_yes (by kernel_rfl) (fun K hK => ?_)
           go_simp
           refine hK _ ?_
           clear hK K
           refine head_yes (by kernel_rfl) (fun K hK => ?_)
           go_simp
           refine hK _ ?_
           clear hK K
           refine head_yes (by kernel_rfl) (fun K hK => ?_)
           go_simp
           refine ⟨_, l1In x 0 199 _, hK _ ?_⟩
           clear hK K
           rw [HI.out]
           refine head_yes (by kernel_rfl) (fun K hK => ?_)
           go_simp
           refine hK _ ?_
           clear hK K
           refine head_yes (by kernel_rfl) (fun K hK => ?_)
           go_simp
           refine hK _ ?_
           clear hK K
           refine head_yes (by kernel_rfl) (fun K hK => ?_)
           go_simp
           refine hK _ ?_
           clear hK K
           refine head_yes (by kernel_rfl) (fun K hK => ?_)
           go_simp
           refine hK _ ?_
           clear hK K
           refine head_yes (by kernel_rfl) (fun K hK => ?_)
           go_simp
           refine hK _ ?_
           clear hK K
           refine head_yes (by kernel_rfl) (fun K hK => ?_)
           go_simp
           refine hK _ ?_
           clear hK K
           refine head_yes (by kernel_rfl) (fun K hK => ?_)
           go_simp
           refine hK _ ?_
           clear hK K
           refine head_yes (by kernel_rfl) (fun K hK => ?_)
           go_simp
           refine hK _ ?_
           clear hK K
           refine head_yes (by kernel_rfl) (fun K hK => ?_)
           go_simp
           refine hK _ ?_
           clear hK K
           refine head_yes (by kernel_rfl) (fun K hK => ?_)
           go_simp
           refine hK _ ?_
           clear hK K
           refine head_yes (by kernel_rfl) (fun K hK => ?_)
           go_simp
           refine hK _ ?_
           clear hK K
           refine head_yes (by kernel_rfl) (fun K hK => ?_)
           go_simp
           refine hK _ ?_
           clear hK K
           refine head_yes (by kernel_rfl) (fun K hK => ?_)
           go_simp
           refine hK _ ?_
           clear hK K
           refine head_yes (by kernel_rfl) (fun K hK => ?_)
           go_simp
           refine hK _ ?_
           clear hK K
           refine head_yes (by kernel_rfl) (fun K hK => ?_)
           go_simp
           refine hK _ ?_
           clear hK K
           refine head_yes (by kernel_rfl) (fun K hK => ?_)
           go_simp
           refine hK _ ?_
           clear hK K
           refine head_yes (by kernel_rfl) (fun K hK => ?_)
           go_simp
           refine hK _ ?_
           clear hK K
           refine head_yes (by kernel_rfl) (fun K hK => ?_)
           go_simp
           refine hK _ ?_
           clear hK K
           refine head_nil ?_
           go_wp2
           exact ⟨⟨k + 1, by omega, by go_num, HX, HB2⟩, by simp [intOf]; omega⟩
    · have HD : Hid (RES = true) := HM.out.trans (all_yes fun j hj => HE.out j (by omega))
      go_wp2
      go_ret
      exact ⟨ret_bool HD.out.symm, BW.out.trans (HB.out.mono BW.out.size)⟩
end Go.Proofs.YtggilenddbobnaaGreat.Pol
