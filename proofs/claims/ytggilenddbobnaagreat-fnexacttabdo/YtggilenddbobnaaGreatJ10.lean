/-
  How two sums stand: the program's orderOfParts, slices.CompareFunc with it, its PolOrder, and the specification's PolOrder.
  Whether all atoms of a sum are below a number: the program's PolUnder and the specification's.
  What is plain of two sums: the specification's l5Sums, l5Ring, l5Half, l5Bits.
-/
import Derived.Test.YtggilenddbobnaaGreatAl
import Derived.Test.YtggilenddbobnaaGreatJ04
import Derived.Test.YtggilenddbobnaaGreatJ03
import Derived.Test.YtggilenddbobnaaGreatJ09
namespace Go.Proofs.YtggilenddbobnaaGreat.Pol
open Go.ChangeShapes Go.WideShapes Go.ChangeAt Go.RowKit IntS
def ordPart (x y : Mono) : Int := if ordA x.2 y.2 ≠ 0 then ordA x.2 y.2 else cmpI x.1 y.1
theorem part_atoms {x y : Mono} (h : ordA x.2 y.2 ≠ 0) : ordPart x y = ordA x.2 y.2 := if_pos h
theorem part_coef {x y : Mono} (h : ordA x.2 y.2 = 0) : ordPart x y = cmpI x.1 y.1 := if_neg (fun h2 => h2 h)
theorem ordM_cons (x y : Mono) (xs ys : List Mono) : ordM (x :: xs) (y :: ys) = if ordPart x y ≠ 0 then ordPart x y else ordM xs ys := by
 rw [ordM]
 unfold ordPart cmpI
 by_cases h : ordA x.2 y.2 ≠ 0
 · simp [h]
 · rw [if_neg h, if_neg h]
   by_cases h1 : x.1 < y.1
   · simp [h1]
   · by_cases h2 : y.1 < x.1
     · simp [h1, h2]
     · simp [h1, h2]
theorem ordM_ne {ps rs : List Mono} {k : Nat} {x y : Mono} (hx : ps[k]? = some x) (hy : rs[k]? = some y) (h : ordPart x y ≠ 0) : ordM (ps.drop k) (rs.drop k) = ordPart x y := by
 rw [drop_cons hx, drop_cons hy, ordM_cons, if_pos h]
theorem ordM_eq {ps rs : List Mono} {k : Nat} {x y : Mono} (hx : ps[k]? = some x) (hy : rs[k]? = some y) (h : ordPart x y = 0) : ordM (ps.drop k) (rs.drop k) = ordM (ps.drop (k + 1)) (rs.drop (k + 1)) := by
 rw [drop_cons hx, drop_cons hy, ordM_cons, if_neg (fun h2 => h2 h)]
theorem ordM_end {ps rs : List Mono} {k : Nat} (ha : ps.length ≤ k) (hb : rs.length ≤ k) : ordM (ps.drop k) (rs.drop k) = 0 := by
 rw [List.drop_eq_nil_of_le ha, List.drop_eq_nil_of_le hb]
 rfl
theorem ordP_same {a b : List Mono} (h : a.length = b.length) : ordP a b = ordM a b := by unfold ordP; rw [if_neg (by omega), if_neg (by omega)]
theorem ordP_lt {a b : List Mono} (h : a.length < b.length) : ordP a b = -1 := by unfold ordP; rw [if_pos h]
theorem ordP_gt {a b : List Mono} (h : b.length < a.length) : ordP a b = 1 := by unfold ordP; rw [if_neg (by omega), if_pos h]
set_option maxHeartbeats 4000000 in
theorem orderOfParts (x y : Mono) (B B' : Nat) (v v' : Value) (w : World) (h : Row w B v x.2) (h' : Row w B' v' y.2) :
 Calls Tryz.prog 66 #[.agg #[.int .i64 x.1, v], .agg #[.int .i64 y.1, v']] w fun e w' => e = .returned (.int .i64 (ordPart x y)) ∧ Below w.heap.size w w' := by
 obtain ⟨c, xs⟩ := x
 obtain ⟨d, ys⟩ := y
 simp only [] at h h' ⊢
 have bV : Below w.heap.size w ((w.alloc (.cells #[.int .i64 c, v] 82)).alloc (.cells #[.int .i64 d, v'] 82)) := ((Below.refl _ _).alloc (Nat.le_refl _) _).alloc (by simp) _
 have H := hide (h.below bV)
 have H' := hide (h'.below bV)
 have BW := hide bV
 obtain ⟨a, cap, off, rfl, _⟩ := h
 obtain ⟨a', cap', off', rfl, _⟩ := h'
 obtain ⟨R, eR⟩ : ∃ R, ordPart (c, xs) (d, ys) = R := ⟨_, rfl⟩
 rw [eR]
 have ER := hide eR
 clear bV eR
 go_enter Tryz.func66, Tryz.ntmps66
 go_wp2_with fail
 refine (orderOfAtoms xs ys B B' _ _ _ H.out H'.out).mono ?_
 rintro e u ⟨rfl, rfl⟩
 by_cases e0 : ordA xs ys = 0
 · have HD : Hid (R = cmpI c d) := ER.out.symm.trans (part_coef e0)
   rw [e0]
   clear e0
   go_wp2_with fail
   refine (compare c d _).mono ?_
   rintro e u ⟨rfl, rfl⟩
   rw [← HD.out]
   go_wp2
   go_ret
   exact ⟨rfl, BW.out⟩
 · have HD : Hid (ordA xs ys = R) := (ER.out.symm.trans (part_atoms e0)).symm
   rw [HD.out] at e0 ⊢
   have e1 : (R != 0) = true := by simp [e0]
   clear e0
   go_wp2
   go_ret
   exact ⟨rfl, BW.out⟩
set_option maxRecDepth 4000 in
set_option maxHeartbeats 8000000 in
theorem compareFunc (ps rs : List Mono) (B B' : Nat) (v v' : Value) (w : World) (h : PRow w B v ps) (h' : PRow w B' v' rs) (hl : ps.length = rs.length) :
 Calls Tryz.prog 65 #[v, v', .func (.func 66) #[] #[]] w fun e w' => e = .returned (.int .i64 (ordM ps rs)) ∧ Below w.heap.size w w' := by
 obtain ⟨a, cap, off, rfl, h2, h3, hz, h4⟩ := h
 obtain ⟨a', cap', off', rfl, h2', h3', hz', h4'⟩ := h'
 unfold maxLen at h3 h3'
 clear hz hz'
 obtain ⟨n, hn⟩ : ∃ n, ps.length = n := ⟨_, rfl⟩
 have hn' : rs.length = n := by omega
 rw [hn] at h2 ⊢
 rw [hn'] at h2' ⊢
 have EN := hide hn
 have EN' := hide hn'
 have H4 := hide h4
 have H4' := hide h4'
 obtain ⟨R, eR⟩ : ∃ R, ordM ps rs = R := ⟨_, rfl⟩
 rw [eR]
 have ER := hide eR
 clear hn hn' h4 h4' hl eR
 go_enter Tryz.func65, Tryz.ntmps65
 by_cases h0 : n = 0
 · subst h0
   have HD : Hid (R = 0) := show _ = _ by rw [← ER.out, List.length_eq_zero_iff.1 EN.out, List.length_eq_zero_iff.1 EN'.out]; rfl
   go_wp2
   refine wp_loop_rounds 1 ?_
   rw [rounds_succ]
   go_wp2
   go_ret
   exact ⟨ret_int HD.out.symm, Below.refl _ _⟩
 · obtain ⟨rfl, hc⟩ := H4.out.resolve_left (fun e => h0 (by rw [← EN.out, e]; rfl))
   obtain ⟨rfl, hc'⟩ := H4'.out.resolve_left (fun e => h0 (by rw [← EN'.out, e]; rfl))
   have HC := hide hc
   have HC' := hide hc'
   clear hc hc' H4 H4'
   go_wp2
   go_loopw [13] (fun i wr => ∃ k : Nat, k ≤ n ∧ i = .int .i64 k ∧ Hid (ordM (ps.drop k) (rs.drop k) = R) ∧ Hid (Below w.heap.size w wr)) (fun i _ => n - (intOf i).toNat)
   case atStart => exact ⟨0, by omega, rfl, ER, Below.refl _ _⟩
   case round =>
    obtain ⟨k, hk, rfl, HE, HB⟩ := hrel
    by_cases hlt : k < n
    case neg =>
     have HD : Hid (R = 0) := HE.out.symm.trans (ordM_end (by rw [EN.out]; omega) (by rw [EN'.out]; omega))
     go_wp2
     go_ret
     exact ⟨ret_int HD.out.symm, HB.out⟩
    obtain ⟨x, ex⟩ : ∃ x, ps[k]? = some x := ⟨_, List.getElem?_eq_getElem (by rw [EN.out]; exact hlt)⟩
    obtain ⟨y, ey⟩ : ∃ y, rs[k]? = some y := ⟨_, List.getElem?_eq_getElem (by rw [EN'.out]; exact hlt)⟩
    obtain ⟨c, at_⟩ := x
    obtain ⟨d, bt_⟩ := y
    obtain ⟨g1, s, b, g2, g3⟩ := HC.out k _ ex
    obtain ⟨g1', s', b', g2', g3'⟩ := HC'.out k _ ey
    have cx := cell_below HB.out g1
    have sx := cell_below HB.out g2
    have cy := cell_below HB.out g1'
    have sy := cell_below HB.out g2'
    have RX := hide (g3.below HB.out)
    have RY := hide (g3'.below HB.out)
    have EX := hide ex
    have EY := hide ey
    obtain ⟨qa, ca, _, rfl, _⟩ := g3
    obtain ⟨qb, cb, _, rfl, _⟩ := g3'
    simp only [] at cx sx cy sy RX RY
    have lk : ((k : Nat) : Int) < (n : Nat) := by omega
    have lk2 : ¬ ((n : Nat) : Int) ≤ (k : Nat) := by omega
    have bX : Below wr.heap.size wr ((wr.alloc (.cells #[.int .i64 c, .slice qa at_.length ca] 82)).alloc (.cells #[.int .i64 d, .slice qb bt_.length cb] 82)) := ((Below.refl _ _).alloc (Nat.le_refl _) _).alloc (by simp) _
    replace RX := hide (RX.out.below bX)
    replace RY := hide (RY.out.below bX)
    have HU := hide (HB.out.trans (bX.mono HB.out.size))
    have bX1 := (Below.refl wr.heap.size wr).alloc (Nat.le_refl _) (.cells #[.int .i64 c, .slice qa at_.length ca] 82)
    have cy1 := cell_below bX1 cy
    have sy1 := cell_below bX1 sy
    clear ex ey g1 g2 g1' g2' bX bX1
    go_wp2_with fail
    refine (orderOfParts (c, at_) (d, bt_) b b' _ _ _ RX.out RY.out).mono ?_
    rintro e u ⟨rfl, hb⟩
    replace HU := hide (HU.out.trans (hb.mono HU.out.size))
    clear hb RX RY cx sx cy sy cy1 sy1
    by_cases e0 : ordPart (c, at_) (d, bt_) = 0
    · have HX : Hid (ordM (ps.drop (k + 1)) (rs.drop (k + 1)) = R) := (ordM_eq EX.out EY.out e0).symm.trans HE.out
      rw [e0]
      clear e0
      go_wp2
      exact ⟨⟨k + 1, by omega, by go_num, HX, HU⟩, by simp [intOf]; omega⟩
    · have HD : Hid (ordPart (c, at_) (d, bt_) = R) := (ordM_ne EX.out EY.out e0).symm.trans HE.out
      rw [HD.out] at e0 ⊢
      have e1 : (R != 0) = true := by simp [e0]
      clear e0
      go_wp2
      go_ret
      exact ⟨rfl, HU.out⟩
set_option maxHeartbeats 4000000 in
theorem implOrder (ps rs : List Mono) (B B' : Nat) (v v' : Value) (w : World) (h : PRow w B v ps) (h' : PRow w B' v' rs) :
 Calls Tryz.prog 30 #[.agg #[v], .agg #[v']] w fun e w' => e = .returned (.int .i64 (ordP ps rs)) ∧ Below w.heap.size w w' := by
 have bV : Below w.heap.size w ((w.alloc (.cells #[v] 35)).alloc (.cells #[v'] 35)) := ((Below.refl _ _).alloc (Nat.le_refl _) _).alloc (by simp) _
 have H := hide (h.below bV)
 have H' := hide (h'.below bV)
 have BW := hide bV
 obtain ⟨a, cap, off, rfl, h2, h3, _⟩ := h
 obtain ⟨a', cap', off', rfl, h2', h3', _⟩ := h'
 unfold maxLen at h3 h3'
 clear bV
 obtain ⟨R, eR⟩ : ∃ R, ordP ps rs = R := ⟨_, rfl⟩
 rw [eR]
 have ER := hide eR
 clear eR
 go_enter Tryz.func30, Tryz.ntmps30
 go_wp2_with fail
 refine (compare ps.length rs.length _).mono ?_
 rintro e u ⟨rfl, rfl⟩
 by_cases e1 : ps.length < rs.length
 · have HD : Hid (R = -1) := ER.out.symm.trans (ordP_lt e1)
   rw [cmp_lt (show (ps.length : Int) < rs.length by omega)]
   clear e1
   go_wp2
   go_ret
   exact ⟨ret_int HD.out.symm, BW.out⟩
 · by_cases e2 : rs.length < ps.length
   · have HD : Hid (R = 1) := ER.out.symm.trans (ordP_gt e2)
     rw [cmp_gt (show (rs.length : Int) < ps.length by omega)]
     clear e1 e2
     go_wp2
     go_ret
     exact ⟨ret_int HD.out.symm, BW.out⟩
   · have HL : Hid (ps.length = rs.length) := show _ = _ by omega
     have HD : Hid (R = ordM ps rs) := ER.out.symm.trans (ordP_same HL.out)
     rw [cmp_eq (show (ps.length : Int) = rs.length by omega)]
     clear e1 e2
     go_wp2_with fail
     refine (compareFunc ps rs B B' _ _ _ H.out H'.out HL.out).mono ?_
     rintro e u ⟨rfl, hb⟩
     replace BW := hide (BW.out.trans (hb.mono BW.out.size))
     clear hb
     rw [← HD.out]
     go_wp2
     go_ret
     exact ⟨rfl, BW.out⟩
set_option maxRecDepth 4000 in
set_option maxHeartbeats 8000000 in
theorem specOrder (ps rs : List Mono) (B B' : Nat) (v v' : Value) (w : World) (h : PRow w B v ps) (h' : PRow w B' v' rs) :
 Calls Tryz.prog 47 #[.agg #[v], .agg #[v']] w fun e w' => e = .returned (.int .i64 (ordP ps rs)) ∧ Below w.heap.size w w' := by
 have bV : Below w.heap.size w ((w.alloc (.cells #[v] 35)).alloc (.cells #[v'] 35)) := ((Below.refl _ _).alloc (Nat.le_refl _) _).alloc (by simp) _
 have Y0 : Hid (((w.alloc (.cells #[v] 35)).alloc (.cells #[v'] 35)).cell? ⟨w.heap.size, 0, none⟩ = some v) := show _ = _ by
  rw [World.cell?_alloc_lt _ _ _ (by simp), World.cell?_alloc_new]; rfl
 have Y1 : Hid (((w.alloc (.cells #[v] 35)).alloc (.cells #[v'] 35)).cell? ⟨w.heap.size + 1, 0, none⟩ = some v') := show _ = _ by
  have := Rec.new (w.alloc (.cells #[v] 35)) [v'] 35
  rw [show (w.alloc (.cells #[v] 35)).heap.size = w.heap.size + 1 by simp] at this
  exact this.cell 0 _ rfl
 have H := hide (h.below bV)
 have H' := hide (h'.below bV)
 have BW := hide bV
 obtain ⟨a, cap, off, rfl, h2, h3, _⟩ := h
 obtain ⟨a', cap', off', rfl, h2', h3', _⟩ := h'
 unfold maxLen at h3 h3'
 clear bV
 obtain ⟨R, eR⟩ : ∃ R, ordP ps rs = R := ⟨_, rfl⟩
 rw [eR]
 have ER := hide eR
 clear eR
 go_enter Tryz.func47, Tryz.ntmps47
 by_cases hl : ps.length = rs.length
 case neg =>
  have nn : ((ps.length : Int) != (rs.length : Int)) = true := by simp; omega
  by_cases e1 : ps.length < rs.length
  · have HD : Hid (R = -1) := ER.out.symm.trans (ordP_lt e1)
    have e1' : (ps.length : Int) < rs.length := by omega
    clear e1 hl
    go_wp2
    go_ret
    exact ⟨ret_int HD.out.symm, BW.out⟩
  · have HD : Hid (R = 1) := ER.out.symm.trans (ordP_gt (by omega))
    have e1' : ¬ (ps.length : Int) < rs.length := by omega
    clear e1 hl
    go_wp2
    go_ret
    exact ⟨ret_int HD.out.symm, BW.out⟩
 replace ER : Hid (ordM ps rs = R) := (ordP_same hl).symm.trans ER.out
 obtain ⟨n, hn⟩ : ∃ n, ps.length = n := ⟨_, rfl⟩
 have hn' : rs.length = n := by omega
 rw [hn] at h2 Y0 Y1 BW H H'
 rw [hn'] at h2' Y0 Y1 BW H H'
 rw [hn, hn']
 have EN := hide hn
 have EN' := hide hn'
 have nn : ((n : Int) != (n : Int)) = false := by simp
 clear hn hn' hl
 by_cases h0 : n = 0
 · subst h0
   have HD : Hid (R = 0) := show _ = _ by rw [← ER.out, List.length_eq_zero_iff.1 EN.out, List.length_eq_zero_iff.1 EN'.out]; rfl
   go_wp2
   refine wp_loop_rounds 1 ?_
   rw [rounds_succ]
   go_wp2
   go_ret
   exact ⟨ret_int HD.out.symm, BW.out⟩
 · obtain ⟨_, _, offa, ea, _, _, _, ha4⟩ := H.out
   obtain ⟨rfl, hc⟩ := ha4.resolve_left (fun e => h0 (by rw [← EN.out, e]; rfl))
   simp only [Value.slice.injEq] at ea
   obtain ⟨rfl, -, rfl⟩ := ea
   obtain ⟨_, _, offb, eb, _, _, _, hb4⟩ := H'.out
   obtain ⟨rfl, hc'⟩ := hb4.resolve_left (fun e => h0 (by rw [← EN'.out, e]; rfl))
   simp only [Value.slice.injEq] at eb
   obtain ⟨rfl, -, rfl⟩ := eb
   have HC := hide hc
   have HC' := hide hc'
   clear hc hc' ha4 hb4 H H'
   go_wp2_with fail
   generalize ((w.alloc (.cells #[.slice (some ⟨B, offa, none⟩) n cap] 35)).alloc (.cells #[.slice (some ⟨B', offb, none⟩) n cap'] 35)) = V at Y0 Y1 BW HC HC' ⊢
   have z0 := Y0.out
   have z1 := Y1.out
   go_wp2
   clear z0 z1
   go_loopw [5] (fun i wr => ∃ k : Nat, k ≤ n ∧ i = .int .i64 k ∧ Hid (ordM (ps.drop k) (rs.drop k) = R) ∧ Hid (Below V.heap.size V wr)) (fun i _ => n - (intOf i).toNat)
   case atStart => exact ⟨0, by omega, rfl, ER, Below.refl _ _⟩
   case round =>
    obtain ⟨k, hk, rfl, HE, HB⟩ := hrel
    have z0 := cell_below HB.out Y0.out
    have z1 := cell_below HB.out Y1.out
    by_cases hlt : k < n
    case neg =>
     have HD : Hid (R = 0) := HE.out.symm.trans (ordM_end (by rw [EN.out]; omega) (by rw [EN'.out]; omega))
     go_wp2
     go_ret
     exact ⟨ret_int HD.out.symm, BW.out.trans (HB.out.mono BW.out.size)⟩
    obtain ⟨x, ex⟩ : ∃ x, ps[k]? = some x := ⟨_, List.getElem?_eq_getElem (by rw [EN.out]; exact hlt)⟩
    obtain ⟨y, ey⟩ : ∃ y, rs[k]? = some y := ⟨_, List.getElem?_eq_getElem (by rw [EN'.out]; exact hlt)⟩
    obtain ⟨c, at_⟩ := x
    obtain ⟨d, bt_⟩ := y
    obtain ⟨g1, s, b, g2, g3⟩ := HC.out k _ ex
    obtain ⟨g1', s', b', g2', g3'⟩ := HC'.out k _ ey
    have DR : Below wr.heap.size wr wr.drew := (Below.refl _ _).drew
    have HB1 := hide (HB.out.trans (DR.mono HB.out.size))
    have cx := cell_below HB.out g1
    have sx := cell_below HB.out g2
    have cy := cell_below HB.out g1'
    have sy := cell_below HB.out g2'
    have RX := hide (g3.below HB1.out)
    have RY := hide (g3'.below HB1.out)
    have EX := hide ex
    have EY := hide ey
    obtain ⟨qa, ca, _, rfl, _⟩ := g3
    obtain ⟨qb, cb, _, rfl, _⟩ := g3'
    simp only [] at cx sx cy sy RX RY
    have lk : ((k : Nat) : Int) < (n : Nat) := by omega
    clear ex ey g1 g2 g1' g2' DR
    go_wp2_with fail
    refine region_tail 12 (by kernel_rfl) (by kernel_rfl) ?_
    simp only [List.take_succ_cons, List.take_zero, List.drop_succ_cons, List.drop_zero]
    repeat still_step
    refine wpStill_nil ?_
    go_wp2_with fail
    refine (l4Order at_ bt_ b b' _ _ _ RX.out RY.out).mono ?_
    rintro e u ⟨rfl, hb⟩
    have p0 := cell_below hb (cell_drew z0)
    have p1 := cell_below hb (cell_drew z1)
    have px := cell_below hb (cell_drew cx)
    have py := cell_below hb (cell_drew cy)
    have HU := hide (HB1.out.trans (hb.mono HB1.out.size))
    clear hb RX RY cx sx cy sy z0 z1 HB HB1
    by_cases e0 : ordA at_ bt_ = 0
    case neg =>
     have HD : Hid (ordA at_ bt_ = R) := (part_atoms (x := (c, at_)) (y := (d, bt_)) e0).symm.trans ((ordM_ne EX.out EY.out (by rw [part_atoms (x := (c, at_)) (y := (d, bt_)) e0]; exact e0)).symm.trans HE.out)
     rw [HD.out] at e0 ⊢
     have e1 : (R != 0) = true := by simp [e0]
     clear e0
     go_wp2
     go_ret
     exact ⟨rfl, BW.out.trans (HU.out.mono BW.out.size)⟩
    have HP := hide (part_coef (x := (c, at_)) (y := (d, bt_)) e0)
    rw [e0]
    clear e0
    have HU1 : Hid (Below V.heap.size V u.drew) := HU.out.drew
    by_cases e1 : c = d
    · have HX : Hid (ordM (ps.drop (k + 1)) (rs.drop (k + 1)) = R) := (ordM_eq EX.out EY.out (by rw [HP.out]; exact cmp_eq e1)).symm.trans HE.out
      subst e1
      have cc : (c != c) = false := by simp
      go_wp2_with fail
      refine region_tail 12 (by kernel_rfl) (by kernel_rfl) ?_
      simp only [List.take_succ_cons, List.take_zero, List.drop_succ_cons, List.drop_zero]
      repeat still_step
      refine wpStill_nil ?_
      go_wp2
      exact ⟨⟨k + 1, by omega, by go_num, HX, HU1⟩, by simp [intOf]; omega⟩
    have cc : (c != d) = true := by simpa using e1
    have HU2 : Hid (Below V.heap.size V u.drew.drew) := HU.out.drew.drew
    have r0 : u.drew.cell? ⟨w.heap.size, 0, none⟩ = some (.slice (some ⟨B, offa, none⟩) n cap) := p0
    have r1 : u.drew.cell? ⟨w.heap.size + 1, 0, none⟩ = some (.slice (some ⟨B', offb, none⟩) n cap') := p1
    have rx : u.drew.cell? ⟨B, offa + k * 2, none⟩ = some (.int .i64 c) := px
    have ry : u.drew.cell? ⟨B', offb + k * 2, none⟩ = some (.int .i64 d) := py
    go_wp2_with fail
    refine region_tail 12 (by kernel_rfl) (by kernel_rfl) ?_
    simp only [List.take_succ_cons, List.take_zero, List.drop_succ_cons, List.drop_zero]
    repeat still_step
    refine wpStill_nil ?_
    go_wp2_with fail
    clear p0 p1 px py
    generalize u.drew = ud at r0 r1 rx ry HU1 HU2 ⊢
    by_cases e2 : c < d
    · have HD : Hid (R = -1) := HE.out.symm.trans ((ordM_ne EX.out EY.out (by rw [HP.out, cmp_lt e2]; decide)).trans (HP.out.trans (cmp_lt e2)))
      refine region_tail 12 (by kernel_rfl) (by kernel_rfl) ?_
      simp only [List.take_succ_cons, List.take_zero, List.drop_succ_cons, List.drop_zero]
      repeat still_step
      refine wpStill_nil ?_
      go_wp2
      go_ret
      exact ⟨ret_int HD.out.symm, BW.out.trans (HU2.out.mono BW.out.size)⟩
    · have HD : Hid (R = 1) := HE.out.symm.trans ((ordM_ne EX.out EY.out (by rw [HP.out, cmp_gt (show d < c by omega)]; decide)).trans (HP.out.trans (cmp_gt (show d < c by omega))))
      refine region_tail 12 (by kernel_rfl) (by kernel_rfl) ?_
      simp only [List.take_succ_cons, List.take_zero, List.drop_succ_cons, List.drop_zero]
      repeat still_step
      refine wpStill_nil ?_
      go_wp2
      go_ret
      exact ⟨ret_int HD.out.symm, BW.out.trans (HU2.out.mono BW.out.size)⟩
end Go.Proofs.YtggilenddbobnaaGreat.Pol
namespace Go.Proofs.YtggilenddbobnaaGreat.Pol
open Go.ChangeShapes Go.WideShapes Go.ChangeAt Go.RowKit IntS
def rowAt (ps : List Mono) (n : Int) (i : Nat) : Bool := (List.range (ps.getD i (0, [])).2.length).all fun j => decide ((ps.getD i (0, [])).2.getD j 0 < n)
theorem under_rows (ps : List Mono) (n : Int) : underB ps n = (List.range ps.length).all (rowAt ps n) := rfl
theorem row_no {ps : List Mono} {n : Int} {k j : Nat} {c x : Int} {at_ : List Int} (h : ps[k]? = some (c, at_)) (hx : at_[j]? = some x) (hn : n ≤ x) : rowAt ps n k = false := by
 unfold rowAt
 rw [getD_part h]
 exact all_no (k := j) (List.getElem?_eq_some_iff.1 hx).1 (by rw [getD_at hx]; exact decide_eq_false (by omega))
theorem row_yes {ps : List Mono} {n : Int} {k : Nat} {c : Int} {at_ : List Int} (h : ps[k]? = some (c, at_)) (hx : ∀ (j : Nat) x, at_[j]? = some x → x < n) : rowAt ps n k = true := by
 unfold rowAt
 rw [getD_part h]
 exact all_yes fun j hj => by
  rw [getD_at (List.getElem?_eq_getElem hj)]
  exact decide_eq_true (hx j _ (List.getElem?_eq_getElem hj))
set_option maxRecDepth 4000 in
set_option maxHeartbeats 8000000 in
theorem implUnder (ps : List Mono) (q : Int) (B : Nat) (v : Value) (w : World) (h : PRow w B v ps) :
 Calls Tryz.prog 55 #[.agg #[v], .int .i64 q] w fun e w' => e = .returned (.bool (underB ps q)) ∧ Below w.heap.size w w' := by
 obtain ⟨a, cap, off, rfl, h2, h3, hz, h4⟩ := h
 unfold maxLen at h3
 clear hz
 have bV : Below w.heap.size w (w.alloc (.cells #[.slice a ps.length cap] 35)) := (Below.refl _ _).alloc (Nat.le_refl _) _
 have BW := hide bV
 clear bV
 have HM := hide (under_rows ps q)
 obtain ⟨RES, eRES⟩ : ∃ r, underB ps q = r := ⟨_, rfl⟩
 rw [eRES]
 replace HM := hide (eRES.symm.trans HM.out)
 clear eRES
 obtain ⟨n, en⟩ : ∃ n, ps.length = n := ⟨_, rfl⟩
 have EN := hide en
 rw [en] at h2 BW HM ⊢
 have H4 := hide h4
 clear en h4
 go_enter Tryz.func55, Tryz.ntmps55
 by_cases h0 : n = 0
 · subst h0
   have HD : Hid (RES = true) := HM.out.trans rfl
   go_wp2
   refine wp_loop_rounds 1 ?_
   rw [rounds_succ]
   go_wp2
   go_ret
   exact ⟨ret_bool HD.out.symm, BW.out⟩
 · obtain ⟨rfl, hc⟩ := H4.out.resolve_left (fun e => h0 (by rw [← EN.out, e]; rfl))
   have HC := hide hc
   clear hc H4
   go_wp2
   have ZZ : Hid ((w.alloc (.cells #[.slice (some ⟨B, off, none⟩) n cap] 35)).cell? ⟨w.heap.size, 0, none⟩ = some (.slice (some ⟨B, off, none⟩) n cap)) := show _ = _ by rw [World.cell?_alloc_new]; rfl
   have HV : Hid (∀ (i : Nat) x, ps[i]? = some x → (w.alloc (.cells #[.slice (some ⟨B, off, none⟩) n cap] 35)).cell? ⟨B, off + i * 2, none⟩ = some (.int .i64 x.1) ∧ ∃ s b, (w.alloc (.cells #[.slice (some ⟨B, off, none⟩) n cap] 35)).cell? ⟨B, off + i * 2 + 1, none⟩ = some s ∧ Row (w.alloc (.cells #[.slice (some ⟨B, off, none⟩) n cap] 35)) b s x.2) := fun i x hx => by
    obtain ⟨g1, s, b, g2, g3⟩ := HC.out i x hx
    have bb := (Below.refl w.heap.size w).alloc (Nat.le_refl _) (.cells #[.slice (some ⟨B, off, none⟩) n cap] 35)
    exact ⟨cell_below bb g1, s, b, cell_below bb g2, g3.below bb⟩
   generalize w.alloc (.cells #[.slice (some ⟨B, off, none⟩) n cap] 35) = V at BW HV ZZ ⊢
   go_loopw [12] (fun i wr => ∃ k : Nat, k ≤ n ∧ i = .int .i64 k ∧ Hid (∀ j, j < k → rowAt ps q j = true) ∧ Hid (Below V.heap.size V wr)) (fun i _ => n - (intOf i).toNat)
   case atStart => exact ⟨0, by omega, rfl, fun j hj => by omega, Below.refl _ _⟩
   case round =>
    obtain ⟨k, hk, rfl, HE, HB⟩ := hrel
    have z0 := cell_below HB.out ZZ.out
    by_cases hlt : k < n
    case neg =>
     have HD : Hid (RES = true) := HM.out.trans (all_yes fun j hj => HE.out j (by omega))
     go_wp2
     go_ret
     exact ⟨ret_bool HD.out.symm, BW.out.trans (HB.out.mono BW.out.size)⟩
    obtain ⟨x, ex⟩ : ∃ x, ps[k]? = some x := ⟨_, List.getElem?_eq_getElem (by rw [EN.out]; exact hlt)⟩
    obtain ⟨c, at_⟩ := x
    obtain ⟨g1, s, b, g2, g3⟩ := HV.out k _ ex
    have cx := cell_below HB.out g1
    have sx := cell_below HB.out g2
    replace g3 := g3.below HB.out
    have EX := hide ex
    obtain ⟨qa, ca, oa, rfl, l2, l3, _, l4⟩ := g3
    unfold maxLen at l3
    simp only [] at cx sx l2 l4
    have lk : ((k : Nat) : Int) < (n : Nat) := by omega
    have NX : Hid (rowAt ps q k = true → ∀ j, j < k + 1 → rowAt ps q j = true) := fun hr j hj => by
     by_cases ej : j = k
     · subst ej; exact hr
     · exact HE.out j (by omega)
    clear ex g1 g2
    obtain ⟨m, em⟩ : ∃ m, at_.length = m := ⟨_, rfl⟩
    have EM := hide em
    rw [em] at sx l2
    have L4 := hide l4
    clear em l4
    by_cases m0 : m = 0
    · subst m0
      have HX := hide (NX.out (row_yes EX.out (fun j y hy => by rw [List.length_eq_zero_iff.1 EM.out] at hy; simp at hy)))
      have BX := hide (HB.out.trans (((Below.refl wr.heap.size wr).alloc (Nat.le_refl _) (.cells #[.int .i64 c, .slice qa 0 ca] 82)).mono HB.out.size))
      go_wp2
      refine wp_loop_rounds 1 ?_
      rw [rounds_succ]
      go_wp2
      exact ⟨⟨k + 1, by omega, by go_num, HX, BX⟩, by simp [intOf]; omega⟩
    · obtain ⟨rfl, hc2⟩ := L4.out.resolve_left (fun e => m0 (by rw [← EM.out, e]; rfl))
      have bX := (Below.refl wr.heap.size wr).alloc (Nat.le_refl _) (.cells #[.int .i64 c, .slice (some ⟨b, oa, none⟩) m ca] 82)
      have HC2 := hide (fun (j : Nat) (y : Int) (hy : at_[j]? = some y) => cell_below bX (hc2 j y hy))
      have BX := hide (HB.out.trans (bX.mono HB.out.size))
      clear hc2 L4 bX
      go_wp2
      generalize wr.alloc (.cells #[.int .i64 c, .slice (some ⟨b, oa, none⟩) m ca] 82) = U at HC2 BX ⊢
      clear cx sx z0
      go_loopw [19] (fun i w2 => ∃ j : Nat, j ≤ m ∧ i = .int .i64 j ∧ Hid (∀ (t : Nat) y, t < j → at_[t]? = some y → y < q) ∧ w2 = U) (fun i _ => m - (intOf i).toNat)
      case atStart => exact ⟨0, by omega, rfl, fun t y ht => by omega, rfl⟩
      case round =>
       obtain ⟨j, hj, rfl, HT, rfl⟩ := hrel
       by_cases jlt : j < m
       · obtain ⟨y, ey⟩ : ∃ y, at_[j]? = some y := ⟨_, List.getElem?_eq_getElem (by rw [EM.out]; exact jlt)⟩
         have cy := HC2.out j y ey
         have EY := hide ey
         have lj : ((j : Nat) : Int) < (m : Nat) := by omega
         clear ey
         by_cases hb : q ≤ y
         · have HD : Hid (RES = false) := HM.out.trans (all_no (k := k) hlt (row_no EX.out EY.out hb))
           go_wp2
           go_ret
           exact ⟨ret_bool HD.out.symm, BW.out.trans (BX.out.mono BW.out.size)⟩
         · have HX : Hid (∀ (t : Nat) z, t < j + 1 → at_[t]? = some z → z < q) := fun t z ht hz => by
            by_cases et : t = j
            · subst et
              rw [EY.out] at hz
              obtain rfl := Option.some.inj hz
              omega
            · exact HT.out t z (by omega) hz
           go_wp2
           exact ⟨⟨j + 1, by omega, by go_num, HX, trivial⟩, by simp [intOf]; omega⟩
       · have HX := hide (NX.out (row_yes EX.out (fun t y hy => HT.out t y (by have := (List.getElem?_eq_some_iff.1 hy).1; rw [EM.out] at this; omega) hy)))
         go_wp2
         exact ⟨⟨k + 1, by omega, by go_num, HX, BX⟩, by simp [intOf]; omega⟩
set_option maxRecDepth 4000 in
set_option maxHeartbeats 8000000 in
theorem specUnder (ps : List Mono) (q : Int) (B : Nat) (v : Value) (w : World) (h : PRow w B v ps) :
 Calls Tryz.prog 44 #[.agg #[v], .int .i64 q] w fun e w' => e = .returned (.bool (underB ps q)) ∧ Below w.heap.size w w' := by
 obtain ⟨a, cap, off, rfl, h2, h3, hz, h4⟩ := h
 unfold maxLen at h3
 clear hz
 have bV : Below w.heap.size w (w.alloc (.cells #[.slice a ps.length cap] 35)) := (Below.refl _ _).alloc (Nat.le_refl _) _
 have BW := hide bV
 clear bV
 have HM := hide (under_rows ps q)
 obtain ⟨RES, eRES⟩ : ∃ r, underB ps q = r := ⟨_, rfl⟩
 rw [eRES]
 replace HM := hide (eRES.symm.trans HM.out)
 clear eRES
 obtain ⟨n, en⟩ : ∃ n, ps.length = n := ⟨_, rfl⟩
 have EN := hide en
 rw [en] at h2 BW HM ⊢
 have H4 := hide h4
 clear en h4
 go_enter Tryz.func44, Tryz.ntmps44
 by_cases h0 : n = 0
 · subst h0
   have HD : Hid (RES = true) := HM.out.trans rfl
   go_wp2
   refine wp_loop_rounds 1 ?_
   rw [rounds_succ]
   go_wp2
   go_ret
   exact ⟨ret_bool HD.out.symm, BW.out⟩
 · obtain ⟨rfl, hc⟩ := H4.out.resolve_left (fun e => h0 (by rw [← EN.out, e]; rfl))
   have HC := hide hc
   clear hc H4
   go_wp2
   have ZZ : Hid ((w.alloc (.cells #[.slice (some ⟨B, off, none⟩) n cap] 35)).cell? ⟨w.heap.size, 0, none⟩ = some (.slice (some ⟨B, off, none⟩) n cap)) := show _ = _ by rw [World.cell?_alloc_new]; rfl
   have HV : Hid (∀ (i : Nat) x, ps[i]? = some x → (w.alloc (.cells #[.slice (some ⟨B, off, none⟩) n cap] 35)).cell? ⟨B, off + i * 2, none⟩ = some (.int .i64 x.1) ∧ ∃ s b, (w.alloc (.cells #[.slice (some ⟨B, off, none⟩) n cap] 35)).cell? ⟨B, off + i * 2 + 1, none⟩ = some s ∧ Row (w.alloc (.cells #[.slice (some ⟨B, off, none⟩) n cap] 35)) b s x.2) := fun i x hx => by
    obtain ⟨g1, s, b, g2, g3⟩ := HC.out i x hx
    have bb := (Below.refl w.heap.size w).alloc (Nat.le_refl _) (.cells #[.slice (some ⟨B, off, none⟩) n cap] 35)
    exact ⟨cell_below bb g1, s, b, cell_below bb g2, g3.below bb⟩
   generalize w.alloc (.cells #[.slice (some ⟨B, off, none⟩) n cap] 35) = V at BW HV ZZ ⊢
   go_loopw [5] (fun i wr => ∃ k : Nat, k ≤ n ∧ i = .int .i64 k ∧ Hid (∀ j, j < k → rowAt ps q j = true) ∧ Hid (Below V.heap.size V wr)) (fun i _ => n - (intOf i).toNat)
   case atStart => exact ⟨0, by omega, rfl, fun j hj => by omega, Below.refl _ _⟩
   case round =>
    obtain ⟨k, hk, rfl, HE, HB⟩ := hrel
    have z0 := cell_below HB.out ZZ.out
    by_cases hlt : k < n
    case neg =>
     have HD : Hid (RES = true) := HM.out.trans (all_yes fun j hj => HE.out j (by omega))
     go_wp2
     go_ret
     exact ⟨ret_bool HD.out.symm, BW.out.trans (HB.out.mono BW.out.size)⟩
    obtain ⟨x, ex⟩ : ∃ x, ps[k]? = some x := ⟨_, List.getElem?_eq_getElem (by rw [EN.out]; exact hlt)⟩
    obtain ⟨c, at_⟩ := x
    obtain ⟨g1, s, b, g2, g3⟩ := HV.out k _ ex
    have cx := cell_below HB.out g1
    have sx := cell_below HB.out g2
    replace g3 := g3.below HB.out
    have EX := hide ex
    obtain ⟨qa, ca, oa, rfl, l2, l3, _, l4⟩ := g3
    unfold maxLen at l3
    simp only [] at cx sx l2 l4
    have lk : ((k : Nat) : Int) < (n : Nat) := by omega
    have NX : Hid (rowAt ps q k = true → ∀ j, j < k + 1 → rowAt ps q j = true) := fun hr j hj => by
     by_cases ej : j = k
     · subst ej; exact hr
     · exact HE.out j (by omega)
    clear ex g1 g2
    obtain ⟨m, em⟩ : ∃ m, at_.length = m := ⟨_, rfl⟩
    have EM := hide em
    rw [em] at sx l2
    have L4 := hide l4
    clear em l4
    by_cases m0 : m = 0
    · subst m0
      have HX := hide (NX.out (row_yes EX.out (fun j y hy => by rw [List.length_eq_zero_iff.1 EM.out] at hy; simp at hy)))
      have BX := HB
      go_wp2
      refine wp_loop_rounds 1 ?_
      rw [rounds_succ]
      go_wp2
      exact ⟨⟨k + 1, by omega, by go_num, HX, BX⟩, by simp [intOf]; omega⟩
    · obtain ⟨rfl, hc2⟩ := L4.out.resolve_left (fun e => m0 (by rw [← EM.out, e]; rfl))
      have HC2 := hide hc2
      have BX := HB
      clear hc2 L4
      go_wp2
      go_loopw [6] (fun i w2 => ∃ j : Nat, j ≤ m ∧ i = .int .i64 j ∧ Hid (∀ (t : Nat) y, t < j → at_[t]? = some y → y < q) ∧ w2 = wr) (fun i _ => m - (intOf i).toNat)
      case atStart => exact ⟨0, by omega, rfl, fun t y ht => by omega, rfl⟩
      case round =>
       obtain ⟨j, hj, rfl, HT, rfl⟩ := hrel
       by_cases jlt : j < m
       · obtain ⟨y, ey⟩ : ∃ y, at_[j]? = some y := ⟨_, List.getElem?_eq_getElem (by rw [EM.out]; exact jlt)⟩
         have cy := HC2.out j y ey
         have EY := hide ey
         have lj : ((j : Nat) : Int) < (m : Nat) := by omega
         clear ey
         by_cases hb : q ≤ y
         · have HD : Hid (RES = false) := HM.out.trans (all_no (k := k) hlt (row_no EX.out EY.out hb))
           go_wp2
           go_ret
           exact ⟨ret_bool HD.out.symm, BW.out.trans (BX.out.mono BW.out.size)⟩
         · have HX : Hid (∀ (t : Nat) z, t < j + 1 → at_[t]? = some z → z < q) := fun t z ht hz => by
            by_cases et : t = j
            · subst et
              rw [EY.out] at hz
              obtain rfl := Option.some.inj hz
              omega
            · exact HT.out t z (by omega) hz
           go_wp2
           exact ⟨⟨j + 1, by omega, by go_num, HX, trivial⟩, by simp [intOf]; omega⟩
       · have HX := hide (NX.out (row_yes EX.out (fun t y hy => HT.out t y (by have := (List.getElem?_eq_some_iff.1 hy).1; rw [EM.out] at this; omega) hy)))
         go_wp2
         exact ⟨⟨k + 1, by omega, by go_num, HX, BX⟩, by simp [intOf]; omega⟩
end Go.Proofs.YtggilenddbobnaaGreat.Pol
namespace Go.Proofs.YtggilenddbobnaaGreat.Tab
set_option linter.unusedVariables false
set_option linter.unusedSimpArgs false
open Go.ChangeShapes Go.WideShapes Go.ChangeAt Go.RowKit IntS Pol
def ringP (op : Int) (x y : List Mono) : List Mono := if op = 1 then addP x y else if op = 2 then addP x (scaleP y 65535) else if op = 3 then mulP x y else []
def ringB (op : Int) (x y : List Mono) : Bool := if op = 1 then addB x y else if op = 2 then addB x (scaleP y 65535) else if op = 3 then mulB x y else false
def halfP (op n : Int) (y : List Mono) : List Mono := if op = 4 ∧ n = 0 then [] else if (op = 4 ∧ n = 65535) ∨ (op = 5 ∧ n = 0) then y else []
def halfB (op n : Int) : Bool := decide ((op = 4 ∧ n = 0) ∨ (op = 4 ∧ n = 65535) ∨ (op = 5 ∧ n = 0))
def bitsP (op : Int) (x y : List Mono) : List Mono :=
 if (numP x).2 = true ∧ (numP y).2 = true then constP (Wrd.wdo op (numP x).1 (numP y).1) else if ordP x y = 0 then (if op = 4 then x else []) else if (numP x).2 = true then halfP op (numP x).1 y else if (numP y).2 = true then halfP op (numP y).1 x else []
def bitsB (op : Int) (x y : List Mono) : Bool :=
 if (numP x).2 = true ∧ (numP y).2 = true then true else if ordP x y = 0 then true else if (numP x).2 = true then halfB op (numP x).1 else if (numP y).2 = true then halfB op (numP y).1 else false
def sumsB (x y : List Mono) (n : Int) : Bool := okP x && okP y && underB x n && underB y n
/-- A sum and a bool, told. -/
structure Two2 (w w' : World) (e : Ending) (p : List Mono) (b : Bool) : Prop where
 ex : ∃ a l c, e = .returned (.tuple #[.agg #[.slice a l c], .bool b]) ∧ WPoly w' w.heap.size w'.heap.size (.slice a l c) p
 bw : Below w.heap.size w w'
/-- The end of such a function: the answer's block, and what was laid into it. -/
theorem two_end {w u y : World} {a : Option Addr} {l c lo hi : Nat} {p : List Mono} {v : Value} (hl : w.heap.size + 1 + 1 < lo) (hh : hi ≤ u.heap.size) (W : WPoly u lo hi (.slice a l c) p) (bw : Below w.heap.size w u) (t : Turn (w.heap.size + 1 + 1) u y) (b : Bool) : Two2 w y (.returned (.tuple #[.agg #[.slice a l c], .bool b])) p b :=
 ⟨⟨a, l, c, rfl, (W.keep (Keep.of_turn t) (fun b' h1 h2 (h3 : b' = _) => by omega)).wide (by omega) (Nat.le_trans hh t.size)⟩, bw.trans (t.below (by omega) bw.size)⟩
theorem two_cast {w w' : World} {e : Ending} {p p' : List Mono} {b b' : Bool} (h : Two2 w w' e p b) (hp : p = p') (hb : b = b') : Two2 w w' e p' b' := by subst hp hb; exact h
set_option maxRecDepth 8000 in
set_option maxHeartbeats 8000000 in
theorem l5Sums (x y : List Mono) (n : Int) (Bx By : Nat) (vx vy : Value) (w : World) (hx : PRow w Bx vx x) (hy : PRow w By vy y) :
 Calls Tryz.prog 20 #[.agg #[vx], .agg #[vy], .int .i64 n] w fun e w' => e = .returned (.bool (sumsB x y n)) ∧ Below w.heap.size w w' := by
 have b1 : Below w.heap.size w ((w.alloc (.cells #[vx] 35)).alloc (.cells #[vy] 35)) := ((Below.refl _ _).alloc (Nat.le_refl _) _).alloc (by simp) _
 have RX := hide ((Rec.new w [vx] 35).alloc (.cells #[vy] 35))
 have R2 := Rec.new (w.alloc (.cells #[vx] 35)) [vy] 35
 rw [show (w.alloc (.cells #[vx] 35)).heap.size = w.heap.size + 1 by simp] at R2
 have RY := hide R2
 have HX := hide (hx.below b1)
 have HY := hide (hy.below b1)
 have BW := hide b1
 obtain ⟨qx, cx, _, rfl, _⟩ := hx
 obtain ⟨qy, cy, _, rfl, _⟩ := hy
 clear b1 R2
 obtain ⟨Z, eZ⟩ : ∃ Z, sumsB x y n = Z := ⟨_, rfl⟩
 have HZ : Hid (Z = (okP x && okP y && underB x n && underB y n)) := eZ.symm
 rw [eZ]
 clear eZ
 go_enter Tryz.func20, Tryz.ntmps20
 go_wp2_with fail
 generalize ((w.alloc (.cells #[.slice qx x.length cx] 35)).alloc (.cells #[.slice qy y.length cy] 35)) = V at RX RY HX HY BW ⊢
 have x0 := RX.out.cell 0 _ rfl
 have y0 := RY.out.cell 0 _ rfl
 go_wp2_with fail
 refine (specOk x Bx _ _ HX.out).mono ?_
 rintro e u1 ⟨rfl, hb⟩
 clear x0 y0
 replace RX := hide (RX.out.below hb)
 replace RY := hide (RY.out.below hb)
 replace HX := hide (HX.out.below hb)
 replace HY := hide (HY.out.below hb)
 replace BW := hide (BW.out.trans (hb.mono BW.out.size))
 clear hb
 by_cases e1 : okP x = true
 case neg =>
  rw [Bool.not_eq_true] at e1
  have HD : Hid (Z = false) := show _ = _ by rw [HZ.out]; simp [e1]
  rw [e1]
  clear HZ
  go_wp2
  go_ret
  exact ⟨ret_bool HD.out.symm, BW.out⟩
 rw [e1]
 have x0 := RX.out.cell 0 _ rfl
 have y0 := RY.out.cell 0 _ rfl
 go_wp2_with fail
 refine (specOk y By _ _ HY.out).mono ?_
 rintro e u2 ⟨rfl, hb⟩
 clear x0 y0
 replace RX := hide (RX.out.below hb)
 replace RY := hide (RY.out.below hb)
 replace HX := hide (HX.out.below hb)
 replace HY := hide (HY.out.below hb)
 replace BW := hide (BW.out.trans (hb.mono BW.out.size))
 clear hb
 by_cases e2 : okP y = true
 case neg =>
  rw [Bool.not_eq_true] at e2
  have HD : Hid (Z = false) := show _ = _ by rw [HZ.out]; simp [e1, e2]
  rw [e2]
  clear HZ
  go_wp2
  go_ret
  exact ⟨ret_bool HD.out.symm, BW.out⟩
 rw [e2]
 have x0 := RX.out.cell 0 _ rfl
 have y0 := RY.out.cell 0 _ rfl
 go_wp2_with fail
 refine (specUnder x n Bx _ _ HX.out).mono ?_
 rintro e u3 ⟨rfl, hb⟩
 clear x0 y0
 replace RX := hide (RX.out.below hb)
 replace RY := hide (RY.out.below hb)
 replace HX := hide (HX.out.below hb)
 replace HY := hide (HY.out.below hb)
 replace BW := hide (BW.out.trans (hb.mono BW.out.size))
 clear hb
 by_cases e3 : underB x n = true
 case neg =>
  rw [Bool.not_eq_true] at e3
  have HD : Hid (Z = false) := show _ = _ by rw [HZ.out]; simp [e1, e2, e3]
  rw [e3]
  clear HZ
  go_wp2
  go_ret
  exact ⟨ret_bool HD.out.symm, BW.out⟩
 rw [e3]
 have x0 := RX.out.cell 0 _ rfl
 have y0 := RY.out.cell 0 _ rfl
 go_wp2_with fail
 refine (specUnder y n By _ _ HY.out).mono ?_
 rintro e u4 ⟨rfl, hb⟩
 clear x0 y0
 replace RX := hide (RX.out.below hb)
 replace RY := hide (RY.out.below hb)
 replace HX := hide (HX.out.below hb)
 replace HY := hide (HY.out.below hb)
 replace BW := hide (BW.out.trans (hb.mono BW.out.size))
 clear hb
 by_cases e4 : underB y n = true
 case neg =>
  rw [Bool.not_eq_true] at e4
  have HD : Hid (Z = false) := show _ = _ by rw [HZ.out]; simp [e1, e2, e3, e4]
  rw [e4]
  clear HZ
  go_wp2
  go_ret
  exact ⟨ret_bool HD.out.symm, BW.out⟩
 rw [e4]
 have HD : Hid (Z = true) := show _ = _ by rw [HZ.out]; simp [e1, e2, e3, e4]
 clear HZ
 go_wp2
 go_ret
 exact ⟨ret_bool HD.out.symm, BW.out⟩
set_option maxRecDepth 8000 in
set_option maxHeartbeats 8000000 in
theorem l5Ring (op : Int) (x y : List Mono) (Bx By : Nat) (vx vy : Value) (w : World) (hx : PRow w Bx vx x) (hy : PRow w By vy y) :
 Calls Tryz.prog 45 #[.int .i64 op, .agg #[vx], .agg #[vy]] w fun e w' => Two2 w w' e (ringP op x y) (ringB op x y) := by
 obtain ⟨qx, cx, offx, rfl, hx'⟩ := hx
 obtain ⟨qy, cy, offy, rfl, hy'⟩ := hy
 have hx : PRow w Bx (.slice qx x.length cx) x := ⟨qx, cx, offx, rfl, hx'⟩
 have hy : PRow w By (.slice qy y.length cy) y := ⟨qy, cy, offy, rfl, hy'⟩
 clear hx' hy' 
 have T := Three.new w [.slice qx x.length cx] [.slice qy y.length cy] [.slice none 0 0] 35 35 35
 have HX := hide (hx.below T.bw)
 have HY := hide (hy.below T.bw)
 have T3 := hide T
 clear T hx hy
 by_cases o1 : op = 1
 · subst o1
   go_enter Tryz.func45, Tryz.ntmps45
   go_wp2_with fail
   generalize (((w.alloc (.cells #[.slice qx x.length cx] 35)).alloc (.cells #[.slice qy y.length cy] 35)).alloc (.cells #[.slice none 0 0] 35)) = V at T3 HX HY ⊢
   have x0 := T3.out.a.cell 0 _ rfl
   have y0 := T3.out.z.cell 0 _ rfl
   have VL : Hid (w.heap.size + 1 + 1 < V.heap.size) := T3.out.o.lt
   go_wp2_with fail
   refine (specAdd x y Bx By _ _ _ HX.out HY.out).mono ?_
   rintro e u1 ⟨pa, pl, pc, rfl, MW, hb⟩
   clear x0 y0
   replace T3 := hide (T3.out.below hb)
   replace MW := hide MW
   clear hb HX HY
   have o0 := T3.out.o.cell 0 _ rfl
   have s0 := T3.out.o.soft 0
   have TN : Turn (w.heap.size + 1 + 1) u1 (u1.setCell ⟨w.heap.size + 1 + 1, 0, none⟩ (.slice pa pl pc)) := (Turn.refl _ u1).setCell (p := ⟨w.heap.size + 1 + 1, 0, none⟩) rfl _
   have ZF := hide (T3.out.o.set 0 (.slice pa pl pc) (by simp) rfl)
   have TF := hide (two_cast (two_end (v := .slice pa pl pc) VL.out (Nat.le_refl _) MW.out T3.out.bw TN (addB x y)) (show addP x y = ringP 1 x y from rfl) (show addB x y = ringB 1 x y from rfl))
   clear TN T3
   go_wp2
   generalize u1.setCell ⟨w.heap.size + 1 + 1, 0, none⟩ (.slice pa pl pc) = y9 at ZF TF ⊢
   have z9 := ZF.out.cell 0 _ rfl
   exact bodyPost_ret (v := .tuple #[.agg #[.slice pa pl pc], .bool (addB x y)]) (by simp [results, Tryz.results45, go_sem, z9]) rfl TF.out
 by_cases o3 : op = 3
 · subst o3
   go_enter Tryz.func45, Tryz.ntmps45
   go_wp2_with fail
   generalize (((w.alloc (.cells #[.slice qx x.length cx] 35)).alloc (.cells #[.slice qy y.length cy] 35)).alloc (.cells #[.slice none 0 0] 35)) = V at T3 HX HY ⊢
   have x0 := T3.out.a.cell 0 _ rfl
   have y0 := T3.out.z.cell 0 _ rfl
   have VL : Hid (w.heap.size + 1 + 1 < V.heap.size) := T3.out.o.lt
   go_wp2_with fail
   refine (specMul x y Bx By _ _ _ HX.out HY.out).mono ?_
   rintro e u1 ⟨pa, pl, pc, rfl, MW, hb⟩
   clear x0 y0
   replace T3 := hide (T3.out.below hb)
   replace MW := hide MW
   clear hb HX HY
   have o0 := T3.out.o.cell 0 _ rfl
   have s0 := T3.out.o.soft 0
   have TN : Turn (w.heap.size + 1 + 1) u1 (u1.setCell ⟨w.heap.size + 1 + 1, 0, none⟩ (.slice pa pl pc)) := (Turn.refl _ u1).setCell (p := ⟨w.heap.size + 1 + 1, 0, none⟩) rfl _
   have ZF := hide (T3.out.o.set 0 (.slice pa pl pc) (by simp) rfl)
   have TF := hide (two_cast (two_end (v := .slice pa pl pc) VL.out (Nat.le_refl _) MW.out T3.out.bw TN (mulB x y)) (show mulP x y = ringP 3 x y from rfl) (show mulB x y = ringB 3 x y from rfl))
   clear TN T3
   go_wp2
   generalize u1.setCell ⟨w.heap.size + 1 + 1, 0, none⟩ (.slice pa pl pc) = y9 at ZF TF ⊢
   have z9 := ZF.out.cell 0 _ rfl
   exact bodyPost_ret (v := .tuple #[.agg #[.slice pa pl pc], .bool (mulB x y)]) (by simp [results, Tryz.results45, go_sem, z9]) rfl TF.out
 by_cases o2 : op = 2
 · subst o2
   go_enter Tryz.func45, Tryz.ntmps45
   go_wp2_with fail
   generalize (((w.alloc (.cells #[.slice qx x.length cx] 35)).alloc (.cells #[.slice qy y.length cy] 35)).alloc (.cells #[.slice none 0 0] 35)) = V at T3 HX HY ⊢
   have x0 := T3.out.a.cell 0 _ rfl
   have y0 := T3.out.z.cell 0 _ rfl
   have VL : Hid (w.heap.size + 1 + 1 < V.heap.size) := T3.out.o.lt
   clear x0 y0
   go_wp2_with fail
   refine (wpIn_wide (n := 0)).1 ?_
   have bA : Below V.heap.size V V.drew := (Below.refl _ _).drew
   replace T3 := hide (T3.out.below bA)
   replace HX := hide (HX.out.below bA)
   replace HY := hide (HY.out.below bA)
   refine PhaseIn.region (S := fun w' => Rec w.heap.size [.slice qx x.length cx] w' ∧ Rec (w.heap.size + 1) [.slice qy y.length cy] w') 8 (by kernel_rfl) ?_
   replace VL : Hid (w.heap.size + 1 + 1 < V.drew.heap.size) := VL.out
   generalize V.drew = d1 at T3 HX HY VL ⊢
   have hHeld := And.intro T3.out.a T3.out.z
   clear bA
   refine PhaseIn.takeE (i := 0) (v := ?_) [0, 3, 4, 5, 6, 7] 18 rfl (by rfl) (by kernel_rfl) (fun _ _ _ h => h) (Or.inl ⟨by kernel_rfl, ?_⟩) hHeld ?_
   rotate_left
   · intro w' hSw
     (try dsimp only at hSw)
     have z0 := hSw.1.cell 0 _ rfl
     go_simp
     first | done | with_reducible rfl
   try simp only [Act.put, sA, List.set]
   refine PhaseIn.takeE (i := 1) (v := ?_) [1, 2, 3, 4, 5, 6, 7] 19 rfl (by rfl) (by kernel_rfl) (fun _ _ _ h => h) (Or.inl ⟨by kernel_rfl, ?_⟩) hHeld ?_
   rotate_left
   · intro w' hSw
     (try dsimp only at hSw)
     have z0 := hSw.2.cell 0 _ rfl
     go_simp
     first | done | with_reducible rfl
   try simp only [Act.put, sA, List.set]
   refine PhaseIn.one (i := 2) (by kernel_rfl) rfl (by kernel_rfl) (fun K hK => ?_)
   unfold Oper.wpIn
   refine ⟨fun _ _ => trivial, ?_⟩
   go_simp
   refine ⟨rfl, (callsIn_wide.2 (specScale y 65535 By _ _ HY.out)).mono ?_⟩
   rintro e u2 ⟨sa, sl, sc, rfl, MS, hb⟩
   refine hK _ _ (fun _ => And.intro (hHeld.1.below hb) (hHeld.2.below hb)) ?_
   replace hHeld := And.intro (hHeld.1.below hb) (hHeld.2.below hb)
   obtain ⟨BS, RS⟩ := MS.read
   replace RS := hide RS
   have SZ : Hid (d1.heap.size ≤ u2.heap.size) := hb.size
   replace T3 := hide (T3.out.below hb)
   replace HX := hide (HX.out.below hb)
   clear hK K hb MS HY
   try simp only [Act.put, sA, List.set]
   refine PhaseIn.one (i := 3) (by kernel_rfl) rfl (by kernel_rfl) (fun K hK => ?_)
   unfold Oper.wpIn
   refine ⟨fun _ _ => trivial, ?_⟩
   go_simp
   refine ⟨rfl, (callsIn_wide.2 (specAdd x (scaleP y 65535) Bx BS _ _ _ HX.out RS.out)).mono ?_⟩
   rintro e u3 ⟨pa, pl, pc, rfl, MW, hb⟩
   refine hK _ _ (fun _ => And.intro (hHeld.1.below hb) (hHeld.2.below hb)) ?_
   replace hHeld := And.intro (hHeld.1.below hb) (hHeld.2.below hb)
   replace MW := hide MW
   replace T3 := hide (T3.out.below hb)
   clear hK K hb HX RS
   try simp only [Act.put, sA, List.set]
   refine PhaseIn.takeE (i := 4) (v := ?_) [4, 6, 7] 22 rfl (by rfl) (by kernel_rfl) (fun _ _ _ h => h) (Or.inl ⟨by kernel_rfl, ?_⟩) hHeld ?_
   rotate_left
   · intro w' hSw
     (try dsimp only at hSw)
     go_simp
     first | done | with_reducible rfl
   try simp only [Act.put, sA, List.set]
   refine PhaseIn.takeE (i := 5) (v := ?_) [5, 6, 7] 23 rfl (by rfl) (by kernel_rfl) (fun _ _ _ h => h) (Or.inl ⟨by kernel_rfl, ?_⟩) hHeld ?_
   rotate_left
   · intro w' hSw
     (try dsimp only at hSw)
     go_simp
     first | done | with_reducible rfl
   try simp only [Act.put, sA, List.set]
   have o0 := T3.out.o.cell 0 _ rfl
   have s0 := T3.out.o.soft 0
   refine PhaseIn.one (i := 6) (by kernel_rfl) rfl (by kernel_rfl) (fun K hK => ?_)
   unfold Oper.wpIn
   refine ⟨fun _ _ => trivial, ?_⟩
   go_simp
   have TN : Turn (w.heap.size + 1 + 1) u3 (u3.setCell ⟨w.heap.size + 1 + 1, 0, none⟩ (.slice pa pl pc)) := (Turn.refl _ u3).setCell (p := ⟨w.heap.size + 1 + 1, 0, none⟩) rfl _
   have hHeld6 := And.intro (hHeld.1.turn TN (by omega)) (hHeld.2.turn TN (by omega))
   refine hK _ _ (fun _ => hHeld6) ?_
   have ZF := hide (T3.out.o.set 0 (.slice pa pl pc) (by simp) rfl)
   have TF := hide (two_cast (two_end (v := .slice pa pl pc) (by have := VL.out; have := SZ.out; omega) (Nat.le_refl _) MW.out T3.out.bw TN (addB x (scaleP y 65535))) (show addP x (scaleP y 65535) = ringP 2 x y from rfl) (show addB x (scaleP y 65535) = ringB 2 x y from rfl))
   clear hK K TN T3 o0 s0 hHeld MW
   try simp only [Act.put, sA, List.set]
   generalize u3.setCell ⟨w.heap.size + 1 + 1, 0, none⟩ (.slice pa pl pc) = y9 at ZF TF hHeld6 ⊢
   refine PhaseIn.takeE (i := 7) (v := ?_) [7] 7 rfl (by rfl) (by kernel_rfl) (fun _ _ _ h => h) (Or.inl ⟨by kernel_rfl, ?_⟩) hHeld6 ?_
   rotate_left
   · intro w' hSw
     (try dsimp only at hSw)
     go_simp
     first | done | with_reducible rfl
   try simp only [Act.put, sA, List.set]
   refine PhaseIn.done (by kernel_rfl) ?_ _
   have z9 := ZF.out.cell 0 _ rfl
   clear hHeld6
   go_wp2
   exact bodyPost_ret (v := .tuple #[.agg #[.slice pa pl pc], .bool (addB x (scaleP y 65535))]) (by simp [results, Tryz.results45, go_sem, z9]) rfl TF.out
 have f1 : (op == 1) = false := beq_eq_false_iff_ne.2 o1
 have f2 : (op == 2) = false := beq_eq_false_iff_ne.2 o2
 have f3 : (op == 3) = false := beq_eq_false_iff_ne.2 o3
 have HD : Hid ([] = ringP op x y ∧ false = ringB op x y) := show _ ∧ _ by unfold ringP ringB; rw [if_neg o1, if_neg o2, if_neg o3, if_neg o1, if_neg o2, if_neg o3]; exact ⟨rfl, rfl⟩
 clear o1 o2 o3
 have TF := hide (two_cast ⟨⟨none, 0, 0, rfl, WPoly.nil _ _ _⟩, T3.out.bw⟩ HD.out.1 HD.out.2 : Two2 w (((w.alloc (.cells #[.slice qx x.length cx] 35)).alloc (.cells #[.slice qy y.length cy] 35)).alloc (.cells #[.slice none 0 0] 35)) (.returned (.tuple #[.agg #[.slice none 0 0], .bool false])) (ringP op x y) (ringB op x y))
 have z9 := T3.out.o.cell 0 _ rfl
 clear T3
 go_enter Tryz.func45, Tryz.ntmps45
 go_wp2
 exact bodyPost_ret (v := .tuple #[.agg #[.slice none 0 0], .bool false]) (by simp [results, Tryz.results45, go_sem, z9]) rfl TF.out
end Go.Proofs.YtggilenddbobnaaGreat.Tab
