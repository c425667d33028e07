/-
  How two sums stand: the program's orderOfParts, slices.CompareFunc with it, its PolOrder, and the specification's PolOrder.
-/
import Derived.Test.YtckhfpaicnjknaaJoI
namespace Go.Proofs.Ytckhfpaicnjknaa.Pol
open Go.ChangeShapes Go.WideShapes Go.ChangeAt Go.RowKit IntS
def ordPart (x y : Mono) : Int := if ordA x.2 y.2 ≠ 0 then ordA x.2 y.2 else cmpI x.1 y.1
theorem part_atoms {x y : Mono} (h : ordA x.2 y.2 ≠ 0) : ordPart x y = ordA x.2 y.2 := if_pos h
theorem part_coef {x y : Mono} (h : ordA x.2 y.2 = 0) : ordPart x y = cmpI x.1 y.1 := if_neg (fun h2 => h2 h)
theorem ordM_cons (x y : Mono) (xs ys : List Mono) : ordM (x :: xs) (y :: ys) = if ordPart x y ≠ 0 then ordPart x y else ordM xs ys := by
  rw [ordM]
  unfold ordPart cmpI
  by_cases h : ordA x.2 y.2 ≠ 0
  · simp [h]
  · rw [if_neg h, if_neg h]
    by_cases h1 : x.1 < y.1
    · simp [h1]
    · by_cases h2 : y.1 < x.1
      · simp [h1, h2]
      · simp [h1, h2]
theorem ordM_ne {ps rs : List Mono} {k : Nat} {x y : Mono} (hx : ps[k]? = some x) (hy : rs[k]? = some y) (h : ordPart x y ≠ 0) : ordM (ps.drop k) (rs.drop k) = ordPart x y := by
  rw [drop_cons hx, drop_cons hy, ordM_cons, if_pos h]
theorem ordM_eq {ps rs : List Mono} {k : Nat} {x y : Mono} (hx : ps[k]? = some x) (hy : rs[k]? = some y) (h : ordPart x y = 0) : ordM (ps.drop k) (rs.drop k) = ordM (ps.drop (k + 1)) (rs.drop (k + 1)) := by
  rw [drop_cons hx, drop_cons hy, ordM_cons, if_neg (fun h2 => h2 h)]
theorem ordM_end {ps rs : List Mono} {k : Nat} (ha : ps.length ≤ k) (hb : rs.length ≤ k) : ordM (ps.drop k) (rs.drop k) = 0 := by
  rw [List.drop_eq_nil_of_le ha, List.drop_eq_nil_of_le hb]
  rfl
theorem ordP_same {a b : List Mono} (h : a.length = b.length) : ordP a b = ordM a b := by unfold ordP; rw [if_neg (by omega), if_neg (by omega)]
theorem ordP_lt {a b : List Mono} (h : a.length < b.length) : ordP a b = -1 := by unfold ordP; rw [if_pos h]
theorem ordP_gt {a b : List Mono} (h : b.length < a.length) : ordP a b = 1 := by unfold ordP; rw [if_neg (by omega), if_pos h]
set_option maxHeartbeats 4000000 in
theorem orderOfParts (x y : Mono) (B B' : Nat) (v v' : Value) (w : World) (h : Row w B v x.2) (h' : Row w B' v' y.2) :
    Calls Try.prog 55 #[.agg #[.int .i64 x.1, v], .agg #[.int .i64 y.1, v']] w fun e w' => e = .returned (.int .i64 (ordPart x y)) ∧ Below w.heap.size w w' := by
  obtain ⟨c, xs⟩ := x
  obtain ⟨d, ys⟩ := y
  simp only [] at h h' ⊢
  have bV : Below w.heap.size w ((w.alloc (.cells #[.int .i64 c, v] 59)).alloc (.cells #[.int .i64 d, v'] 59)) := ((Below.refl _ _).alloc (Nat.le_refl _) _).alloc (by simp) _
  have H := hide (h.below bV)
  have H' := hide (h'.below bV)
  have BW := hide bV
  obtain ⟨a, cap, off, rfl, _⟩ := h
  obtain ⟨a', cap', off', rfl, _⟩ := h'
  obtain ⟨R, eR⟩ : ∃ R, ordPart (c, xs) (d, ys) = R := ⟨_, rfl⟩
  rw [eR]
  have ER := hide eR
  clear bV eR
  go_enter Try.func55, Try.ntmps55
  go_wp2_with fail
  refine (orderOfAtoms xs ys B B' _ _ _ H.out H'.out).mono ?_
  rintro e u ⟨rfl, rfl⟩
  by_cases e0 : ordA xs ys = 0
  · have HD : Hid (R = cmpI c d) := ER.out.symm.trans (part_coef e0)
    rw [e0]
    clear e0
    go_wp2_with fail
    refine (compare c d _).mono ?_
    rintro e u ⟨rfl, rfl⟩
    rw [← HD.out]
    go_wp2
    go_ret
    exact ⟨rfl, BW.out⟩
  · have HD : Hid (ordA xs ys = R) := (ER.out.symm.trans (part_atoms e0)).symm
    rw [HD.out] at e0 ⊢
    have e1 : (R != 0) = true := by simp [e0]
    clear e0
    go_wp2
    go_ret
    exact ⟨rfl, BW.out⟩
set_option maxRecDepth 4000 in
set_option maxHeartbeats 8000000 in
theorem compareFunc (ps rs : List Mono) (B B' : Nat) (v v' : Value) (w : World) (h : PRow w B v ps) (h' : PRow w B' v' rs) (hl : ps.length = rs.length) :
    Calls Try.prog 54 #[v, v', .func (.func 55) #[] #[]] w fun e w' => e = .returned (.int .i64 (ordM ps rs)) ∧ Below w.heap.size w w' := by
  obtain ⟨a, cap, off, rfl, h2, h3, hz, h4⟩ := h
  obtain ⟨a', cap', off', rfl, h2', h3', hz', h4'⟩ := h'
  unfold maxLen at h3 h3'
  clear hz hz'
  obtain ⟨n, hn⟩ : ∃ n, ps.length = n := ⟨_, rfl⟩
  have hn' : rs.length = n := by omega
  rw [hn] at h2 ⊢
  rw [hn'] at h2' ⊢
  have EN := hide hn
  have EN' := hide hn'
  have H4 := hide h4
  have H4' := hide h4'
  obtain ⟨R, eR⟩ : ∃ R, ordM ps rs = R := ⟨_, rfl⟩
  rw [eR]
  have ER := hide eR
  clear hn hn' h4 h4' hl eR
  go_enter Try.func54, Try.ntmps54
  by_cases h0 : n = 0
  · subst h0
    have HD : Hid (R = 0) := show _ = _ by rw [← ER.out, List.length_eq_zero_iff.1 EN.out, List.length_eq_zero_iff.1 EN'.out]; rfl
    go_wp2
    refine wp_loop_rounds 1 ?_
    rw [rounds_succ]
    go_wp2
    go_ret
    exact ⟨ret_int HD.out.symm, Below.refl _ _⟩
  · obtain ⟨rfl, hc⟩ := H4.out.resolve_left (fun e => h0 (by rw [← EN.out, e]; rfl))
    obtain ⟨rfl, hc'⟩ := H4'.out.resolve_left (fun e => h0 (by rw [← EN'.out, e]; rfl))
    have HC := hide hc
    have HC' := hide hc'
    clear hc hc' H4 H4'
    go_wp2
    go_loopw [13] (fun i wr => ∃ k : Nat, k ≤ n ∧ i = .int .i64 k ∧ Hid (ordM (ps.drop k) (rs.drop k) = R) ∧ Hid (Below w.heap.size w wr)) (fun i _ => n - (intOf i).toNat)
    case atStart => exact ⟨0, by omega, rfl, ER, Below.refl _ _⟩
    case round =>
      obtain ⟨k, hk, rfl, HE, HB⟩ := hrel
      by_cases hlt : k < n
      case neg =>
        have HD : Hid (R = 0) := HE.out.symm.trans (ordM_end (by rw [EN.out]; omega) (by rw [EN'.out]; omega))
        go_wp2
        go_ret
        exact ⟨ret_int HD.out.symm, HB.out⟩
      obtain ⟨x, ex⟩ : ∃ x, ps[k]? = some x := ⟨_, List.getElem?_eq_getElem (by rw [EN.out]; exact hlt)⟩
      obtain ⟨y, ey⟩ : ∃ y, rs[k]? = some y := ⟨_, List.getElem?_eq_getElem (by rw [EN'.out]; exact hlt)⟩
      obtain ⟨c, at_⟩ := x
      obtain ⟨d, bt_⟩ := y
      obtain ⟨g1, s, b, g2, g3⟩ := HC.out k _ ex
      obtain ⟨g1', s', b', g2', g3'⟩ := HC'.out k _ ey
      have cx := cell_below HB.out g1
      have sx := cell_below HB.out g2
      have cy := cell_below HB.out g1'
      have sy := cell_below HB.out g2'
      have RX := hide (g3.below HB.out)
      have RY := hide (g3'.below HB.out)
      have EX := hide ex
      have EY := hide ey
      obtain ⟨qa, ca, _, rfl, _⟩ := g3
      obtain ⟨qb, cb, _, rfl, _⟩ := g3'
      simp only [] at cx sx cy sy RX RY
      have lk : ((k : Nat) : Int) < (n : Nat) := by omega
      have lk2 : ¬ ((n : Nat) : Int) ≤ (k : Nat) := by omega
      have bX : Below wr.heap.size wr ((wr.alloc (.cells #[.int .i64 c, .slice qa at_.length ca] 59)).alloc (.cells #[.int .i64 d, .slice qb bt_.length cb] 59)) := ((Below.refl _ _).alloc (Nat.le_refl _) _).alloc (by simp) _
      replace RX := hide (RX.out.below bX)
      replace RY := hide (RY.out.below bX)
      have HU := hide (HB.out.trans (bX.mono HB.out.size))
      have bX1 := (Below.refl wr.heap.size wr).alloc (Nat.le_refl _) (.cells #[.int .i64 c, .slice qa at_.length ca] 59)
      have cy1 := cell_below bX1 cy
      have sy1 := cell_below bX1 sy
      clear ex ey g1 g2 g1' g2' bX bX1
      go_wp2_with fail
      refine (orderOfParts (c, at_) (d, bt_) b b' _ _ _ RX.out RY.out).mono ?_
      rintro e u ⟨rfl, hb⟩
      replace HU := hide (HU.out.trans (hb.mono HU.out.size))
      clear hb RX RY cx sx cy sy cy1 sy1
      by_cases e0 : ordPart (c, at_) (d, bt_) = 0
      · have HX : Hid (ordM (ps.drop (k + 1)) (rs.drop (k + 1)) = R) := (ordM_eq EX.out EY.out e0).symm.trans HE.out
        rw [e0]
        clear e0
        go_wp2
        exact ⟨⟨k + 1, by omega, by go_num, HX, HU⟩, by simp [intOf]; omega⟩
      · have HD : Hid (ordPart (c, at_) (d, bt_) = R) := (ordM_ne EX.out EY.out e0).symm.trans HE.out
        rw [HD.out] at e0 ⊢
        have e1 : (R != 0) = true := by simp [e0]
        clear e0
        go_wp2
        go_ret
        exact ⟨rfl, HU.out⟩
set_option maxHeartbeats 4000000 in
theorem implOrder (ps rs : List Mono) (B B' : Nat) (v v' : Value) (w : World) (h : PRow w B v ps) (h' : PRow w B' v' rs) :
    Calls Try.prog 25 #[.agg #[v], .agg #[v']] w fun e w' => e = .returned (.int .i64 (ordP ps rs)) ∧ Below w.heap.size w w' := by
  have bV : Below w.heap.size w ((w.alloc (.cells #[v] 25)).alloc (.cells #[v'] 25)) := ((Below.refl _ _).alloc (Nat.le_refl _) _).alloc (by simp) _
  have H := hide (h.below bV)
  have H' := hide (h'.below bV)
  have BW := hide bV
  obtain ⟨a, cap, off, rfl, h2, h3, _⟩ := h
  obtain ⟨a', cap', off', rfl, h2', h3', _⟩ := h'
  unfold maxLen at h3 h3'
  clear bV
  obtain ⟨R, eR⟩ : ∃ R, ordP ps rs = R := ⟨_, rfl⟩
  rw [eR]
  have ER := hide eR
  clear eR
  go_enter Try.func25, Try.ntmps25
  go_wp2_with fail
  refine (compare ps.length rs.length _).mono ?_
  rintro e u ⟨rfl, rfl⟩
  by_cases e1 : ps.length < rs.length
  · have HD : Hid (R = -1) := ER.out.symm.trans (ordP_lt e1)
    rw [cmp_lt (show (ps.length : Int) < rs.length by omega)]
    clear e1
    go_wp2
    go_ret
    exact ⟨ret_int HD.out.symm, BW.out⟩
  · by_cases e2 : rs.length < ps.length
    · have HD : Hid (R = 1) := ER.out.symm.trans (ordP_gt e2)
      rw [cmp_gt (show (rs.length : Int) < ps.length by omega)]
      clear e1 e2
      go_wp2
      go_ret
      exact ⟨ret_int HD.out.symm, BW.out⟩
    · have HL : Hid (ps.length = rs.length) := show _ = _ by omega
      have HD : Hid (R = ordM ps rs) := ER.out.symm.trans (ordP_same HL.out)
      rw [cmp_eq (show (ps.length : Int) = rs.length by omega)]
      clear e1 e2
      go_wp2_with fail
      refine (compareFunc ps rs B B' _ _ _ H.out H'.out HL.out).mono ?_
      rintro e u ⟨rfl, hb⟩
      replace BW := hide (BW.out.trans (hb.mono BW.out.size))
      clear hb
      rw [← HD.out]
      go_wp2
      go_ret
      exact ⟨rfl, BW.out⟩
set_option maxRecDepth 4000 in
set_option maxHeartbeats 8000000 in
theorem specOrder (ps rs : List Mono) (B B' : Nat) (v v' : Value) (w : World) (h : PRow w B v ps) (h' : PRow w B' v' rs) :
    Calls Try.prog 26 #[.agg #[v], .agg #[v']] w fun e w' => e = .returned (.int .i64 (ordP ps rs)) ∧ Below w.heap.size w w' := by
  have bV : Below w.heap.size w ((w.alloc (.cells #[v] 25)).alloc (.cells #[v'] 25)) := ((Below.refl _ _).alloc (Nat.le_refl _) _).alloc (by simp) _
  have Y0 : Hid (((w.alloc (.cells #[v] 25)).alloc (.cells #[v'] 25)).cell? ⟨w.heap.size, 0, none⟩ = some v) := show _ = _ by
    rw [World.cell?_alloc_lt _ _ _ (by simp), World.cell?_alloc_new]; rfl
  have Y1 : Hid (((w.alloc (.cells #[v] 25)).alloc (.cells #[v'] 25)).cell? ⟨w.heap.size + 1, 0, none⟩ = some v') := show _ = _ by
    have := Rec.new (w.alloc (.cells #[v] 25)) [v'] 25
    rw [show (w.alloc (.cells #[v] 25)).heap.size = w.heap.size + 1 by simp] at this
    exact this.cell 0 _ rfl
  have H := hide (h.below bV)
  have H' := hide (h'.below bV)
  have BW := hide bV
  obtain ⟨a, cap, off, rfl, h2, h3, _⟩ := h
  obtain ⟨a', cap', off', rfl, h2', h3', _⟩ := h'
  unfold maxLen at h3 h3'
  clear bV
  obtain ⟨R, eR⟩ : ∃ R, ordP ps rs = R := ⟨_, rfl⟩
  rw [eR]
  have ER := hide eR
  clear eR
  go_enter Try.func26, Try.ntmps26
  by_cases hl : ps.length = rs.length
  case neg =>
    have nn : ((ps.length : Int) != (rs.length : Int)) = true := by simp; omega
    by_cases e1 : ps.length < rs.length
    · have HD : Hid (R = -1) := ER.out.symm.trans (ordP_lt e1)
      have e1' : (ps.length : Int) < rs.length := by omega
      clear e1 hl
      go_wp2
      go_ret
      exact ⟨ret_int HD.out.symm, BW.out⟩
    · have HD : Hid (R = 1) := ER.out.symm.trans (ordP_gt (by omega))
      have e1' : ¬ (ps.length : Int) < rs.length := by omega
      clear e1 hl
      go_wp2
      go_ret
      exact ⟨ret_int HD.out.symm, BW.out⟩
  replace ER : Hid (ordM ps rs = R) := (ordP_same hl).symm.trans ER.out
  obtain ⟨n, hn⟩ : ∃ n, ps.length = n := ⟨_, rfl⟩
  have hn' : rs.length = n := by omega
  rw [hn] at h2 Y0 Y1 BW H H'
  rw [hn'] at h2' Y0 Y1 BW H H'
  rw [hn, hn']
  have EN := hide hn
  have EN' := hide hn'
  have nn : ((n : Int) != (n : Int)) = false := by simp
  clear hn hn' hl
  by_cases h0 : n = 0
  · subst h0
    have HD : Hid (R = 0) := show _ = _ by rw [← ER.out, List.length_eq_zero_iff.1 EN.out, List.length_eq_zero_iff.1 EN'.out]; rfl
    go_wp2
    refine wp_loop_rounds 1 ?_
    rw [rounds_succ]
    go_wp2
    go_ret
    exact ⟨ret_int HD.out.symm, BW.out⟩
  · obtain ⟨_, _, offa, ea, _, _, _, ha4⟩ := H.out
    obtain ⟨rfl, hc⟩ := ha4.resolve_left (fun e => h0 (by rw [← EN.out, e]; rfl))
    simp only [Value.slice.injEq] at ea
    obtain ⟨rfl, -, rfl⟩ := ea
    obtain ⟨_, _, offb, eb, _, _, _, hb4⟩ := H'.out
    obtain ⟨rfl, hc'⟩ := hb4.resolve_left (fun e => h0 (by rw [← EN'.out, e]; rfl))
    simp only [Value.slice.injEq] at eb
    obtain ⟨rfl, -, rfl⟩ := eb
    have HC := hide hc
    have HC' := hide hc'
    clear hc hc' ha4 hb4 H H'
    go_wp2_with fail
    generalize ((w.alloc (.cells #[.slice (some ⟨B, offa, none⟩) n cap] 25)).alloc (.cells #[.slice (some ⟨B', offb, none⟩) n cap'] 25)) = V at Y0 Y1 BW HC HC' ⊢
    have z0 := Y0.out
    have z1 := Y1.out
    go_wp2
    clear z0 z1
    go_loopw [5] (fun i wr => ∃ k : Nat, k ≤ n ∧ i = .int .i64 k ∧ Hid (ordM (ps.drop k) (rs.drop k) = R) ∧ Hid (Below V.heap.size V wr)) (fun i _ => n - (intOf i).toNat)
    case atStart => exact ⟨0, by omega, rfl, ER, Below.refl _ _⟩
    case round =>
      obtain ⟨k, hk, rfl, HE, HB⟩ := hrel
      have z0 := cell_below HB.out Y0.out
      have z1 := cell_below HB.out Y1.out
      by_cases hlt : k < n
      case neg =>
        have HD : Hid (R = 0) := HE.out.symm.trans (ordM_end (by rw [EN.out]; omega) (by rw [EN'.out]; omega))
        go_wp2
        go_ret
        exact ⟨ret_int HD.out.symm, BW.out.trans (HB.out.mono BW.out.size)⟩
      obtain ⟨x, ex⟩ : ∃ x, ps[k]? = some x := ⟨_, List.getElem?_eq_getElem (by rw [EN.out]; exact hlt)⟩
      obtain ⟨y, ey⟩ : ∃ y, rs[k]? = some y := ⟨_, List.getElem?_eq_getElem (by rw [EN'.out]; exact hlt)⟩
      obtain ⟨c, at_⟩ := x
      obtain ⟨d, bt_⟩ := y
      obtain ⟨g1, s, b, g2, g3⟩ := HC.out k _ ex
      obtain ⟨g1', s', b', g2', g3'⟩ := HC'.out k _ ey
      have DR : Below wr.heap.size wr wr.drew := (Below.refl _ _).drew
      have HB1 := hide (HB.out.trans (DR.mono HB.out.size))
      have cx := cell_below HB.out g1
      have sx := cell_below HB.out g2
      have cy := cell_below HB.out g1'
      have sy := cell_below HB.out g2'
      have RX := hide (g3.below HB1.out)
      have RY := hide (g3'.below HB1.out)
      have EX := hide ex
      have EY := hide ey
      obtain ⟨qa, ca, _, rfl, _⟩ := g3
      obtain ⟨qb, cb, _, rfl, _⟩ := g3'
      simp only [] at cx sx cy sy RX RY
      have lk : ((k : Nat) : Int) < (n : Nat) := by omega
      clear ex ey g1 g2 g1' g2' DR
      go_wp2_with fail
      refine region_tail 12 (by kernel_rfl) (by kernel_rfl) ?_
      simp only [List.take_succ_cons, List.take_zero, List.drop_succ_cons, List.drop_zero]
      repeat still_step
      refine wpStill_nil ?_
      go_wp2_with fail
      refine (l4Order at_ bt_ b b' _ _ _ RX.out RY.out).mono ?_
      rintro e u ⟨rfl, hb⟩
      have p0 := cell_below hb (cell_drew z0)
      have p1 := cell_below hb (cell_drew z1)
      have px := cell_below hb (cell_drew cx)
      have py := cell_below hb (cell_drew cy)
      have HU := hide (HB1.out.trans (hb.mono HB1.out.size))
      clear hb RX RY cx sx cy sy z0 z1 HB HB1
      by_cases e0 : ordA at_ bt_ = 0
      case neg =>
        have HD : Hid (ordA at_ bt_ = R) := (part_atoms (x := (c, at_)) (y := (d, bt_)) e0).symm.trans ((ordM_ne EX.out EY.out (by rw [part_atoms (x := (c, at_)) (y := (d, bt_)) e0]; exact e0)).symm.trans HE.out)
        rw [HD.out] at e0 ⊢
        have e1 : (R != 0) = true := by simp [e0]
        clear e0
        go_wp2
        go_ret
        exact ⟨rfl, BW.out.trans (HU.out.mono BW.out.size)⟩
      have HP := hide (part_coef (x := (c, at_)) (y := (d, bt_)) e0)
      rw [e0]
      clear e0
      have HU1 : Hid (Below V.heap.size V u.drew) := HU.out.drew
      by_cases e1 : c = d
      · have HX : Hid (ordM (ps.drop (k + 1)) (rs.drop (k + 1)) = R) := (ordM_eq EX.out EY.out (by rw [HP.out]; exact cmp_eq e1)).symm.trans HE.out
        subst e1
        have cc : (c != c) = false := by simp
        go_wp2_with fail
        refine region_tail 12 (by kernel_rfl) (by kernel_rfl) ?_
        simp only [List.take_succ_cons, List.take_zero, List.drop_succ_cons, List.drop_zero]
        repeat still_step
        refine wpStill_nil ?_
        go_wp2
        exact ⟨⟨k + 1, by omega, by go_num, HX, HU1⟩, by simp [intOf]; omega⟩
      have cc : (c != d) = true := by simpa using e1
      have HU2 : Hid (Below V.heap.size V u.drew.drew) := HU.out.drew.drew
      have r0 : u.drew.cell? ⟨w.heap.size, 0, none⟩ = some (.slice (some ⟨B, offa, none⟩) n cap) := p0
      have r1 : u.drew.cell? ⟨w.heap.size + 1, 0, none⟩ = some (.slice (some ⟨B', offb, none⟩) n cap') := p1
      have rx : u.drew.cell? ⟨B, offa + k * 2, none⟩ = some (.int .i64 c) := px
      have ry : u.drew.cell? ⟨B', offb + k * 2, none⟩ = some (.int .i64 d) := py
      go_wp2_with fail
      refine region_tail 12 (by kernel_rfl) (by kernel_rfl) ?_
      simp only [List.take_succ_cons, List.take_zero, List.drop_succ_cons, List.drop_zero]
      repeat still_step
      refine wpStill_nil ?_
      go_wp2_with fail
      clear p0 p1 px py
      generalize u.drew = ud at r0 r1 rx ry HU1 HU2 ⊢
      by_cases e2 : c < d
      · have HD : Hid (R = -1) := HE.out.symm.trans ((ordM_ne EX.out EY.out (by rw [HP.out, cmp_lt e2]; decide)).trans (HP.out.trans (cmp_lt e2)))
        refine region_tail 12 (by kernel_rfl) (by kernel_rfl) ?_
        simp only [List.take_succ_cons, List.take_zero, List.drop_succ_cons, List.drop_zero]
        repeat still_step
        refine wpStill_nil ?_
        go_wp2
        go_ret
        exact ⟨ret_int HD.out.symm, BW.out.trans (HU2.out.mono BW.out.size)⟩
      · have HD : Hid (R = 1) := HE.out.symm.trans ((ordM_ne EX.out EY.out (by rw [HP.out, cmp_gt (show d < c by omega)]; decide)).trans (HP.out.trans (cmp_gt (show d < c by omega))))
        refine region_tail 12 (by kernel_rfl) (by kernel_rfl) ?_
        simp only [List.take_succ_cons, List.take_zero, List.drop_succ_cons, List.drop_zero]
        repeat still_step
        refine wpStill_nil ?_
        go_wp2
        go_ret
        exact ⟨ret_int HD.out.symm, BW.out.trans (HU2.out.mono BW.out.size)⟩
end Go.Proofs.Ytckhfpaicnjknaa.Pol
