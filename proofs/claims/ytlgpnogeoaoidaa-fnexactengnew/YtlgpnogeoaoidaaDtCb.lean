/-
  The laws' own functions over lists of things that are kept.
-/
import Derived.Test.YtlgpnogeoaoidaaDtCa
namespace Go.Proofs.Ytlgpnogeoaoidaa.Dt
set_option linter.unusedVariables false
set_option linter.unusedSimpArgs false
open Go.ChangeShapes Go.WideShapes Go.ChangeAt Go.RowKit IntS Pol Flat Irk
open Ir (Opn Bk bv ORow WORow RBk WBk OpAt SoftAt)
theorem cacK_len (k : Int) (xs : List (List Int × Int × Int × List Opn × Int × Int × Int × Int)) : (cacK.mr k xs).length = xs.length := markL_len xs k
theorem makeCacEntryS (n : Nat) (hn : n ≤ 1048576) (w : World) : (Instr.makeSlice 27 (.int .i64 (n : Int)) (.int .i64 (n : Int))).run Try.prog w = .ok (.slice (some ⟨w.heap.size, 0, none⟩) n n) (w.alloc (.cells (madeCells #[.slice none 0 0, .int .i64 0, .int .i64 0, .slice none 0 0, .int .i64 0, .int .i64 0, .int .i64 0, .int .i64 0] (n * 8)) 64)) := by
  have hinfo : (Try.prog.info? 64).map (fun i => (i.zero, i.size, i.bytes)) = some (some (.agg #[.slice none 0 0, .int .i64 0, .int .i64 0, .slice none 0 0, .int .i64 0, .int .i64 0, .int .i64 0, .int .i64 0]), 8, 96) := by kernel_rfl
  obtain ⟨i, hi, hzz⟩ := Option.map_eq_some_iff.1 hinfo
  simp only [Prod.mk.injEq] at hzz
  obtain ⟨hz, hs, hb⟩ := hzz
  have hr := run_make (P := Try.prog) w 27 64 i _ Try.underlying27 hi hz .i64 .i64 n n (by omega) (Int.le_refl _) (by rw [hb]; omega) (by omega)
  simp only [Int.toNat_natCast, hs] at hr
  exact hr
set_option maxRecDepth 8000 in
set_option maxHeartbeats 4000000 in
theorem eqCacEntryS (xs : List (List Int × Int × Int × List Opn × Int × Int × Int × Int)) (v v' : Value) (w : World) (h : cacK.rd w v xs) (h' : cacK.rd w v' xs) :
    Calls Try.prog 25 #[v, v'] w fun e w' => e = .returned (.bool true) ∧ Below w.heap.size w w' := by
  obtain ⟨a, cap, B, off, rfl, h2, h3, hz, h4⟩ := h
  obtain ⟨a', cap', B', off', rfl, h2', h3', hz', h4'⟩ := h'
  unfold maxLen at h3 h3'
  clear hz hz'
  obtain ⟨n, en⟩ : ∃ n, xs.length = n := ⟨_, rfl⟩
  have EN := hide en
  rw [en] at h2 h2' ⊢
  have H4 := hide h4
  have H4' := hide h4'
  have nn : ((n : Int) != (n : Int)) = false := by simp
  clear en h4 h4'
  go_enter Try.func25, Try.ntmps25
  by_cases n0 : n = 0
  · subst n0
    go_wp2
    refine wp_loop_rounds 1 ?_
    rw [rounds_succ]
    go_wp2
    go_ret
    exact ⟨rfl, Below.refl _ _⟩
  · obtain ⟨rfl, hc⟩ := H4.out.resolve_left (fun e => n0 (by rw [← EN.out, e]; rfl))
    obtain ⟨rfl, hc'⟩ := H4'.out.resolve_left (fun e => n0 (by rw [← EN.out, e]; rfl))
    have HC := hide hc
    have HC' := hide hc'
    clear hc hc' H4 H4'
    go_wp2
    go_loopw [5] (fun i wr => ∃ k : Nat, k ≤ n ∧ i = .int .i64 k ∧ Hid (Below w.heap.size w wr)) (fun i _ => n - (intOf i).toNat)
    case atStart => exact ⟨0, by omega, rfl, Below.refl _ _⟩
    case round =>
      obtain ⟨k, hk, rfl, HB⟩ := hrel
      by_cases hlt : k < n
      · obtain ⟨x, et⟩ : ∃ x, xs[k]? = some x := ⟨_, List.getElem?_eq_getElem (by rw [EN.out]; exact hlt)⟩
        obtain ⟨cs, cc, hx⟩ := HC.out k x et
        obtain ⟨cs', cc', hx'⟩ := HC'.out k x et
        have HB2 : Hid (Below w.heap.size w wr.drew) := HB.out.drew
        replace cc := cc.below HB2.out
        replace cc' := cc'.below HB2.out
        replace hx := cacR.rb hx HB2.out
        replace hx' := cacR.rb hx' HB2.out
        obtain ⟨x0, a1, a2, x3, a4, a5, a6, a7⟩ := x
        have HX := hide hx
        have HX' := hide hx'
        obtain ⟨q0, c0, q3, c3, rfl, _, _⟩ := cacR_rd hx
        obtain ⟨p0, d0, p3, d3, rfl, _, _⟩ := cacR_rd hx'
        have z0 : wr.drew.cell? ⟨B, off + k * 8, none⟩ = some (.slice q0 x0.length c0) := cc 0 _ rfl
        have z1 : wr.drew.cell? ⟨B, off + k * 8 + 1, none⟩ = some (.int .i64 a1) := cc 1 _ rfl
        have z2 : wr.drew.cell? ⟨B, off + k * 8 + 2, none⟩ = some (.int .i64 a2) := cc 2 _ rfl
        have z3 : wr.drew.cell? ⟨B, off + k * 8 + 3, none⟩ = some (.slice q3 x3.length c3) := cc 3 _ rfl
        have z4 : wr.drew.cell? ⟨B, off + k * 8 + 4, none⟩ = some (.int .i64 a4) := cc 4 _ rfl
        have z5 : wr.drew.cell? ⟨B, off + k * 8 + 5, none⟩ = some (.int .i64 a5) := cc 5 _ rfl
        have z6 : wr.drew.cell? ⟨B, off + k * 8 + 6, none⟩ = some (.int .i64 a6) := cc 6 _ rfl
        have z7 : wr.drew.cell? ⟨B, off + k * 8 + 7, none⟩ = some (.int .i64 a7) := cc 7 _ rfl
        have y0 : wr.drew.cell? ⟨B', off' + k * 8, none⟩ = some (.slice p0 x0.length d0) := cc' 0 _ rfl
        have y1 : wr.drew.cell? ⟨B', off' + k * 8 + 1, none⟩ = some (.int .i64 a1) := cc' 1 _ rfl
        have y2 : wr.drew.cell? ⟨B', off' + k * 8 + 2, none⟩ = some (.int .i64 a2) := cc' 2 _ rfl
        have y3 : wr.drew.cell? ⟨B', off' + k * 8 + 3, none⟩ = some (.slice p3 x3.length d3) := cc' 3 _ rfl
        have y4 : wr.drew.cell? ⟨B', off' + k * 8 + 4, none⟩ = some (.int .i64 a4) := cc' 4 _ rfl
        have y5 : wr.drew.cell? ⟨B', off' + k * 8 + 5, none⟩ = some (.int .i64 a5) := cc' 5 _ rfl
        have y6 : wr.drew.cell? ⟨B', off' + k * 8 + 6, none⟩ = some (.int .i64 a6) := cc' 6 _ rfl
        have y7 : wr.drew.cell? ⟨B', off' + k * 8 + 7, none⟩ = some (.int .i64 a7) := cc' 7 _ rfl
        have lk : ((k : Nat) : Int) < (n : Nat) := by omega
        clear et hx hx' cc cc'
        go_wp2_with fail
        refine region_tail 8 (by kernel_rfl) (by kernel_rfl) ?_
        simp only [List.take_succ_cons, List.take_zero, List.drop_succ_cons, List.drop_zero]
        repeat still_step
        refine wpStill_nil ?_
        go_wp2_with fail
        refine (eqCacEntry x0 a1 a2 x3 a4 a5 a6 a7 _ _ _ HX.out HX'.out).mono ?_
        rintro e u ⟨rfl, hb⟩
        have HB3 := hide (HB2.out.trans (hb.mono HB2.out.size))
        clear hb
        go_wp2
        exact ⟨⟨k + 1, by omega, by go_num, HB3⟩, by simp [intOf]; omega⟩
      · go_wp2
        go_ret
        exact ⟨rfl, HB.out⟩
theorem cacR_nx {x0 : List Int} {a1 : Int} {a2 : Int} {x3 : List Opn} {a4 : Int} {a5 : Int} {a6 : Int} {a7 : Int} : cacR.nx (x0, a1, a2, x3, a4, a5, a6, a7) = intsK.nx x0 + (1 + (1 + (opsK.nx x3 + (1 + (1 + (1 + (1))))))) := rfl
theorem cacR_mr {x0 : List Int} {a1 : Int} {a2 : Int} {x3 : List Opn} {a4 : Int} {a5 : Int} {a6 : Int} {a7 : Int} (k : Int) : cacR.mr k (x0, a1, a2, x3, a4, a5, a6, a7) = (intsK.mr (k) x0, k + (intsK.nx x0 : Nat), k + (intsK.nx x0 : Nat) + 1, opsK.mr (k + (intsK.nx x0 : Nat) + 1 + 1) x3, k + (intsK.nx x0 : Nat) + 1 + 1 + (opsK.nx x3 : Nat), k + (intsK.nx x0 : Nat) + 1 + 1 + (opsK.nx x3 : Nat) + 1, k + (intsK.nx x0 : Nat) + 1 + 1 + (opsK.nx x3 : Nat) + 1 + 1, k + (intsK.nx x0 : Nat) + 1 + 1 + (opsK.nx x3 : Nat) + 1 + 1 + 1) := rfl
set_option maxRecDepth 8000 in
set_option maxHeartbeats 8000000 in
theorem markCacEntryS (xs : List (List Int × Int × Int × List Opn × Int × Int × Int × Int)) (k : Int) (A : Nat → Prop) (v : Value) (w : World) (h : cacK.ow w A v xs) (k0 : 0 ≤ k) (k1 : k + (cacK.nx xs : Nat) ≤ 1000000000) :
    Calls Try.prog 29 #[v, .int .i64 k] w fun e w' => e = .returned (.int .i64 (k + (cacK.nx xs : Nat))) ∧ cacK.ow w' A v (cacK.mr k xs) ∧ Keep A w w' := by
  obtain ⟨a, G, off, cap, E, rfl, h⟩ := h
  have h2 := h.le
  have h3 := h.mx
  unfold maxLen at h3
  obtain ⟨n, en⟩ : ∃ n, xs.length = n := ⟨_, rfl⟩
  have EN := hide en
  replace k1 : k + (sum cacR.nx xs : Nat) ≤ 1000000000 := k1
  have HS := hide k1
  have HW := hide h
  rw [en] at h2 ⊢
  have ML : Hid ((markL cacR k xs).length = n) := show _ = _ by rw [markL_len, en]
  have MW : Hid (mixL cacR k xs n = markL cacR k xs) := show _ = _ by rw [← en]; exact mixL_whole xs k
  have GO : Hid (∀ V, LW cacR V A a G off cap E (mixL cacR k xs n) → cacK.ow V A (.slice a n cap) (cacK.mr k xs)) := fun V hV => ⟨a, G, off, cap, E, (by show _ = Value.slice a (markL cacR k xs).length cap; rw [ML.out]), by show LW cacR V A a G off cap E (markL cacR k xs); rw [← MW.out]; exact hV⟩
  have KX : Hid (cacK.nx xs = sum cacR.nx xs) := show _ = _ from rfl
  rw [KX.out]
  obtain ⟨KE, eKE⟩ : ∃ KE, k + (sum cacR.nx xs : Nat) = KE := ⟨_, rfl⟩
  rw [eKE]
  have EKE := hide eKE
  obtain ⟨OUT, eO⟩ : ∃ O, cacK.mr k xs = O := ⟨_, rfl⟩
  rw [eO] at GO ⊢
  clear en h eKE eO k1
  go_enter Try.func29, Try.ntmps29
  by_cases n0 : n = 0
  · subst n0
    have FF : Hid (cacK.ow w A (.slice a 0 cap) OUT) := GO.out w (by rw [mixL_zero]; exact HW.out)
    have OZ : Hid (k = KE) := show _ = _ by rw [← EKE.out, show xs = [] from List.length_eq_zero_iff.1 EN.out]; simp [sum]
    clear GO
    go_wp2
    refine wp_loop_rounds 1 ?_
    rw [rounds_succ]
    go_wp2
    go_ret
    exact ⟨ret_int OZ.out, FF.out, Keep.refl _ _⟩
  · have hG := HW.out.at_.resolve_left (fun e => n0 (by rw [← EN.out, e]; rfl))
    obtain ⟨rfl, hG2⟩ := hG
    have GG := hide hG2
    clear hG2
    go_wp2
    go_loopw [1, 5] (fun q i wr => ∃ (j : Nat) (kk : Int), j ≤ n ∧ i = .int .i64 j ∧ q = .int .i64 kk ∧ Hid (kk = k + (sum cacR.nx (xs.take j) : Nat)) ∧ 0 ≤ kk ∧ kk ≤ 1000000000 ∧ Hid (LW cacR wr A (some ⟨G, off, none⟩) G off cap E (mixL cacR k xs j)) ∧ Hid (Keep A w wr)) (fun _ i _ => n - (intOf i).toNat)
    case atStart => exact ⟨0, k, by omega, rfl, rfl, by show _ = _; simp [sum], k0, by have := HS.out; omega, by show LW _ _ _ _ _ _ _ _ _; rw [mixL_zero]; exact HW.out, Keep.refl _ _⟩
    case round =>
      obtain ⟨j, kk, hj, rfl, rfl, HK, kk0, kk1, HP, HB⟩ := hrel
      by_cases hlt : j < n
      case neg =>
        obtain rfl : j = n := by omega
        have HD : Hid (kk = KE) := show _ = _ by rw [← EKE.out, HK.out, List.take_of_length_le (by rw [EN.out]; omega)]
        have FF := hide (GO.out wr HP.out)
        clear GO
        go_wp2
        go_ret
        exact ⟨ret_int HD.out, FF.out, HB.out⟩
      obtain ⟨x, et⟩ : ∃ x, xs[j]? = some x := ⟨_, List.getElem?_eq_getElem (by rw [EN.out]; exact hlt)⟩
      have em := (mixL_at (R := cacR) (k := k) (n := j) et).trans (by rw [if_neg (Nat.lt_irrefl _)])
      obtain ⟨cs, cc, cf, cx, cA, cG⟩ := HP.out.cells j x em
      have sz := sum_one (f := cacR.nx) et
      have ON := hide (sum_take (f := cacR.nx) et)
      have MX := hide (mixL_next (R := cacR) (k := k) et)
      have EM := hide em
      have KL : Hid (kk + (cacR.nx x : Nat) ≤ 1000000000) := show _ ≤ _ by have := HS.out; have := HK.out; omega
      obtain ⟨x0, a1, a2, x3, a4, a5, a6, a7⟩ := x
      rw [cacR_nx] at ON KL
      rw [cacR_mr] at MX
      obtain ⟨q0, c0, q3, c3, A0, A3, rfl, k0, k3, s0, s3, d0_3⟩ := cacR_own cx
      have lw : G < wr.heap.size := Nat.lt_of_lt_of_le GG.out.2 HB.out.size
      have lj : ((j : Nat) : Int) < (n : Nat) := by omega
      have RA : Hid (RowAt wr wr G (off + j * 8) 8 [.slice q0 x0.length c0, .int .i64 a1, .int .i64 a2, .slice q3 x3.length c3, .int .i64 a4, .int .i64 a5, .int .i64 a6, .int .i64 a7]) := ⟨lw, cc, rfl, fun _ _ => rfl, fun _ => rfl⟩
      have f1 : wr.frozen? ⟨G, off + j * 8 + 1, none⟩ = false := cf 1 (by show 1 < 8; omega) (by exact ⟨by decide, Or.inl rfl⟩)
      have f2 : wr.frozen? ⟨G, off + j * 8 + 2, none⟩ = false := cf 2 (by show 2 < 8; omega) (by exact ⟨by decide, Or.inr (Or.inl rfl)⟩)
      have f4 : wr.frozen? ⟨G, off + j * 8 + 4, none⟩ = false := cf 4 (by show 4 < 8; omega) (by exact ⟨by decide, Or.inr (Or.inr (⟨by decide, Or.inl rfl⟩))⟩)
      have f5 : wr.frozen? ⟨G, off + j * 8 + 5, none⟩ = false := cf 5 (by show 5 < 8; omega) (by exact ⟨by decide, Or.inr (Or.inr (⟨by decide, Or.inr (Or.inl rfl)⟩))⟩)
      have f6 : wr.frozen? ⟨G, off + j * 8 + 6, none⟩ = false := cf 6 (by show 6 < 8; omega) (by exact ⟨by decide, Or.inr (Or.inr (⟨by decide, Or.inr (Or.inr (Or.inl rfl))⟩))⟩)
      have f7 : wr.frozen? ⟨G, off + j * 8 + 7, none⟩ = false := cf 7 (by show 7 < 8; omega) (by exact ⟨by decide, Or.inr (Or.inr (⟨by decide, Or.inr (Or.inr (Or.inr (trivial)))⟩))⟩)
      have NG : Hid (¬ A0 G ∧ ¬ A3 G ∧ True) := ⟨(fun q => cG (s0 _ q)), (fun q => cG (s3 _ q)), trivial⟩
      have KW : Hid (Keep (fun b => b = G ∨ E j b) wr wr) := Keep.refl _ _
      have H0 := hide k0
      have H3 := hide k3
      have CA := hide cA
      clear et em sz cc cf cx cA cG k0 k3
      have z0 : wr.cell? ⟨G, off + j * 8, none⟩ = _ := RA.out.at_ 0 _ rfl
      go_wp2_with fail
      obtain ⟨k0_, ek0⟩ : ∃ z, kk = z := ⟨_, rfl⟩
      rw [ek0]
      have EK0 : Hid (k0_ = kk) := ek0.symm
      have kb0 : 0 ≤ k0_ ∧ k0_ + (intsK.nx x0 : Nat) ≤ 1000000000 := by have := KL.out; omega
      clear ek0
      refine (Dt.markIntS x0 k0_ A0 _ _ H0.out kb0.1 kb0.2).mono ?_
      rintro e u0 ⟨rfl, O0, hk⟩
      have W0 := hide O0
      replace RA := hide (RA.out.keep hk NG.out.1)
      replace KW := hide (KW.out.trans (hk.mono (fun b _ q => Or.inr (s0 b q))))
      replace H3 := hide (opsK.ok H3.out hk (fun b q r => d0_3 b r q))
      clear O0 hk H0 z0
      obtain ⟨r0_, er0⟩ : ∃ z, k0_ + (intsK.nx x0 : Nat) = z := ⟨_, rfl⟩
      rw [er0]
      have ER0 : Hid (r0_ = k0_ + (intsK.nx x0 : Nat)) := er0.symm
      have rb0 : 0 ≤ r0_ ∧ r0_ ≤ 1000000000 := by omega
      clear er0
      have w1_ : u0.cell? ⟨G, off + j * 8 + 1, none⟩ = _ := RA.out.at_ 1 _ rfl
      have v1_ : u0.frozen? ⟨G, off + j * 8 + 1, none⟩ = false := (RA.out.fr _).trans f1
      have w2_ : u0.cell? ⟨G, off + j * 8 + 2, none⟩ = _ := RA.out.at_ 2 _ rfl
      have v2_ : u0.frozen? ⟨G, off + j * 8 + 2, none⟩ = false := (RA.out.fr _).trans f2
      have TB := (((Turn.refl G u0).setCell (p := ⟨G, off + j * 8 + 1, none⟩) rfl (.int .i64 r0_)).setCell (p := ⟨G, off + j * 8 + 2, none⟩) rfl (.int .i64 (r0_ + 1)))
      have RA2 := hide ((RA.out.set (f := 1) (q := off + j * 8 + 1) (by omega) (.int .i64 r0_) rfl (show _ = ([.slice q0 x0.length c0, .int .i64 r0_, .int .i64 a2, .slice q3 x3.length c3, .int .i64 a4, .int .i64 a5, .int .i64 a6, .int .i64 a7] : List Value) from rfl)).set (f := 2) (q := off + j * 8 + 2) (by omega) (.int .i64 (r0_ + 1)) rfl (show _ = ([.slice q0 x0.length c0, .int .i64 r0_, .int .i64 (r0_ + 1), .slice q3 x3.length c3, .int .i64 a4, .int .i64 a5, .int .i64 a6, .int .i64 a7] : List Value) from rfl))
      have KW2 := hide (KW.out.trans ((Keep.of_turn TB).mono (fun b _ q => Or.inl q)))
      have H32 := hide (opsK.ot H3.out TB NG.out.2.1)
      have W02 := hide (intsK.ot W0.out TB NG.out.1)
      have gl_ : G < u0.heap.size := RA.out.lt
      clear TB RA KW H3 W0
      have z3 : ((u0.setCell ⟨G, off + j * 8 + 1, none⟩ (.int .i64 r0_)).setCell ⟨G, off + j * 8 + 2, none⟩ (.int .i64 (r0_ + 1))).cell? ⟨G, off + j * 8 + 3, none⟩ = _ := RA2.out.at_ 3 _ rfl
      go_wp2_with fail
      generalize (u0.setCell ⟨G, off + j * 8 + 1, none⟩ (.int .i64 r0_)).setCell ⟨G, off + j * 8 + 2, none⟩ (.int .i64 (r0_ + 1)) = U3 at RA2 KW2 H32 W02 z3 ⊢
      have RA := RA2
      have KW := KW2
      have H3 := H32
      have W0 := W02
      clear RA2 KW2 H32 W02 w1_ v1_ w2_ v2_
      obtain ⟨k3_, ek3⟩ : ∃ z, (r0_ + 1) + 1 = z := ⟨_, rfl⟩
      rw [ek3]
      have EK3 : Hid (k3_ = (r0_ + 1) + 1) := ek3.symm
      have kb3 : 0 ≤ k3_ ∧ k3_ + (opsK.nx x3 : Nat) ≤ 1000000000 := by have := KL.out; have := EK0.out; have := ER0.out; omega
      clear ek3
      refine (markOpsK x3 k3_ A3 _ _ H3.out kb3.1 kb3.2).mono ?_
      rintro e u3 ⟨rfl, O3, hk⟩
      have W3 := hide O3
      replace RA := hide (RA.out.keep hk NG.out.2.1)
      replace KW := hide (KW.out.trans (hk.mono (fun b _ q => Or.inr (s3 b q))))
      replace W0 := hide (intsK.ok W0.out hk (fun b q r => d0_3 b q r))
      clear O3 hk H3 z3
      obtain ⟨r3_, er3⟩ : ∃ z, k3_ + (opsK.nx x3 : Nat) = z := ⟨_, rfl⟩
      rw [er3]
      have ER3 : Hid (r3_ = k3_ + (opsK.nx x3 : Nat)) := er3.symm
      have rb3 : 0 ≤ r3_ ∧ r3_ ≤ 1000000000 := by omega
      clear er3
      have w4_ : u3.cell? ⟨G, off + j * 8 + 4, none⟩ = _ := RA.out.at_ 4 _ rfl
      have v4_ : u3.frozen? ⟨G, off + j * 8 + 4, none⟩ = false := (RA.out.fr _).trans f4
      have w5_ : u3.cell? ⟨G, off + j * 8 + 5, none⟩ = _ := RA.out.at_ 5 _ rfl
      have v5_ : u3.frozen? ⟨G, off + j * 8 + 5, none⟩ = false := (RA.out.fr _).trans f5
      have w6_ : u3.cell? ⟨G, off + j * 8 + 6, none⟩ = _ := RA.out.at_ 6 _ rfl
      have v6_ : u3.frozen? ⟨G, off + j * 8 + 6, none⟩ = false := (RA.out.fr _).trans f6
      have w7_ : u3.cell? ⟨G, off + j * 8 + 7, none⟩ = _ := RA.out.at_ 7 _ rfl
      have v7_ : u3.frozen? ⟨G, off + j * 8 + 7, none⟩ = false := (RA.out.fr _).trans f7
      have TB := (((((Turn.refl G u3).setCell (p := ⟨G, off + j * 8 + 4, none⟩) rfl (.int .i64 r3_)).setCell (p := ⟨G, off + j * 8 + 5, none⟩) rfl (.int .i64 (r3_ + 1))).setCell (p := ⟨G, off + j * 8 + 6, none⟩) rfl (.int .i64 ((r3_ + 1) + 1))).setCell (p := ⟨G, off + j * 8 + 7, none⟩) rfl (.int .i64 (((r3_ + 1) + 1) + 1)))
      have RA2 := hide ((((RA.out.set (f := 4) (q := off + j * 8 + 4) (by omega) (.int .i64 r3_) rfl (show _ = ([.slice q0 x0.length c0, .int .i64 r0_, .int .i64 (r0_ + 1), .slice q3 x3.length c3, .int .i64 r3_, .int .i64 a5, .int .i64 a6, .int .i64 a7] : List Value) from rfl)).set (f := 5) (q := off + j * 8 + 5) (by omega) (.int .i64 (r3_ + 1)) rfl (show _ = ([.slice q0 x0.length c0, .int .i64 r0_, .int .i64 (r0_ + 1), .slice q3 x3.length c3, .int .i64 r3_, .int .i64 (r3_ + 1), .int .i64 a6, .int .i64 a7] : List Value) from rfl)).set (f := 6) (q := off + j * 8 + 6) (by omega) (.int .i64 ((r3_ + 1) + 1)) rfl (show _ = ([.slice q0 x0.length c0, .int .i64 r0_, .int .i64 (r0_ + 1), .slice q3 x3.length c3, .int .i64 r3_, .int .i64 (r3_ + 1), .int .i64 ((r3_ + 1) + 1), .int .i64 a7] : List Value) from rfl)).set (f := 7) (q := off + j * 8 + 7) (by omega) (.int .i64 (((r3_ + 1) + 1) + 1)) rfl (show _ = ([.slice q0 x0.length c0, .int .i64 r0_, .int .i64 (r0_ + 1), .slice q3 x3.length c3, .int .i64 r3_, .int .i64 (r3_ + 1), .int .i64 ((r3_ + 1) + 1), .int .i64 (((r3_ + 1) + 1) + 1)] : List Value) from rfl))
      have KW2 := hide (KW.out.trans ((Keep.of_turn TB).mono (fun b _ q => Or.inl q)))
      have W02 := hide (intsK.ot W0.out TB NG.out.1)
      have W32 := hide (opsK.ot W3.out TB NG.out.2.1)
      have gl_ : G < u3.heap.size := RA.out.lt
      clear TB RA KW  W0 W3
      have NW := LW.mark HP.out EM.out KW2.out (show CellsAt _ G (off + j * 8) _ from RA2.out.at_) (show ∀ o, (o < off + j * 8 ∨ off + j * 8 + 8 ≤ o) → _ from RA2.out.far) RA2.out.fr (cacR_omk (A := E j) (a1 := r0_) (a2 := (r0_ + 1)) (a4 := r3_) (a5 := (r3_ + 1)) (a6 := ((r3_ + 1) + 1)) (a7 := (((r3_ + 1) + 1) + 1)) W02.out W32.out s0 s3 d0_3)
      have NW2 : Hid (LW cacR ((((u3.setCell ⟨G, off + j * 8 + 4, none⟩ (.int .i64 r3_)).setCell ⟨G, off + j * 8 + 5, none⟩ (.int .i64 (r3_ + 1))).setCell ⟨G, off + j * 8 + 6, none⟩ (.int .i64 ((r3_ + 1) + 1))).setCell ⟨G, off + j * 8 + 7, none⟩ (.int .i64 (((r3_ + 1) + 1) + 1))) A (some ⟨G, off, none⟩) G off cap E (mixL cacR k xs (j + 1))) := show LW _ _ _ _ _ _ _ _ _ by
        rw [← MX.out]
        have eq : (intsK.mr k0_ x0, r0_, (r0_ + 1), opsK.mr k3_ x3, r3_, (r3_ + 1), ((r3_ + 1) + 1), (((r3_ + 1) + 1) + 1)) = (intsK.mr ((k + (sum cacR.nx (xs.take j) : Nat))) x0, (k + (sum cacR.nx (xs.take j) : Nat)) + (intsK.nx x0 : Nat), (k + (sum cacR.nx (xs.take j) : Nat)) + (intsK.nx x0 : Nat) + 1, opsK.mr ((k + (sum cacR.nx (xs.take j) : Nat)) + (intsK.nx x0 : Nat) + 1 + 1) x3, (k + (sum cacR.nx (xs.take j) : Nat)) + (intsK.nx x0 : Nat) + 1 + 1 + (opsK.nx x3 : Nat), (k + (sum cacR.nx (xs.take j) : Nat)) + (intsK.nx x0 : Nat) + 1 + 1 + (opsK.nx x3 : Nat) + 1, (k + (sum cacR.nx (xs.take j) : Nat)) + (intsK.nx x0 : Nat) + 1 + 1 + (opsK.nx x3 : Nat) + 1 + 1, (k + (sum cacR.nx (xs.take j) : Nat)) + (intsK.nx x0 : Nat) + 1 + 1 + (opsK.nx x3 : Nat) + 1 + 1 + 1) := by
          have h0 := HK.out
          have q0_ : k0_ = (k + (sum cacR.nx (xs.take j) : Nat)) := by have := EK0.out; omega
          have q1_ : r0_ = (k + (sum cacR.nx (xs.take j) : Nat)) + (intsK.nx x0 : Nat) := by have := EK0.out; have := ER0.out; omega
          have q2_ : (r0_ + 1) = (k + (sum cacR.nx (xs.take j) : Nat)) + (intsK.nx x0 : Nat) + 1 := by have := EK0.out; have := ER0.out; omega
          have q3_ : k3_ = (k + (sum cacR.nx (xs.take j) : Nat)) + (intsK.nx x0 : Nat) + 1 + 1 := by have := EK0.out; have := ER0.out; have := EK3.out; omega
          have q4_ : r3_ = (k + (sum cacR.nx (xs.take j) : Nat)) + (intsK.nx x0 : Nat) + 1 + 1 + (opsK.nx x3 : Nat) := by have := EK0.out; have := ER0.out; have := EK3.out; have := ER3.out; omega
          have q5_ : (r3_ + 1) = (k + (sum cacR.nx (xs.take j) : Nat)) + (intsK.nx x0 : Nat) + 1 + 1 + (opsK.nx x3 : Nat) + 1 := by have := EK0.out; have := ER0.out; have := EK3.out; have := ER3.out; omega
          have q6_ : ((r3_ + 1) + 1) = (k + (sum cacR.nx (xs.take j) : Nat)) + (intsK.nx x0 : Nat) + 1 + 1 + (opsK.nx x3 : Nat) + 1 + 1 := by have := EK0.out; have := ER0.out; have := EK3.out; have := ER3.out; omega
          have q7_ : (((r3_ + 1) + 1) + 1) = (k + (sum cacR.nx (xs.take j) : Nat)) + (intsK.nx x0 : Nat) + 1 + 1 + (opsK.nx x3 : Nat) + 1 + 1 + 1 := by have := EK0.out; have := ER0.out; have := EK3.out; have := ER3.out; omega
          exact (Prod.ext (congrArg (fun z => intsK.mr z x0) q0_) (Prod.ext q1_ (Prod.ext q2_ (Prod.ext (congrArg (fun z => opsK.mr z x3) q3_) (Prod.ext q4_ (Prod.ext q5_ (Prod.ext q6_ q7_)))))))
        rw [← eq]
        exact NW
      have QK := hide (HB.out.trans (KW2.out.mono (fun b _ q => by
        rcases q with q | q
        · subst q; exact GG.out.1
        · exact CA.out b q)))
      have QE : Hid ((((r3_ + 1) + 1) + 1) + 1 = k + (sum cacR.nx (xs.take (j + 1)) : Nat)) := show _ = _ by have := ON.out; have := HK.out; have := EK0.out; have := ER0.out; have := EK3.out; have := ER3.out; omega
      have b9 : 0 ≤ (((r3_ + 1) + 1) + 1) + 1 ∧ (((r3_ + 1) + 1) + 1) + 1 ≤ 1000000000 := by have := KL.out; have := EK0.out; have := ER0.out; have := EK3.out; have := ER3.out; omega
      clear NW RA2 KW2 W02 W32 HP HB GO
      go_wp2
      exact ⟨⟨j + 1, (((r3_ + 1) + 1) + 1) + 1, by omega, by go_num, rfl, QE, b9.1, b9.2, NW2, QK⟩, by simp [intOf]; omega⟩
set_option maxRecDepth 8000 in
set_option maxHeartbeats 8000000 in
theorem heldCacEntryS (xs : List (List Int × Int × Int × List Opn × Int × Int × Int × Int)) (k : Int) (v : Value) (w : World) (h : cacK.rd w v (cacK.mr k xs)) (k0 : 0 ≤ k) (k1 : k + (cacK.nx xs : Nat) ≤ 1000000000) :
    Calls Try.prog 32 #[v, .int .i64 k] w fun e w' => e = .returned (.int .i64 (k + (cacK.nx xs : Nat))) ∧ Below w.heap.size w w' := by
  replace h : LRd cacR w v (markL cacR k xs) := h
  obtain ⟨a, cap, B, off, rfl, h2, h3, hz, h4⟩ := h
  unfold maxLen at h3
  clear hz
  obtain ⟨n, en⟩ : ∃ n, xs.length = n := ⟨_, rfl⟩
  have EN := hide en
  replace k1 : k + (sum cacR.nx xs : Nat) ≤ 1000000000 := k1
  have HS := hide k1
  rw [markL_len, en] at h2 ⊢
  have H4 := hide h4
  have KX : Hid (cacK.nx xs = sum cacR.nx xs) := show _ = _ from rfl
  rw [KX.out]
  obtain ⟨KE, eKE⟩ : ∃ KE, k + (sum cacR.nx xs : Nat) = KE := ⟨_, rfl⟩
  rw [eKE]
  have EKE := hide eKE
  clear en h4 eKE k1
  go_enter Try.func32, Try.ntmps32
  by_cases n0 : n = 0
  · subst n0
    have OZ : Hid (k = KE) := show _ = _ by rw [← EKE.out, show xs = [] from List.length_eq_zero_iff.1 EN.out]; simp [sum]
    go_wp2
    refine wp_loop_rounds 1 ?_
    rw [rounds_succ]
    go_wp2
    go_ret
    exact ⟨ret_int OZ.out, Below.refl _ _⟩
  · obtain ⟨rfl, hc⟩ := H4.out.resolve_left (fun e => n0 (by have := congrArg List.length e; rw [markL_len, EN.out] at this; exact this))
    have HC := hide hc
    clear hc H4
    go_wp2
    go_loopw [1, 5] (fun q i wr => ∃ (j : Nat) (kk : Int), j ≤ n ∧ i = .int .i64 j ∧ q = .int .i64 kk ∧ Hid (kk = k + (sum cacR.nx (xs.take j) : Nat)) ∧ 0 ≤ kk ∧ kk ≤ 1000000000 ∧ Hid (Below w.heap.size w wr)) (fun _ i _ => n - (intOf i).toNat)
    case atStart => exact ⟨0, k, by omega, rfl, rfl, by show _ = _; simp [sum], k0, by have := HS.out; omega, Below.refl _ _⟩
    case round =>
      obtain ⟨j, kk, hj, rfl, rfl, HK, kk0, kk1, HB⟩ := hrel
      by_cases hlt : j < n
      case neg =>
        obtain rfl : j = n := by omega
        have HD : Hid (kk = KE) := show _ = _ by rw [← EKE.out, HK.out, List.take_of_length_le (by rw [EN.out]; omega)]
        go_wp2
        go_ret
        exact ⟨ret_int HD.out, HB.out⟩
      obtain ⟨x, et⟩ : ∃ x, xs[j]? = some x := ⟨_, List.getElem?_eq_getElem (by rw [EN.out]; exact hlt)⟩
      obtain ⟨cs, cc, hx⟩ := HC.out j _ (markL_at et)
      replace cc := cc.below HB.out
      replace hx := cacR.rb hx HB.out
      have sz := sum_one (f := cacR.nx) et
      have ON := hide (sum_take (f := cacR.nx) et)
      have KL : Hid (kk + (cacR.nx x : Nat) ≤ 1000000000) := show _ ≤ _ by have := HS.out; have := HK.out; omega
      rw [← HK.out] at hx
      obtain ⟨x0, a1, a2, x3, a4, a5, a6, a7⟩ := x
      rw [cacR_nx] at ON KL
      rw [cacR_mr] at hx
      obtain ⟨k0_, ek0⟩ : ∃ z, kk = z := ⟨_, rfl⟩
      rw [ek0] at hx
      obtain ⟨r0_, er0⟩ : ∃ z, k0_ + (intsK.nx x0 : Nat) = z := ⟨_, rfl⟩
      try rw [er0] at hx
      have EK0 : Hid (k0_ = kk) := ek0.symm
      have ER0 : Hid (r0_ = k0_ + (intsK.nx x0 : Nat)) := er0.symm
      have kb0 : 0 ≤ k0_ ∧ k0_ + (intsK.nx x0 : Nat) ≤ 1000000000 := by have := KL.out; omega
      have rb0 : 0 ≤ r0_ ∧ r0_ ≤ 1000000000 := by omega
      have nn0 : ¬ r0_ < 0 := by omega
      obtain ⟨k3_, ek3⟩ : ∃ z, (r0_ + 1) + 1 = z := ⟨_, rfl⟩
      rw [ek3] at hx
      obtain ⟨r3_, er3⟩ : ∃ z, k3_ + (opsK.nx x3 : Nat) = z := ⟨_, rfl⟩
      try rw [er3] at hx
      have EK3 : Hid (k3_ = (r0_ + 1) + 1) := ek3.symm
      have ER3 : Hid (r3_ = k3_ + (opsK.nx x3 : Nat)) := er3.symm
      have kb3 : 0 ≤ k3_ ∧ k3_ + (opsK.nx x3 : Nat) ≤ 1000000000 := by have := KL.out; omega
      have rb3 : 0 ≤ r3_ ∧ r3_ ≤ 1000000000 := by omega
      have nn3 : ¬ r3_ < 0 := by omega
      obtain ⟨q0, c0, q3, c3, rfl, k0, k3⟩ := cacR_rd hx
      simp only [intsK_len, opsK_len] at k0 k3 cc
      have z0 : wr.cell? ⟨B, off + j * 8, none⟩ = some (.slice q0 x0.length c0) := cc 0 _ rfl
      have z1 : wr.cell? ⟨B, off + j * 8 + 1, none⟩ = some (.int .i64 r0_) := cc 1 _ rfl
      have z2 : wr.cell? ⟨B, off + j * 8 + 2, none⟩ = some (.int .i64 (r0_ + 1)) := cc 2 _ rfl
      have z3 : wr.cell? ⟨B, off + j * 8 + 3, none⟩ = some (.slice q3 x3.length c3) := cc 3 _ rfl
      have z4 : wr.cell? ⟨B, off + j * 8 + 4, none⟩ = some (.int .i64 r3_) := cc 4 _ rfl
      have z5 : wr.cell? ⟨B, off + j * 8 + 5, none⟩ = some (.int .i64 (r3_ + 1)) := cc 5 _ rfl
      have z6 : wr.cell? ⟨B, off + j * 8 + 6, none⟩ = some (.int .i64 ((r3_ + 1) + 1)) := cc 6 _ rfl
      have z7 : wr.cell? ⟨B, off + j * 8 + 7, none⟩ = some (.int .i64 (((r3_ + 1) + 1) + 1)) := cc 7 _ rfl
      have Z0 := hide z0
      have Z1 := hide z1
      have ne1 : (r0_ != r0_) = false := by simp
      have Z2 := hide z2
      have ne2 : (r0_ + 1 != r0_ + 1) = false := by simp
      have Z3 := hide z3
      have Z4 := hide z4
      have ne4 : (r3_ != r3_) = false := by simp
      have Z5 := hide z5
      have ne5 : (r3_ + 1 != r3_ + 1) = false := by simp
      have Z6 := hide z6
      have ne6 : ((r3_ + 1) + 1 != (r3_ + 1) + 1) = false := by simp
      have Z7 := hide z7
      have ne7 : (((r3_ + 1) + 1) + 1 != ((r3_ + 1) + 1) + 1) = false := by simp
      have H0 := hide k0
      have H3 := hide k3
      have lj : ((j : Nat) : Int) < (n : Nat) := by omega
      clear et sz hx cc k0 k3 er0 er3
      go_wp2_with fail
      try rw [ek0]
      refine (Dt.heldIntS x0 k0_ _ _ H0.out kb0.1 kb0.2).mono ?_
      rintro e u0 ⟨rfl, hb⟩
      rw [← ER0.out]
      replace HB := hide (HB.out.trans (hb.mono HB.out.size))
      replace H3 := hide (opsK.rb H3.out hb)
      replace Z0 := hide (cell_below hb Z0.out)
      replace z0 := Z0.out
      replace Z1 := hide (cell_below hb Z1.out)
      replace z1 := Z1.out
      replace Z2 := hide (cell_below hb Z2.out)
      replace z2 := Z2.out
      replace Z3 := hide (cell_below hb Z3.out)
      replace z3 := Z3.out
      replace Z4 := hide (cell_below hb Z4.out)
      replace z4 := Z4.out
      replace Z5 := hide (cell_below hb Z5.out)
      replace z5 := Z5.out
      replace Z6 := hide (cell_below hb Z6.out)
      replace z6 := Z6.out
      replace Z7 := hide (cell_below hb Z7.out)
      replace z7 := Z7.out
      clear hb H0 ek0
      go_wp2_with fail
      try rw [ek3]
      refine (heldOpsK x3 k3_ _ _ H3.out kb3.1 kb3.2).mono ?_
      rintro e u3 ⟨rfl, hb⟩
      rw [← ER3.out]
      replace HB := hide (HB.out.trans (hb.mono HB.out.size))
      replace Z0 := hide (cell_below hb Z0.out)
      replace z0 := Z0.out
      replace Z1 := hide (cell_below hb Z1.out)
      replace z1 := Z1.out
      replace Z2 := hide (cell_below hb Z2.out)
      replace z2 := Z2.out
      replace Z3 := hide (cell_below hb Z3.out)
      replace z3 := Z3.out
      replace Z4 := hide (cell_below hb Z4.out)
      replace z4 := Z4.out
      replace Z5 := hide (cell_below hb Z5.out)
      replace z5 := Z5.out
      replace Z6 := hide (cell_below hb Z6.out)
      replace z6 := Z6.out
      replace Z7 := hide (cell_below hb Z7.out)
      replace z7 := Z7.out
      clear hb H3 ek3
      have QE : Hid ((((r3_ + 1) + 1) + 1) + 1 = k + (sum cacR.nx (xs.take (j + 1)) : Nat)) := show _ = _ by have := ON.out; have := HK.out; have := EK0.out; have := ER0.out; have := EK3.out; have := ER3.out; omega
      have b9 : 0 ≤ (((r3_ + 1) + 1) + 1) + 1 ∧ (((r3_ + 1) + 1) + 1) + 1 ≤ 1000000000 := by have := KL.out; have := EK0.out; have := ER0.out; have := EK3.out; have := ER3.out; omega
      go_wp2
      exact ⟨⟨j + 1, (((r3_ + 1) + 1) + 1) + 1, by omega, by go_num, rfl, QE, b9.1, b9.2, HB⟩, by simp [intOf]; omega⟩
end Go.Proofs.Ytlgpnogeoaoidaa.Dt
