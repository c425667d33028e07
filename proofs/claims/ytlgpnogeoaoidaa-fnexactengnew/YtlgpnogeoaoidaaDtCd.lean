/-
  The laws' own functions over lists of pairs.
-/
import Derived.Test.YtlgpnogeoaoidaaDtCc
namespace Go.Proofs.Ytlgpnogeoaoidaa.Dt
set_option linter.unusedVariables false
set_option linter.unusedSimpArgs false
open Go.ChangeShapes Go.WideShapes Go.ChangeAt Go.RowKit IntS Pol Flat Irk
open Ir (Opn Bk bv ORow WORow RBk WBk OpAt SoftAt)
theorem cerK_len (k : Int) (xs : List (Int × Int × List Opn × Int × Int × Int × Int × Int × Int × List Opn × Int × Int × Int × Int)) : (cerK.mr k xs).length = xs.length := markL_len xs k
theorem makeCerPairS (n : Nat) (hn : n ≤ 1048576) (w : World) : (Instr.makeSlice 28 (.int .i64 (n : Int)) (.int .i64 (n : Int))).run Try.prog w = .ok (.slice (some ⟨w.heap.size, 0, none⟩) n n) (w.alloc (.cells (madeCells #[.int .i64 0, .int .i64 0, .slice none 0 0, .int .i64 0, .int .i64 0, .int .i64 0, .int .i64 0, .int .i64 0, .int .i64 0, .slice none 0 0, .int .i64 0, .int .i64 0, .int .i64 0, .int .i64 0] (n * 14)) 67)) := by
  have hinfo : (Try.prog.info? 67).map (fun i => (i.zero, i.size, i.bytes)) = some (some (.agg #[.int .i64 0, .int .i64 0, .slice none 0 0, .int .i64 0, .int .i64 0, .int .i64 0, .int .i64 0, .int .i64 0, .int .i64 0, .slice none 0 0, .int .i64 0, .int .i64 0, .int .i64 0, .int .i64 0]), 14, 144) := by kernel_rfl
  obtain ⟨i, hi, hzz⟩ := Option.map_eq_some_iff.1 hinfo
  simp only [Prod.mk.injEq] at hzz
  obtain ⟨hz, hs, hb⟩ := hzz
  have hr := run_make (P := Try.prog) w 28 67 i _ Try.underlying28 hi hz .i64 .i64 n n (by omega) (Int.le_refl _) (by rw [hb]; omega) (by omega)
  simp only [Int.toNat_natCast, hs] at hr
  exact hr
set_option maxRecDepth 8000 in
set_option maxHeartbeats 4000000 in
theorem eqCerPairS (xs : List (Int × Int × List Opn × Int × Int × Int × Int × Int × Int × List Opn × Int × Int × Int × Int)) (v v' : Value) (w : World) (h : cerK.rd w v xs) (h' : cerK.rd w v' xs) :
    Calls Try.prog 26 #[v, v'] w fun e w' => e = .returned (.bool true) ∧ Below w.heap.size w w' := by
  obtain ⟨a, cap, B, off, rfl, h2, h3, hz, h4⟩ := h
  obtain ⟨a', cap', B', off', rfl, h2', h3', hz', h4'⟩ := h'
  unfold maxLen at h3 h3'
  clear hz hz'
  obtain ⟨n, en⟩ : ∃ n, xs.length = n := ⟨_, rfl⟩
  have EN := hide en
  rw [en] at h2 h2' ⊢
  have H4 := hide h4
  have H4' := hide h4'
  have nn : ((n : Int) != (n : Int)) = false := by simp
  clear en h4 h4'
  go_enter Try.func26, Try.ntmps26
  by_cases n0 : n = 0
  · subst n0
    go_wp2
    refine wp_loop_rounds 1 ?_
    rw [rounds_succ]
    go_wp2
    go_ret
    exact ⟨rfl, Below.refl _ _⟩
  · obtain ⟨rfl, hc⟩ := H4.out.resolve_left (fun e => n0 (by rw [← EN.out, e]; rfl))
    obtain ⟨rfl, hc'⟩ := H4'.out.resolve_left (fun e => n0 (by rw [← EN.out, e]; rfl))
    have HC := hide hc
    have HC' := hide hc'
    clear hc hc' H4 H4'
    go_wp2
    go_loopw [5] (fun i wr => ∃ k : Nat, k ≤ n ∧ i = .int .i64 k ∧ Hid (Below w.heap.size w wr)) (fun i _ => n - (intOf i).toNat)
    case atStart => exact ⟨0, by omega, rfl, Below.refl _ _⟩
    case round =>
      obtain ⟨k, hk, rfl, HB⟩ := hrel
      by_cases hlt : k < n
      · obtain ⟨x, et⟩ : ∃ x, xs[k]? = some x := ⟨_, List.getElem?_eq_getElem (by rw [EN.out]; exact hlt)⟩
        obtain ⟨cs, cc, hx⟩ := HC.out k x et
        obtain ⟨cs', cc', hx'⟩ := HC'.out k x et
        have HB2 : Hid (Below w.heap.size w wr.drew) := HB.out.drew
        replace cc := cc.below HB2.out
        replace cc' := cc'.below HB2.out
        replace hx := cerR.rb hx HB2.out
        replace hx' := cerR.rb hx' HB2.out
        obtain ⟨a0, a1, x2, a3, a4, a5, a6, a7, a8, x9, a10, a11, a12, a13⟩ := x
        have HX := hide hx
        have HX' := hide hx'
        obtain ⟨q2, c2, q9, c9, rfl, _, _⟩ := cerR_rd hx
        obtain ⟨p2, d2, p9, d9, rfl, _, _⟩ := cerR_rd hx'
        have z0 : wr.drew.cell? ⟨B, off + k * 14, none⟩ = some (.int .i64 a0) := cc 0 _ rfl
        have z1 : wr.drew.cell? ⟨B, off + k * 14 + 1, none⟩ = some (.int .i64 a1) := cc 1 _ rfl
        have z2 : wr.drew.cell? ⟨B, off + k * 14 + 2, none⟩ = some (.slice q2 x2.length c2) := cc 2 _ rfl
        have z3 : wr.drew.cell? ⟨B, off + k * 14 + 3, none⟩ = some (.int .i64 a3) := cc 3 _ rfl
        have z4 : wr.drew.cell? ⟨B, off + k * 14 + 4, none⟩ = some (.int .i64 a4) := cc 4 _ rfl
        have z5 : wr.drew.cell? ⟨B, off + k * 14 + 5, none⟩ = some (.int .i64 a5) := cc 5 _ rfl
        have z6 : wr.drew.cell? ⟨B, off + k * 14 + 6, none⟩ = some (.int .i64 a6) := cc 6 _ rfl
        have z7 : wr.drew.cell? ⟨B, off + k * 14 + 7, none⟩ = some (.int .i64 a7) := cc 7 _ rfl
        have z8 : wr.drew.cell? ⟨B, off + k * 14 + 8, none⟩ = some (.int .i64 a8) := cc 8 _ rfl
        have z9 : wr.drew.cell? ⟨B, off + k * 14 + 9, none⟩ = some (.slice q9 x9.length c9) := cc 9 _ rfl
        have z10 : wr.drew.cell? ⟨B, off + k * 14 + 10, none⟩ = some (.int .i64 a10) := cc 10 _ rfl
        have z11 : wr.drew.cell? ⟨B, off + k * 14 + 11, none⟩ = some (.int .i64 a11) := cc 11 _ rfl
        have z12 : wr.drew.cell? ⟨B, off + k * 14 + 12, none⟩ = some (.int .i64 a12) := cc 12 _ rfl
        have z13 : wr.drew.cell? ⟨B, off + k * 14 + 13, none⟩ = some (.int .i64 a13) := cc 13 _ rfl
        have y0 : wr.drew.cell? ⟨B', off' + k * 14, none⟩ = some (.int .i64 a0) := cc' 0 _ rfl
        have y1 : wr.drew.cell? ⟨B', off' + k * 14 + 1, none⟩ = some (.int .i64 a1) := cc' 1 _ rfl
        have y2 : wr.drew.cell? ⟨B', off' + k * 14 + 2, none⟩ = some (.slice p2 x2.length d2) := cc' 2 _ rfl
        have y3 : wr.drew.cell? ⟨B', off' + k * 14 + 3, none⟩ = some (.int .i64 a3) := cc' 3 _ rfl
        have y4 : wr.drew.cell? ⟨B', off' + k * 14 + 4, none⟩ = some (.int .i64 a4) := cc' 4 _ rfl
        have y5 : wr.drew.cell? ⟨B', off' + k * 14 + 5, none⟩ = some (.int .i64 a5) := cc' 5 _ rfl
        have y6 : wr.drew.cell? ⟨B', off' + k * 14 + 6, none⟩ = some (.int .i64 a6) := cc' 6 _ rfl
        have y7 : wr.drew.cell? ⟨B', off' + k * 14 + 7, none⟩ = some (.int .i64 a7) := cc' 7 _ rfl
        have y8 : wr.drew.cell? ⟨B', off' + k * 14 + 8, none⟩ = some (.int .i64 a8) := cc' 8 _ rfl
        have y9 : wr.drew.cell? ⟨B', off' + k * 14 + 9, none⟩ = some (.slice p9 x9.length d9) := cc' 9 _ rfl
        have y10 : wr.drew.cell? ⟨B', off' + k * 14 + 10, none⟩ = some (.int .i64 a10) := cc' 10 _ rfl
        have y11 : wr.drew.cell? ⟨B', off' + k * 14 + 11, none⟩ = some (.int .i64 a11) := cc' 11 _ rfl
        have y12 : wr.drew.cell? ⟨B', off' + k * 14 + 12, none⟩ = some (.int .i64 a12) := cc' 12 _ rfl
        have y13 : wr.drew.cell? ⟨B', off' + k * 14 + 13, none⟩ = some (.int .i64 a13) := cc' 13 _ rfl
        have lk : ((k : Nat) : Int) < (n : Nat) := by omega
        clear et hx hx' cc cc'
        go_wp2_with fail
        refine region_tail 8 (by kernel_rfl) (by kernel_rfl) ?_
        simp only [List.take_succ_cons, List.take_zero, List.drop_succ_cons, List.drop_zero]
        repeat still_step
        refine wpStill_nil ?_
        go_wp2_with fail
        refine (eqCerPair a0 a1 x2 a3 a4 a5 a6 a7 a8 x9 a10 a11 a12 a13 _ _ _ HX.out HX'.out).mono ?_
        rintro e u ⟨rfl, hb⟩
        have HB3 := hide (HB2.out.trans (hb.mono HB2.out.size))
        clear hb
        go_wp2
        exact ⟨⟨k + 1, by omega, by go_num, HB3⟩, by simp [intOf]; omega⟩
      · go_wp2
        go_ret
        exact ⟨rfl, HB.out⟩
theorem cerR_nx {a0 : Int} {a1 : Int} {x2 : List Opn} {a3 : Int} {a4 : Int} {a5 : Int} {a6 : Int} {a7 : Int} {a8 : Int} {x9 : List Opn} {a10 : Int} {a11 : Int} {a12 : Int} {a13 : Int} : cerR.nx (a0, a1, x2, a3, a4, a5, a6, a7, a8, x9, a10, a11, a12, a13) = 1 + (1 + (opsK.nx x2 + (1 + (1 + (1 + (1 + (1 + (1 + (opsK.nx x9 + (1 + (1 + (1 + (1))))))))))))) := rfl
theorem cerR_mr {a0 : Int} {a1 : Int} {x2 : List Opn} {a3 : Int} {a4 : Int} {a5 : Int} {a6 : Int} {a7 : Int} {a8 : Int} {x9 : List Opn} {a10 : Int} {a11 : Int} {a12 : Int} {a13 : Int} (k : Int) : cerR.mr k (a0, a1, x2, a3, a4, a5, a6, a7, a8, x9, a10, a11, a12, a13) = (k, k + 1, opsK.mr (k + 1 + 1) x2, k + 1 + 1 + (opsK.nx x2 : Nat), k + 1 + 1 + (opsK.nx x2 : Nat) + 1, k + 1 + 1 + (opsK.nx x2 : Nat) + 1 + 1, k + 1 + 1 + (opsK.nx x2 : Nat) + 1 + 1 + 1, k + 1 + 1 + (opsK.nx x2 : Nat) + 1 + 1 + 1 + 1, k + 1 + 1 + (opsK.nx x2 : Nat) + 1 + 1 + 1 + 1 + 1, opsK.mr (k + 1 + 1 + (opsK.nx x2 : Nat) + 1 + 1 + 1 + 1 + 1 + 1) x9, k + 1 + 1 + (opsK.nx x2 : Nat) + 1 + 1 + 1 + 1 + 1 + 1 + (opsK.nx x9 : Nat), k + 1 + 1 + (opsK.nx x2 : Nat) + 1 + 1 + 1 + 1 + 1 + 1 + (opsK.nx x9 : Nat) + 1, k + 1 + 1 + (opsK.nx x2 : Nat) + 1 + 1 + 1 + 1 + 1 + 1 + (opsK.nx x9 : Nat) + 1 + 1, k + 1 + 1 + (opsK.nx x2 : Nat) + 1 + 1 + 1 + 1 + 1 + 1 + (opsK.nx x9 : Nat) + 1 + 1 + 1) := rfl
set_option maxRecDepth 8000 in
set_option maxHeartbeats 8000000 in
theorem markCerPairS (xs : List (Int × Int × List Opn × Int × Int × Int × Int × Int × Int × List Opn × Int × Int × Int × Int)) (k : Int) (A : Nat → Prop) (v : Value) (w : World) (h : cerK.ow w A v xs) (k0 : 0 ≤ k) (k1 : k + (cerK.nx xs : Nat) ≤ 1000000000) :
    Calls Try.prog 30 #[v, .int .i64 k] w fun e w' => e = .returned (.int .i64 (k + (cerK.nx xs : Nat))) ∧ cerK.ow w' A v (cerK.mr k xs) ∧ Keep A w w' := by
  obtain ⟨a, G, off, cap, E, rfl, h⟩ := h
  have h2 := h.le
  have h3 := h.mx
  unfold maxLen at h3
  obtain ⟨n, en⟩ : ∃ n, xs.length = n := ⟨_, rfl⟩
  have EN := hide en
  replace k1 : k + (sum cerR.nx xs : Nat) ≤ 1000000000 := k1
  have HS := hide k1
  have HW := hide h
  rw [en] at h2 ⊢
  have ML : Hid ((markL cerR k xs).length = n) := show _ = _ by rw [markL_len, en]
  have MW : Hid (mixL cerR k xs n = markL cerR k xs) := show _ = _ by rw [← en]; exact mixL_whole xs k
  have GO : Hid (∀ V, LW cerR V A a G off cap E (mixL cerR k xs n) → cerK.ow V A (.slice a n cap) (cerK.mr k xs)) := fun V hV => ⟨a, G, off, cap, E, (by show _ = Value.slice a (markL cerR k xs).length cap; rw [ML.out]), by show LW cerR V A a G off cap E (markL cerR k xs); rw [← MW.out]; exact hV⟩
  have KX : Hid (cerK.nx xs = sum cerR.nx xs) := show _ = _ from rfl
  rw [KX.out]
  obtain ⟨KE, eKE⟩ : ∃ KE, k + (sum cerR.nx xs : Nat) = KE := ⟨_, rfl⟩
  rw [eKE]
  have EKE := hide eKE
  obtain ⟨OUT, eO⟩ : ∃ O, cerK.mr k xs = O := ⟨_, rfl⟩
  rw [eO] at GO ⊢
  clear en h eKE eO k1
  go_enter Try.func30, Try.ntmps30
  by_cases n0 : n = 0
  · subst n0
    have FF : Hid (cerK.ow w A (.slice a 0 cap) OUT) := GO.out w (by rw [mixL_zero]; exact HW.out)
    have OZ : Hid (k = KE) := show _ = _ by rw [← EKE.out, show xs = [] from List.length_eq_zero_iff.1 EN.out]; simp [sum]
    clear GO
    go_wp2
    refine wp_loop_rounds 1 ?_
    rw [rounds_succ]
    go_wp2
    go_ret
    exact ⟨ret_int OZ.out, FF.out, Keep.refl _ _⟩
  · have hG := HW.out.at_.resolve_left (fun e => n0 (by rw [← EN.out, e]; rfl))
    obtain ⟨rfl, hG2⟩ := hG
    have GG := hide hG2
    clear hG2
    go_wp2
    go_loopw [1, 5] (fun q i wr => ∃ (j : Nat) (kk : Int), j ≤ n ∧ i = .int .i64 j ∧ q = .int .i64 kk ∧ Hid (kk = k + (sum cerR.nx (xs.take j) : Nat)) ∧ 0 ≤ kk ∧ kk ≤ 1000000000 ∧ Hid (LW cerR wr A (some ⟨G, off, none⟩) G off cap E (mixL cerR k xs j)) ∧ Hid (Keep A w wr)) (fun _ i _ => n - (intOf i).toNat)
    case atStart => exact ⟨0, k, by omega, rfl, rfl, by show _ = _; simp [sum], k0, by have := HS.out; omega, by show LW _ _ _ _ _ _ _ _ _; rw [mixL_zero]; exact HW.out, Keep.refl _ _⟩
    case round =>
      obtain ⟨j, kk, hj, rfl, rfl, HK, kk0, kk1, HP, HB⟩ := hrel
      by_cases hlt : j < n
      case neg =>
        obtain rfl : j = n := by omega
        have HD : Hid (kk = KE) := show _ = _ by rw [← EKE.out, HK.out, List.take_of_length_le (by rw [EN.out]; omega)]
        have FF := hide (GO.out wr HP.out)
        clear GO
        go_wp2
        go_ret
        exact ⟨ret_int HD.out, FF.out, HB.out⟩
      obtain ⟨x, et⟩ : ∃ x, xs[j]? = some x := ⟨_, List.getElem?_eq_getElem (by rw [EN.out]; exact hlt)⟩
      have em := (mixL_at (R := cerR) (k := k) (n := j) et).trans (by rw [if_neg (Nat.lt_irrefl _)])
      obtain ⟨cs, cc, cf, cx, cA, cG⟩ := HP.out.cells j x em
      have sz := sum_one (f := cerR.nx) et
      have ON := hide (sum_take (f := cerR.nx) et)
      have MX := hide (mixL_next (R := cerR) (k := k) et)
      have EM := hide em
      have KL : Hid (kk + (cerR.nx x : Nat) ≤ 1000000000) := show _ ≤ _ by have := HS.out; have := HK.out; omega
      obtain ⟨a0, a1, x2, a3, a4, a5, a6, a7, a8, x9, a10, a11, a12, a13⟩ := x
      rw [cerR_nx] at ON KL
      rw [cerR_mr] at MX
      obtain ⟨q2, c2, q9, c9, A2, A9, rfl, k2, k9, s2, s9, d2_9⟩ := cerR_own cx
      have lw : G < wr.heap.size := Nat.lt_of_lt_of_le GG.out.2 HB.out.size
      have lj : ((j : Nat) : Int) < (n : Nat) := by omega
      have RA : Hid (RowAt wr wr G (off + j * 14) 14 [.int .i64 a0, .int .i64 a1, .slice q2 x2.length c2, .int .i64 a3, .int .i64 a4, .int .i64 a5, .int .i64 a6, .int .i64 a7, .int .i64 a8, .slice q9 x9.length c9, .int .i64 a10, .int .i64 a11, .int .i64 a12, .int .i64 a13]) := ⟨lw, cc, rfl, fun _ _ => rfl, fun _ => rfl⟩
      have f0 : wr.frozen? ⟨G, off + j * 14, none⟩ = false := cf 0 (by show 0 < 14; omega) (by exact Or.inl rfl)
      have f1 : wr.frozen? ⟨G, off + j * 14 + 1, none⟩ = false := cf 1 (by show 1 < 14; omega) (by exact Or.inr (Or.inl rfl))
      have f3 : wr.frozen? ⟨G, off + j * 14 + 3, none⟩ = false := cf 3 (by show 3 < 14; omega) (by exact Or.inr (Or.inr (⟨by decide, Or.inl rfl⟩)))
      have f4 : wr.frozen? ⟨G, off + j * 14 + 4, none⟩ = false := cf 4 (by show 4 < 14; omega) (by exact Or.inr (Or.inr (⟨by decide, Or.inr (Or.inl rfl)⟩)))
      have f5 : wr.frozen? ⟨G, off + j * 14 + 5, none⟩ = false := cf 5 (by show 5 < 14; omega) (by exact Or.inr (Or.inr (⟨by decide, Or.inr (Or.inr (Or.inl rfl))⟩)))
      have f6 : wr.frozen? ⟨G, off + j * 14 + 6, none⟩ = false := cf 6 (by show 6 < 14; omega) (by exact Or.inr (Or.inr (⟨by decide, Or.inr (Or.inr (Or.inr (Or.inl rfl)))⟩)))
      have f7 : wr.frozen? ⟨G, off + j * 14 + 7, none⟩ = false := cf 7 (by show 7 < 14; omega) (by exact Or.inr (Or.inr (⟨by decide, Or.inr (Or.inr (Or.inr (Or.inr (Or.inl rfl))))⟩)))
      have f8 : wr.frozen? ⟨G, off + j * 14 + 8, none⟩ = false := cf 8 (by show 8 < 14; omega) (by exact Or.inr (Or.inr (⟨by decide, Or.inr (Or.inr (Or.inr (Or.inr (Or.inr (Or.inl rfl)))))⟩)))
      have f10 : wr.frozen? ⟨G, off + j * 14 + 10, none⟩ = false := cf 10 (by show 10 < 14; omega) (by exact Or.inr (Or.inr (⟨by decide, Or.inr (Or.inr (Or.inr (Or.inr (Or.inr (Or.inr (⟨by decide, Or.inl rfl⟩))))))⟩)))
      have f11 : wr.frozen? ⟨G, off + j * 14 + 11, none⟩ = false := cf 11 (by show 11 < 14; omega) (by exact Or.inr (Or.inr (⟨by decide, Or.inr (Or.inr (Or.inr (Or.inr (Or.inr (Or.inr (⟨by decide, Or.inr (Or.inl rfl)⟩))))))⟩)))
      have f12 : wr.frozen? ⟨G, off + j * 14 + 12, none⟩ = false := cf 12 (by show 12 < 14; omega) (by exact Or.inr (Or.inr (⟨by decide, Or.inr (Or.inr (Or.inr (Or.inr (Or.inr (Or.inr (⟨by decide, Or.inr (Or.inr (Or.inl rfl))⟩))))))⟩)))
      have f13 : wr.frozen? ⟨G, off + j * 14 + 13, none⟩ = false := cf 13 (by show 13 < 14; omega) (by exact Or.inr (Or.inr (⟨by decide, Or.inr (Or.inr (Or.inr (Or.inr (Or.inr (Or.inr (⟨by decide, Or.inr (Or.inr (Or.inr (trivial)))⟩))))))⟩)))
      have NG : Hid (¬ A2 G ∧ ¬ A9 G ∧ True) := ⟨(fun q => cG (s2 _ q)), (fun q => cG (s9 _ q)), trivial⟩
      have KW : Hid (Keep (fun b => b = G ∨ E j b) wr wr) := Keep.refl _ _
      have H2 := hide k2
      have H9 := hide k9
      have CA := hide cA
      clear et em sz cc cf cx cA cG k2 k9
      have w0_ : wr.cell? ⟨G, off + j * 14, none⟩ = _ := RA.out.at_ 0 _ rfl
      have v0_ : wr.frozen? ⟨G, off + j * 14, none⟩ = false := (RA.out.fr _).trans f0
      have w1_ : wr.cell? ⟨G, off + j * 14 + 1, none⟩ = _ := RA.out.at_ 1 _ rfl
      have v1_ : wr.frozen? ⟨G, off + j * 14 + 1, none⟩ = false := (RA.out.fr _).trans f1
      have TB := (((Turn.refl G wr).setCell (p := ⟨G, off + j * 14, none⟩) rfl (.int .i64 kk)).setCell (p := ⟨G, off + j * 14 + 1, none⟩) rfl (.int .i64 (kk + 1)))
      have RA2 := hide ((RA.out.set (f := 0) (q := off + j * 14) (by omega) (.int .i64 kk) rfl (show _ = ([.int .i64 kk, .int .i64 a1, .slice q2 x2.length c2, .int .i64 a3, .int .i64 a4, .int .i64 a5, .int .i64 a6, .int .i64 a7, .int .i64 a8, .slice q9 x9.length c9, .int .i64 a10, .int .i64 a11, .int .i64 a12, .int .i64 a13] : List Value) from rfl)).set (f := 1) (q := off + j * 14 + 1) (by omega) (.int .i64 (kk + 1)) rfl (show _ = ([.int .i64 kk, .int .i64 (kk + 1), .slice q2 x2.length c2, .int .i64 a3, .int .i64 a4, .int .i64 a5, .int .i64 a6, .int .i64 a7, .int .i64 a8, .slice q9 x9.length c9, .int .i64 a10, .int .i64 a11, .int .i64 a12, .int .i64 a13] : List Value) from rfl))
      have KW2 := hide (KW.out.trans ((Keep.of_turn TB).mono (fun b _ q => Or.inl q)))
      have H22 := hide (opsK.ot H2.out TB NG.out.1)
      have H92 := hide (opsK.ot H9.out TB NG.out.2.1)
      have gl_ : G < wr.heap.size := RA.out.lt
      clear TB RA KW H2 H9 
      have z2 : ((wr.setCell ⟨G, off + j * 14, none⟩ (.int .i64 kk)).setCell ⟨G, off + j * 14 + 1, none⟩ (.int .i64 (kk + 1))).cell? ⟨G, off + j * 14 + 2, none⟩ = _ := RA2.out.at_ 2 _ rfl
      go_wp2_with fail
      generalize (wr.setCell ⟨G, off + j * 14, none⟩ (.int .i64 kk)).setCell ⟨G, off + j * 14 + 1, none⟩ (.int .i64 (kk + 1)) = U2 at RA2 KW2 H22 H92  z2 ⊢
      have RA := RA2
      have KW := KW2
      have H2 := H22
      have H9 := H92
      clear RA2 KW2 H22 H92  w0_ v0_ w1_ v1_
      obtain ⟨k2_, ek2⟩ : ∃ z, (kk + 1) + 1 = z := ⟨_, rfl⟩
      rw [ek2]
      have EK2 : Hid (k2_ = (kk + 1) + 1) := ek2.symm
      have kb2 : 0 ≤ k2_ ∧ k2_ + (opsK.nx x2 : Nat) ≤ 1000000000 := by have := KL.out; omega
      clear ek2
      refine (markOpsK x2 k2_ A2 _ _ H2.out kb2.1 kb2.2).mono ?_
      rintro e u2 ⟨rfl, O2, hk⟩
      have W2 := hide O2
      replace RA := hide (RA.out.keep hk NG.out.1)
      replace KW := hide (KW.out.trans (hk.mono (fun b _ q => Or.inr (s2 b q))))
      replace H9 := hide (opsK.ok H9.out hk (fun b q r => d2_9 b r q))
      clear O2 hk H2 z2
      obtain ⟨r2_, er2⟩ : ∃ z, k2_ + (opsK.nx x2 : Nat) = z := ⟨_, rfl⟩
      rw [er2]
      have ER2 : Hid (r2_ = k2_ + (opsK.nx x2 : Nat)) := er2.symm
      have rb2 : 0 ≤ r2_ ∧ r2_ ≤ 1000000000 := by omega
      clear er2
      have w3_ : u2.cell? ⟨G, off + j * 14 + 3, none⟩ = _ := RA.out.at_ 3 _ rfl
      have v3_ : u2.frozen? ⟨G, off + j * 14 + 3, none⟩ = false := (RA.out.fr _).trans f3
      have w4_ : u2.cell? ⟨G, off + j * 14 + 4, none⟩ = _ := RA.out.at_ 4 _ rfl
      have v4_ : u2.frozen? ⟨G, off + j * 14 + 4, none⟩ = false := (RA.out.fr _).trans f4
      have w5_ : u2.cell? ⟨G, off + j * 14 + 5, none⟩ = _ := RA.out.at_ 5 _ rfl
      have v5_ : u2.frozen? ⟨G, off + j * 14 + 5, none⟩ = false := (RA.out.fr _).trans f5
      have w6_ : u2.cell? ⟨G, off + j * 14 + 6, none⟩ = _ := RA.out.at_ 6 _ rfl
      have v6_ : u2.frozen? ⟨G, off + j * 14 + 6, none⟩ = false := (RA.out.fr _).trans f6
      have w7_ : u2.cell? ⟨G, off + j * 14 + 7, none⟩ = _ := RA.out.at_ 7 _ rfl
      have v7_ : u2.frozen? ⟨G, off + j * 14 + 7, none⟩ = false := (RA.out.fr _).trans f7
      have w8_ : u2.cell? ⟨G, off + j * 14 + 8, none⟩ = _ := RA.out.at_ 8 _ rfl
      have v8_ : u2.frozen? ⟨G, off + j * 14 + 8, none⟩ = false := (RA.out.fr _).trans f8
      have TB := (((((((Turn.refl G u2).setCell (p := ⟨G, off + j * 14 + 3, none⟩) rfl (.int .i64 r2_)).setCell (p := ⟨G, off + j * 14 + 4, none⟩) rfl (.int .i64 (r2_ + 1))).setCell (p := ⟨G, off + j * 14 + 5, none⟩) rfl (.int .i64 ((r2_ + 1) + 1))).setCell (p := ⟨G, off + j * 14 + 6, none⟩) rfl (.int .i64 (((r2_ + 1) + 1) + 1))).setCell (p := ⟨G, off + j * 14 + 7, none⟩) rfl (.int .i64 ((((r2_ + 1) + 1) + 1) + 1))).setCell (p := ⟨G, off + j * 14 + 8, none⟩) rfl (.int .i64 (((((r2_ + 1) + 1) + 1) + 1) + 1)))
      have RA2 := hide ((((((RA.out.set (f := 3) (q := off + j * 14 + 3) (by omega) (.int .i64 r2_) rfl (show _ = ([.int .i64 kk, .int .i64 (kk + 1), .slice q2 x2.length c2, .int .i64 r2_, .int .i64 a4, .int .i64 a5, .int .i64 a6, .int .i64 a7, .int .i64 a8, .slice q9 x9.length c9, .int .i64 a10, .int .i64 a11, .int .i64 a12, .int .i64 a13] : List Value) from rfl)).set (f := 4) (q := off + j * 14 + 4) (by omega) (.int .i64 (r2_ + 1)) rfl (show _ = ([.int .i64 kk, .int .i64 (kk + 1), .slice q2 x2.length c2, .int .i64 r2_, .int .i64 (r2_ + 1), .int .i64 a5, .int .i64 a6, .int .i64 a7, .int .i64 a8, .slice q9 x9.length c9, .int .i64 a10, .int .i64 a11, .int .i64 a12, .int .i64 a13] : List Value) from rfl)).set (f := 5) (q := off + j * 14 + 5) (by omega) (.int .i64 ((r2_ + 1) + 1)) rfl (show _ = ([.int .i64 kk, .int .i64 (kk + 1), .slice q2 x2.length c2, .int .i64 r2_, .int .i64 (r2_ + 1), .int .i64 ((r2_ + 1) + 1), .int .i64 a6, .int .i64 a7, .int .i64 a8, .slice q9 x9.length c9, .int .i64 a10, .int .i64 a11, .int .i64 a12, .int .i64 a13] : List Value) from rfl)).set (f := 6) (q := off + j * 14 + 6) (by omega) (.int .i64 (((r2_ + 1) + 1) + 1)) rfl (show _ = ([.int .i64 kk, .int .i64 (kk + 1), .slice q2 x2.length c2, .int .i64 r2_, .int .i64 (r2_ + 1), .int .i64 ((r2_ + 1) + 1), .int .i64 (((r2_ + 1) + 1) + 1), .int .i64 a7, .int .i64 a8, .slice q9 x9.length c9, .int .i64 a10, .int .i64 a11, .int .i64 a12, .int .i64 a13] : List Value) from rfl)).set (f := 7) (q := off + j * 14 + 7) (by omega) (.int .i64 ((((r2_ + 1) + 1) + 1) + 1)) rfl (show _ = ([.int .i64 kk, .int .i64 (kk + 1), .slice q2 x2.length c2, .int .i64 r2_, .int .i64 (r2_ + 1), .int .i64 ((r2_ + 1) + 1), .int .i64 (((r2_ + 1) + 1) + 1), .int .i64 ((((r2_ + 1) + 1) + 1) + 1), .int .i64 a8, .slice q9 x9.length c9, .int .i64 a10, .int .i64 a11, .int .i64 a12, .int .i64 a13] : List Value) from rfl)).set (f := 8) (q := off + j * 14 + 8) (by omega) (.int .i64 (((((r2_ + 1) + 1) + 1) + 1) + 1)) rfl (show _ = ([.int .i64 kk, .int .i64 (kk + 1), .slice q2 x2.length c2, .int .i64 r2_, .int .i64 (r2_ + 1), .int .i64 ((r2_ + 1) + 1), .int .i64 (((r2_ + 1) + 1) + 1), .int .i64 ((((r2_ + 1) + 1) + 1) + 1), .int .i64 (((((r2_ + 1) + 1) + 1) + 1) + 1), .slice q9 x9.length c9, .int .i64 a10, .int .i64 a11, .int .i64 a12, .int .i64 a13] : List Value) from rfl))
      have KW2 := hide (KW.out.trans ((Keep.of_turn TB).mono (fun b _ q => Or.inl q)))
      have H92 := hide (opsK.ot H9.out TB NG.out.2.1)
      have W22 := hide (opsK.ot W2.out TB NG.out.1)
      have gl_ : G < u2.heap.size := RA.out.lt
      clear TB RA KW H9 W2
      have z9 : ((((((u2.setCell ⟨G, off + j * 14 + 3, none⟩ (.int .i64 r2_)).setCell ⟨G, off + j * 14 + 4, none⟩ (.int .i64 (r2_ + 1))).setCell ⟨G, off + j * 14 + 5, none⟩ (.int .i64 ((r2_ + 1) + 1))).setCell ⟨G, off + j * 14 + 6, none⟩ (.int .i64 (((r2_ + 1) + 1) + 1))).setCell ⟨G, off + j * 14 + 7, none⟩ (.int .i64 ((((r2_ + 1) + 1) + 1) + 1))).setCell ⟨G, off + j * 14 + 8, none⟩ (.int .i64 (((((r2_ + 1) + 1) + 1) + 1) + 1))).cell? ⟨G, off + j * 14 + 9, none⟩ = _ := RA2.out.at_ 9 _ rfl
      go_wp2_with fail
      generalize (((((u2.setCell ⟨G, off + j * 14 + 3, none⟩ (.int .i64 r2_)).setCell ⟨G, off + j * 14 + 4, none⟩ (.int .i64 (r2_ + 1))).setCell ⟨G, off + j * 14 + 5, none⟩ (.int .i64 ((r2_ + 1) + 1))).setCell ⟨G, off + j * 14 + 6, none⟩ (.int .i64 (((r2_ + 1) + 1) + 1))).setCell ⟨G, off + j * 14 + 7, none⟩ (.int .i64 ((((r2_ + 1) + 1) + 1) + 1))).setCell ⟨G, off + j * 14 + 8, none⟩ (.int .i64 (((((r2_ + 1) + 1) + 1) + 1) + 1)) = U9 at RA2 KW2 H92 W22 z9 ⊢
      have RA := RA2
      have KW := KW2
      have H9 := H92
      have W2 := W22
      clear RA2 KW2 H92 W22 w3_ v3_ w4_ v4_ w5_ v5_ w6_ v6_ w7_ v7_ w8_ v8_
      obtain ⟨k9_, ek9⟩ : ∃ z, (((((r2_ + 1) + 1) + 1) + 1) + 1) + 1 = z := ⟨_, rfl⟩
      rw [ek9]
      have EK9 : Hid (k9_ = (((((r2_ + 1) + 1) + 1) + 1) + 1) + 1) := ek9.symm
      have kb9 : 0 ≤ k9_ ∧ k9_ + (opsK.nx x9 : Nat) ≤ 1000000000 := by have := KL.out; have := EK2.out; have := ER2.out; omega
      clear ek9
      refine (markOpsK x9 k9_ A9 _ _ H9.out kb9.1 kb9.2).mono ?_
      rintro e u9 ⟨rfl, O9, hk⟩
      have W9 := hide O9
      replace RA := hide (RA.out.keep hk NG.out.2.1)
      replace KW := hide (KW.out.trans (hk.mono (fun b _ q => Or.inr (s9 b q))))
      replace W2 := hide (opsK.ok W2.out hk (fun b q r => d2_9 b q r))
      clear O9 hk H9 z9
      obtain ⟨r9_, er9⟩ : ∃ z, k9_ + (opsK.nx x9 : Nat) = z := ⟨_, rfl⟩
      rw [er9]
      have ER9 : Hid (r9_ = k9_ + (opsK.nx x9 : Nat)) := er9.symm
      have rb9 : 0 ≤ r9_ ∧ r9_ ≤ 1000000000 := by omega
      clear er9
      have w10_ : u9.cell? ⟨G, off + j * 14 + 10, none⟩ = _ := RA.out.at_ 10 _ rfl
      have v10_ : u9.frozen? ⟨G, off + j * 14 + 10, none⟩ = false := (RA.out.fr _).trans f10
      have w11_ : u9.cell? ⟨G, off + j * 14 + 11, none⟩ = _ := RA.out.at_ 11 _ rfl
      have v11_ : u9.frozen? ⟨G, off + j * 14 + 11, none⟩ = false := (RA.out.fr _).trans f11
      have w12_ : u9.cell? ⟨G, off + j * 14 + 12, none⟩ = _ := RA.out.at_ 12 _ rfl
      have v12_ : u9.frozen? ⟨G, off + j * 14 + 12, none⟩ = false := (RA.out.fr _).trans f12
      have w13_ : u9.cell? ⟨G, off + j * 14 + 13, none⟩ = _ := RA.out.at_ 13 _ rfl
      have v13_ : u9.frozen? ⟨G, off + j * 14 + 13, none⟩ = false := (RA.out.fr _).trans f13
      have TB := (((((Turn.refl G u9).setCell (p := ⟨G, off + j * 14 + 10, none⟩) rfl (.int .i64 r9_)).setCell (p := ⟨G, off + j * 14 + 11, none⟩) rfl (.int .i64 (r9_ + 1))).setCell (p := ⟨G, off + j * 14 + 12, none⟩) rfl (.int .i64 ((r9_ + 1) + 1))).setCell (p := ⟨G, off + j * 14 + 13, none⟩) rfl (.int .i64 (((r9_ + 1) + 1) + 1)))
      have RA2 := hide ((((RA.out.set (f := 10) (q := off + j * 14 + 10) (by omega) (.int .i64 r9_) rfl (show _ = ([.int .i64 kk, .int .i64 (kk + 1), .slice q2 x2.length c2, .int .i64 r2_, .int .i64 (r2_ + 1), .int .i64 ((r2_ + 1) + 1), .int .i64 (((r2_ + 1) + 1) + 1), .int .i64 ((((r2_ + 1) + 1) + 1) + 1), .int .i64 (((((r2_ + 1) + 1) + 1) + 1) + 1), .slice q9 x9.length c9, .int .i64 r9_, .int .i64 a11, .int .i64 a12, .int .i64 a13] : List Value) from rfl)).set (f := 11) (q := off + j * 14 + 11) (by omega) (.int .i64 (r9_ + 1)) rfl (show _ = ([.int .i64 kk, .int .i64 (kk + 1), .slice q2 x2.length c2, .int .i64 r2_, .int .i64 (r2_ + 1), .int .i64 ((r2_ + 1) + 1), .int .i64 (((r2_ + 1) + 1) + 1), .int .i64 ((((r2_ + 1) + 1) + 1) + 1), .int .i64 (((((r2_ + 1) + 1) + 1) + 1) + 1), .slice q9 x9.length c9, .int .i64 r9_, .int .i64 (r9_ + 1), .int .i64 a12, .int .i64 a13] : List Value) from rfl)).set (f := 12) (q := off + j * 14 + 12) (by omega) (.int .i64 ((r9_ + 1) + 1)) rfl (show _ = ([.int .i64 kk, .int .i64 (kk + 1), .slice q2 x2.length c2, .int .i64 r2_, .int .i64 (r2_ + 1), .int .i64 ((r2_ + 1) + 1), .int .i64 (((r2_ + 1) + 1) + 1), .int .i64 ((((r2_ + 1) + 1) + 1) + 1), .int .i64 (((((r2_ + 1) + 1) + 1) + 1) + 1), .slice q9 x9.length c9, .int .i64 r9_, .int .i64 (r9_ + 1), .int .i64 ((r9_ + 1) + 1), .int .i64 a13] : List Value) from rfl)).set (f := 13) (q := off + j * 14 + 13) (by omega) (.int .i64 (((r9_ + 1) + 1) + 1)) rfl (show _ = ([.int .i64 kk, .int .i64 (kk + 1), .slice q2 x2.length c2, .int .i64 r2_, .int .i64 (r2_ + 1), .int .i64 ((r2_ + 1) + 1), .int .i64 (((r2_ + 1) + 1) + 1), .int .i64 ((((r2_ + 1) + 1) + 1) + 1), .int .i64 (((((r2_ + 1) + 1) + 1) + 1) + 1), .slice q9 x9.length c9, .int .i64 r9_, .int .i64 (r9_ + 1), .int .i64 ((r9_ + 1) + 1), .int .i64 (((r9_ + 1) + 1) + 1)] : List Value) from rfl))
      have KW2 := hide (KW.out.trans ((Keep.of_turn TB).mono (fun b _ q => Or.inl q)))
      have W22 := hide (opsK.ot W2.out TB NG.out.1)
      have W92 := hide (opsK.ot W9.out TB NG.out.2.1)
      have gl_ : G < u9.heap.size := RA.out.lt
      clear TB RA KW  W2 W9
      have NW := LW.mark HP.out EM.out KW2.out (show CellsAt _ G (off + j * 14) _ from RA2.out.at_) (show ∀ o, (o < off + j * 14 ∨ off + j * 14 + 14 ≤ o) → _ from RA2.out.far) RA2.out.fr (cerR_omk (A := E j) (a0 := kk) (a1 := (kk + 1)) (a3 := r2_) (a4 := (r2_ + 1)) (a5 := ((r2_ + 1) + 1)) (a6 := (((r2_ + 1) + 1) + 1)) (a7 := ((((r2_ + 1) + 1) + 1) + 1)) (a8 := (((((r2_ + 1) + 1) + 1) + 1) + 1)) (a10 := r9_) (a11 := (r9_ + 1)) (a12 := ((r9_ + 1) + 1)) (a13 := (((r9_ + 1) + 1) + 1)) W22.out W92.out s2 s9 d2_9)
      have NW2 : Hid (LW cerR ((((u9.setCell ⟨G, off + j * 14 + 10, none⟩ (.int .i64 r9_)).setCell ⟨G, off + j * 14 + 11, none⟩ (.int .i64 (r9_ + 1))).setCell ⟨G, off + j * 14 + 12, none⟩ (.int .i64 ((r9_ + 1) + 1))).setCell ⟨G, off + j * 14 + 13, none⟩ (.int .i64 (((r9_ + 1) + 1) + 1))) A (some ⟨G, off, none⟩) G off cap E (mixL cerR k xs (j + 1))) := show LW _ _ _ _ _ _ _ _ _ by
        rw [← MX.out]
        have eq : (kk, (kk + 1), opsK.mr k2_ x2, r2_, (r2_ + 1), ((r2_ + 1) + 1), (((r2_ + 1) + 1) + 1), ((((r2_ + 1) + 1) + 1) + 1), (((((r2_ + 1) + 1) + 1) + 1) + 1), opsK.mr k9_ x9, r9_, (r9_ + 1), ((r9_ + 1) + 1), (((r9_ + 1) + 1) + 1)) = ((k + (sum cerR.nx (xs.take j) : Nat)), (k + (sum cerR.nx (xs.take j) : Nat)) + 1, opsK.mr ((k + (sum cerR.nx (xs.take j) : Nat)) + 1 + 1) x2, (k + (sum cerR.nx (xs.take j) : Nat)) + 1 + 1 + (opsK.nx x2 : Nat), (k + (sum cerR.nx (xs.take j) : Nat)) + 1 + 1 + (opsK.nx x2 : Nat) + 1, (k + (sum cerR.nx (xs.take j) : Nat)) + 1 + 1 + (opsK.nx x2 : Nat) + 1 + 1, (k + (sum cerR.nx (xs.take j) : Nat)) + 1 + 1 + (opsK.nx x2 : Nat) + 1 + 1 + 1, (k + (sum cerR.nx (xs.take j) : Nat)) + 1 + 1 + (opsK.nx x2 : Nat) + 1 + 1 + 1 + 1, (k + (sum cerR.nx (xs.take j) : Nat)) + 1 + 1 + (opsK.nx x2 : Nat) + 1 + 1 + 1 + 1 + 1, opsK.mr ((k + (sum cerR.nx (xs.take j) : Nat)) + 1 + 1 + (opsK.nx x2 : Nat) + 1 + 1 + 1 + 1 + 1 + 1) x9, (k + (sum cerR.nx (xs.take j) : Nat)) + 1 + 1 + (opsK.nx x2 : Nat) + 1 + 1 + 1 + 1 + 1 + 1 + (opsK.nx x9 : Nat), (k + (sum cerR.nx (xs.take j) : Nat)) + 1 + 1 + (opsK.nx x2 : Nat) + 1 + 1 + 1 + 1 + 1 + 1 + (opsK.nx x9 : Nat) + 1, (k + (sum cerR.nx (xs.take j) : Nat)) + 1 + 1 + (opsK.nx x2 : Nat) + 1 + 1 + 1 + 1 + 1 + 1 + (opsK.nx x9 : Nat) + 1 + 1, (k + (sum cerR.nx (xs.take j) : Nat)) + 1 + 1 + (opsK.nx x2 : Nat) + 1 + 1 + 1 + 1 + 1 + 1 + (opsK.nx x9 : Nat) + 1 + 1 + 1) := by
          have h0 := HK.out
          have q0_ : kk = (k + (sum cerR.nx (xs.take j) : Nat)) := by omega
          have q1_ : (kk + 1) = (k + (sum cerR.nx (xs.take j) : Nat)) + 1 := by omega
          have q2_ : k2_ = (k + (sum cerR.nx (xs.take j) : Nat)) + 1 + 1 := by have := EK2.out; omega
          have q3_ : r2_ = (k + (sum cerR.nx (xs.take j) : Nat)) + 1 + 1 + (opsK.nx x2 : Nat) := by have := EK2.out; have := ER2.out; omega
          have q4_ : (r2_ + 1) = (k + (sum cerR.nx (xs.take j) : Nat)) + 1 + 1 + (opsK.nx x2 : Nat) + 1 := by have := EK2.out; have := ER2.out; omega
          have q5_ : ((r2_ + 1) + 1) = (k + (sum cerR.nx (xs.take j) : Nat)) + 1 + 1 + (opsK.nx x2 : Nat) + 1 + 1 := by have := EK2.out; have := ER2.out; omega
          have q6_ : (((r2_ + 1) + 1) + 1) = (k + (sum cerR.nx (xs.take j) : Nat)) + 1 + 1 + (opsK.nx x2 : Nat) + 1 + 1 + 1 := by have := EK2.out; have := ER2.out; omega
          have q7_ : ((((r2_ + 1) + 1) + 1) + 1) = (k + (sum cerR.nx (xs.take j) : Nat)) + 1 + 1 + (opsK.nx x2 : Nat) + 1 + 1 + 1 + 1 := by have := EK2.out; have := ER2.out; omega
          have q8_ : (((((r2_ + 1) + 1) + 1) + 1) + 1) = (k + (sum cerR.nx (xs.take j) : Nat)) + 1 + 1 + (opsK.nx x2 : Nat) + 1 + 1 + 1 + 1 + 1 := by have := EK2.out; have := ER2.out; omega
          have q9_ : k9_ = (k + (sum cerR.nx (xs.take j) : Nat)) + 1 + 1 + (opsK.nx x2 : Nat) + 1 + 1 + 1 + 1 + 1 + 1 := by have := EK2.out; have := ER2.out; have := EK9.out; omega
          have q10_ : r9_ = (k + (sum cerR.nx (xs.take j) : Nat)) + 1 + 1 + (opsK.nx x2 : Nat) + 1 + 1 + 1 + 1 + 1 + 1 + (opsK.nx x9 : Nat) := by have := EK2.out; have := ER2.out; have := EK9.out; have := ER9.out; omega
          have q11_ : (r9_ + 1) = (k + (sum cerR.nx (xs.take j) : Nat)) + 1 + 1 + (opsK.nx x2 : Nat) + 1 + 1 + 1 + 1 + 1 + 1 + (opsK.nx x9 : Nat) + 1 := by have := EK2.out; have := ER2.out; have := EK9.out; have := ER9.out; omega
          have q12_ : ((r9_ + 1) + 1) = (k + (sum cerR.nx (xs.take j) : Nat)) + 1 + 1 + (opsK.nx x2 : Nat) + 1 + 1 + 1 + 1 + 1 + 1 + (opsK.nx x9 : Nat) + 1 + 1 := by have := EK2.out; have := ER2.out; have := EK9.out; have := ER9.out; omega
          have q13_ : (((r9_ + 1) + 1) + 1) = (k + (sum cerR.nx (xs.take j) : Nat)) + 1 + 1 + (opsK.nx x2 : Nat) + 1 + 1 + 1 + 1 + 1 + 1 + (opsK.nx x9 : Nat) + 1 + 1 + 1 := by have := EK2.out; have := ER2.out; have := EK9.out; have := ER9.out; omega
          exact (Prod.ext q0_ (Prod.ext q1_ (Prod.ext (congrArg (fun z => opsK.mr z x2) q2_) (Prod.ext q3_ (Prod.ext q4_ (Prod.ext q5_ (Prod.ext q6_ (Prod.ext q7_ (Prod.ext q8_ (Prod.ext (congrArg (fun z => opsK.mr z x9) q9_) (Prod.ext q10_ (Prod.ext q11_ (Prod.ext q12_ q13_)))))))))))))
        rw [← eq]
        exact NW
      have QK := hide (HB.out.trans (KW2.out.mono (fun b _ q => by
        rcases q with q | q
        · subst q; exact GG.out.1
        · exact CA.out b q)))
      have QE : Hid ((((r9_ + 1) + 1) + 1) + 1 = k + (sum cerR.nx (xs.take (j + 1)) : Nat)) := show _ = _ by have := ON.out; have := HK.out; have := EK2.out; have := ER2.out; have := EK9.out; have := ER9.out; omega
      have b9 : 0 ≤ (((r9_ + 1) + 1) + 1) + 1 ∧ (((r9_ + 1) + 1) + 1) + 1 ≤ 1000000000 := by have := KL.out; have := EK2.out; have := ER2.out; have := EK9.out; have := ER9.out; omega
      clear NW RA2 KW2 W22 W92 HP HB GO
      go_wp2
      exact ⟨⟨j + 1, (((r9_ + 1) + 1) + 1) + 1, by omega, by go_num, rfl, QE, b9.1, b9.2, NW2, QK⟩, by simp [intOf]; omega⟩
set_option maxRecDepth 8000 in
set_option maxHeartbeats 8000000 in
theorem heldCerPairS (xs : List (Int × Int × List Opn × Int × Int × Int × Int × Int × Int × List Opn × Int × Int × Int × Int)) (k : Int) (v : Value) (w : World) (h : cerK.rd w v (cerK.mr k xs)) (k0 : 0 ≤ k) (k1 : k + (cerK.nx xs : Nat) ≤ 1000000000) :
    Calls Try.prog 33 #[v, .int .i64 k] w fun e w' => e = .returned (.int .i64 (k + (cerK.nx xs : Nat))) ∧ Below w.heap.size w w' := by
  replace h : LRd cerR w v (markL cerR k xs) := h
  obtain ⟨a, cap, B, off, rfl, h2, h3, hz, h4⟩ := h
  unfold maxLen at h3
  clear hz
  obtain ⟨n, en⟩ : ∃ n, xs.length = n := ⟨_, rfl⟩
  have EN := hide en
  replace k1 : k + (sum cerR.nx xs : Nat) ≤ 1000000000 := k1
  have HS := hide k1
  rw [markL_len, en] at h2 ⊢
  have H4 := hide h4
  have KX : Hid (cerK.nx xs = sum cerR.nx xs) := show _ = _ from rfl
  rw [KX.out]
  obtain ⟨KE, eKE⟩ : ∃ KE, k + (sum cerR.nx xs : Nat) = KE := ⟨_, rfl⟩
  rw [eKE]
  have EKE := hide eKE
  clear en h4 eKE k1
  go_enter Try.func33, Try.ntmps33
  by_cases n0 : n = 0
  · subst n0
    have OZ : Hid (k = KE) := show _ = _ by rw [← EKE.out, show xs = [] from List.length_eq_zero_iff.1 EN.out]; simp [sum]
    go_wp2
    refine wp_loop_rounds 1 ?_
    rw [rounds_succ]
    go_wp2
    go_ret
    exact ⟨ret_int OZ.out, Below.refl _ _⟩
  · obtain ⟨rfl, hc⟩ := H4.out.resolve_left (fun e => n0 (by have := congrArg List.length e; rw [markL_len, EN.out] at this; exact this))
    have HC := hide hc
    clear hc H4
    go_wp2
    go_loopw [1, 5] (fun q i wr => ∃ (j : Nat) (kk : Int), j ≤ n ∧ i = .int .i64 j ∧ q = .int .i64 kk ∧ Hid (kk = k + (sum cerR.nx (xs.take j) : Nat)) ∧ 0 ≤ kk ∧ kk ≤ 1000000000 ∧ Hid (Below w.heap.size w wr)) (fun _ i _ => n - (intOf i).toNat)
    case atStart => exact ⟨0, k, by omega, rfl, rfl, by show _ = _; simp [sum], k0, by have := HS.out; omega, Below.refl _ _⟩
    case round =>
      obtain ⟨j, kk, hj, rfl, rfl, HK, kk0, kk1, HB⟩ := hrel
      by_cases hlt : j < n
      case neg =>
        obtain rfl : j = n := by omega
        have HD : Hid (kk = KE) := show _ = _ by rw [← EKE.out, HK.out, List.take_of_length_le (by rw [EN.out]; omega)]
        go_wp2
        go_ret
        exact ⟨ret_int HD.out, HB.out⟩
      obtain ⟨x, et⟩ : ∃ x, xs[j]? = some x := ⟨_, List.getElem?_eq_getElem (by rw [EN.out]; exact hlt)⟩
      obtain ⟨cs, cc, hx⟩ := HC.out j _ (markL_at et)
      replace cc := cc.below HB.out
      replace hx := cerR.rb hx HB.out
      have sz := sum_one (f := cerR.nx) et
      have ON := hide (sum_take (f := cerR.nx) et)
      have KL : Hid (kk + (cerR.nx x : Nat) ≤ 1000000000) := show _ ≤ _ by have := HS.out; have := HK.out; omega
      rw [← HK.out] at hx
      obtain ⟨a0, a1, x2, a3, a4, a5, a6, a7, a8, x9, a10, a11, a12, a13⟩ := x
      rw [cerR_nx] at ON KL
      rw [cerR_mr] at hx
      obtain ⟨k2_, ek2⟩ : ∃ z, (kk + 1) + 1 = z := ⟨_, rfl⟩
      rw [ek2] at hx
      obtain ⟨r2_, er2⟩ : ∃ z, k2_ + (opsK.nx x2 : Nat) = z := ⟨_, rfl⟩
      try rw [er2] at hx
      have EK2 : Hid (k2_ = (kk + 1) + 1) := ek2.symm
      have ER2 : Hid (r2_ = k2_ + (opsK.nx x2 : Nat)) := er2.symm
      have kb2 : 0 ≤ k2_ ∧ k2_ + (opsK.nx x2 : Nat) ≤ 1000000000 := by have := KL.out; omega
      have rb2 : 0 ≤ r2_ ∧ r2_ ≤ 1000000000 := by omega
      have nn2 : ¬ r2_ < 0 := by omega
      obtain ⟨k9_, ek9⟩ : ∃ z, (((((r2_ + 1) + 1) + 1) + 1) + 1) + 1 = z := ⟨_, rfl⟩
      rw [ek9] at hx
      obtain ⟨r9_, er9⟩ : ∃ z, k9_ + (opsK.nx x9 : Nat) = z := ⟨_, rfl⟩
      try rw [er9] at hx
      have EK9 : Hid (k9_ = (((((r2_ + 1) + 1) + 1) + 1) + 1) + 1) := ek9.symm
      have ER9 : Hid (r9_ = k9_ + (opsK.nx x9 : Nat)) := er9.symm
      have kb9 : 0 ≤ k9_ ∧ k9_ + (opsK.nx x9 : Nat) ≤ 1000000000 := by have := KL.out; omega
      have rb9 : 0 ≤ r9_ ∧ r9_ ≤ 1000000000 := by omega
      have nn9 : ¬ r9_ < 0 := by omega
      obtain ⟨q2, c2, q9, c9, rfl, k2, k9⟩ := cerR_rd hx
      simp only [opsK_len] at k2 k9 cc
      have z0 : wr.cell? ⟨B, off + j * 14, none⟩ = some (.int .i64 kk) := cc 0 _ rfl
      have z1 : wr.cell? ⟨B, off + j * 14 + 1, none⟩ = some (.int .i64 (kk + 1)) := cc 1 _ rfl
      have z2 : wr.cell? ⟨B, off + j * 14 + 2, none⟩ = some (.slice q2 x2.length c2) := cc 2 _ rfl
      have z3 : wr.cell? ⟨B, off + j * 14 + 3, none⟩ = some (.int .i64 r2_) := cc 3 _ rfl
      have z4 : wr.cell? ⟨B, off + j * 14 + 4, none⟩ = some (.int .i64 (r2_ + 1)) := cc 4 _ rfl
      have z5 : wr.cell? ⟨B, off + j * 14 + 5, none⟩ = some (.int .i64 ((r2_ + 1) + 1)) := cc 5 _ rfl
      have z6 : wr.cell? ⟨B, off + j * 14 + 6, none⟩ = some (.int .i64 (((r2_ + 1) + 1) + 1)) := cc 6 _ rfl
      have z7 : wr.cell? ⟨B, off + j * 14 + 7, none⟩ = some (.int .i64 ((((r2_ + 1) + 1) + 1) + 1)) := cc 7 _ rfl
      have z8 : wr.cell? ⟨B, off + j * 14 + 8, none⟩ = some (.int .i64 (((((r2_ + 1) + 1) + 1) + 1) + 1)) := cc 8 _ rfl
      have z9 : wr.cell? ⟨B, off + j * 14 + 9, none⟩ = some (.slice q9 x9.length c9) := cc 9 _ rfl
      have z10 : wr.cell? ⟨B, off + j * 14 + 10, none⟩ = some (.int .i64 r9_) := cc 10 _ rfl
      have z11 : wr.cell? ⟨B, off + j * 14 + 11, none⟩ = some (.int .i64 (r9_ + 1)) := cc 11 _ rfl
      have z12 : wr.cell? ⟨B, off + j * 14 + 12, none⟩ = some (.int .i64 ((r9_ + 1) + 1)) := cc 12 _ rfl
      have z13 : wr.cell? ⟨B, off + j * 14 + 13, none⟩ = some (.int .i64 (((r9_ + 1) + 1) + 1)) := cc 13 _ rfl
      have Z0 := hide z0
      have ne0 : (kk != kk) = false := by simp
      have Z1 := hide z1
      have ne1 : (kk + 1 != kk + 1) = false := by simp
      have Z2 := hide z2
      have Z3 := hide z3
      have ne3 : (r2_ != r2_) = false := by simp
      have Z4 := hide z4
      have ne4 : (r2_ + 1 != r2_ + 1) = false := by simp
      have Z5 := hide z5
      have ne5 : ((r2_ + 1) + 1 != (r2_ + 1) + 1) = false := by simp
      have Z6 := hide z6
      have ne6 : (((r2_ + 1) + 1) + 1 != ((r2_ + 1) + 1) + 1) = false := by simp
      have Z7 := hide z7
      have ne7 : ((((r2_ + 1) + 1) + 1) + 1 != (((r2_ + 1) + 1) + 1) + 1) = false := by simp
      have Z8 := hide z8
      have ne8 : (((((r2_ + 1) + 1) + 1) + 1) + 1 != ((((r2_ + 1) + 1) + 1) + 1) + 1) = false := by simp
      have Z9 := hide z9
      have Z10 := hide z10
      have ne10 : (r9_ != r9_) = false := by simp
      have Z11 := hide z11
      have ne11 : (r9_ + 1 != r9_ + 1) = false := by simp
      have Z12 := hide z12
      have ne12 : ((r9_ + 1) + 1 != (r9_ + 1) + 1) = false := by simp
      have Z13 := hide z13
      have ne13 : (((r9_ + 1) + 1) + 1 != ((r9_ + 1) + 1) + 1) = false := by simp
      have H2 := hide k2
      have H9 := hide k9
      have lj : ((j : Nat) : Int) < (n : Nat) := by omega
      clear et sz hx cc k2 k9 er2 er9
      go_wp2_with fail
      try rw [ek2]
      refine (heldOpsK x2 k2_ _ _ H2.out kb2.1 kb2.2).mono ?_
      rintro e u2 ⟨rfl, hb⟩
      rw [← ER2.out]
      replace HB := hide (HB.out.trans (hb.mono HB.out.size))
      replace H9 := hide (opsK.rb H9.out hb)
      replace Z0 := hide (cell_below hb Z0.out)
      replace z0 := Z0.out
      replace Z1 := hide (cell_below hb Z1.out)
      replace z1 := Z1.out
      replace Z2 := hide (cell_below hb Z2.out)
      replace z2 := Z2.out
      replace Z3 := hide (cell_below hb Z3.out)
      replace z3 := Z3.out
      replace Z4 := hide (cell_below hb Z4.out)
      replace z4 := Z4.out
      replace Z5 := hide (cell_below hb Z5.out)
      replace z5 := Z5.out
      replace Z6 := hide (cell_below hb Z6.out)
      replace z6 := Z6.out
      replace Z7 := hide (cell_below hb Z7.out)
      replace z7 := Z7.out
      replace Z8 := hide (cell_below hb Z8.out)
      replace z8 := Z8.out
      replace Z9 := hide (cell_below hb Z9.out)
      replace z9 := Z9.out
      replace Z10 := hide (cell_below hb Z10.out)
      replace z10 := Z10.out
      replace Z11 := hide (cell_below hb Z11.out)
      replace z11 := Z11.out
      replace Z12 := hide (cell_below hb Z12.out)
      replace z12 := Z12.out
      replace Z13 := hide (cell_below hb Z13.out)
      replace z13 := Z13.out
      clear hb H2 ek2
      go_wp2_with fail
      try rw [ek9]
      refine (heldOpsK x9 k9_ _ _ H9.out kb9.1 kb9.2).mono ?_
      rintro e u9 ⟨rfl, hb⟩
      rw [← ER9.out]
      replace HB := hide (HB.out.trans (hb.mono HB.out.size))
      replace Z0 := hide (cell_below hb Z0.out)
      replace z0 := Z0.out
      replace Z1 := hide (cell_below hb Z1.out)
      replace z1 := Z1.out
      replace Z2 := hide (cell_below hb Z2.out)
      replace z2 := Z2.out
      replace Z3 := hide (cell_below hb Z3.out)
      replace z3 := Z3.out
      replace Z4 := hide (cell_below hb Z4.out)
      replace z4 := Z4.out
      replace Z5 := hide (cell_below hb Z5.out)
      replace z5 := Z5.out
      replace Z6 := hide (cell_below hb Z6.out)
      replace z6 := Z6.out
      replace Z7 := hide (cell_below hb Z7.out)
      replace z7 := Z7.out
      replace Z8 := hide (cell_below hb Z8.out)
      replace z8 := Z8.out
      replace Z9 := hide (cell_below hb Z9.out)
      replace z9 := Z9.out
      replace Z10 := hide (cell_below hb Z10.out)
      replace z10 := Z10.out
      replace Z11 := hide (cell_below hb Z11.out)
      replace z11 := Z11.out
      replace Z12 := hide (cell_below hb Z12.out)
      replace z12 := Z12.out
      replace Z13 := hide (cell_below hb Z13.out)
      replace z13 := Z13.out
      clear hb H9 ek9
      have QE : Hid ((((r9_ + 1) + 1) + 1) + 1 = k + (sum cerR.nx (xs.take (j + 1)) : Nat)) := show _ = _ by have := ON.out; have := HK.out; have := EK2.out; have := ER2.out; have := EK9.out; have := ER9.out; omega
      have b9 : 0 ≤ (((r9_ + 1) + 1) + 1) + 1 ∧ (((r9_ + 1) + 1) + 1) + 1 ≤ 1000000000 := by have := KL.out; have := EK2.out; have := ER2.out; have := EK9.out; have := ER9.out; omega
      go_wp2
      exact ⟨⟨j + 1, (((r9_ + 1) + 1) + 1) + 1, by omega, by go_num, rfl, QE, b9.1, b9.2, HB⟩, by simp [intOf]; omega⟩
end Go.Proofs.Ytlgpnogeoaoidaa.Dt
