/-
  Draws: so many words (l20Words); a sum and words (DrawPolEval).
-/
import Derived.Test.YtckhfpaicnjknaaGreatJoG
import Derived.Test.YtckhfpaicnjknaaGreatJoK
namespace Go.Proofs.YtckhfpaicnjknaaGreat.Draw
set_option linter.unusedVariables false
set_option linter.unusedSimpArgs false
open Go.ChangeShapes Go.WideShapes Go.ChangeAt Go.RowKit
open IntS (Turn hide cell_below Row WRow IsT)
open Pol (Rec Mono WPoly WP PRow Mine OwnM addB addP mulB mulP scaleP constP atomP flat wpList_pushI)
theorem below_low {R lo : Nat} {w w' : World} (h : Below lo w w') (hR : R < lo) : Below (R + 1) w w' := h.mono hR
theorem own_lt {lo g n cap : Nat} {w : World} {xs : List Int} (h : IntS.Own w lo (.slice (some ⟨g, 0, none⟩) n cap) xs) : g < w.heap.size := by
  obtain ⟨g', cap', e, h1, h2, _⟩ := h.form (by simp)
  cases e
  exact h2
theorem own_ne {lo g n cap Z : Nat} {w : World} {xs : List Int} (h : IntS.Own w lo (.slice (some ⟨g, 0, none⟩) n cap) xs) (hZ : Z < lo) : Z ≠ g := by
  obtain ⟨g', cap', e, h1, h2, _⟩ := h.form (by simp)
  cases e
  omega
theorem own_step {R lo g n cap : Nat} {w w' : World} {xs : List Int} (h : IntS.Own w lo (.slice (some ⟨g, 0, none⟩) n cap) xs) (k : Keep R w w') (hR : R < lo) : IntS.Own w' lo (.slice (some ⟨g, 0, none⟩) n cap) xs := by
  obtain ⟨g', cap', e, h1, h2, _⟩ := h.form (by simp)
  cases e
  exact h.turn k.turn (by omega) h2
set_option maxRecDepth 8000 in
set_option maxHeartbeats 8000000 in
theorem words (R q N : Nat) (w : World) (h : Rd R q w) (hq : q ≤ 700000) (hN : N ≤ 1000) :
    Calls Tryz.prog 27 #[.pointer (some ⟨R, 0, none⟩), .int .i64 (N : Int)] w fun e w' => ∃ g cap xs, e = .returned (.slice (some ⟨g, 0, none⟩) N cap) ∧ xs.length = N ∧ IntS.Own w' w.heap.size (.slice (some ⟨g, 0, none⟩) N cap) xs ∧ Rd R (q + 3 * N) w' ∧ Keep R w w' := by
  have hR := h.lt
  have K0 : Hid (Keep R w (w.alloc (.cells #[] 3))) := (Keep.refl R w).alloc _
  have H0 := hide (h.alloc (.cells #[] 3))
  have O0 := hide (La.own_nil w (Nat.le_refl _))
  clear h
  go_enter Tryz.func27, Tryz.ntmps27
  go_wp2
  generalize w.alloc (.cells #[] 3) = u0 at K0 H0 O0 ⊢
  go_loopw [5, 6] (fun s i wr => ∃ (j cap g : Nat) (xs : List Int), j ≤ N ∧ i = .int .i64 (j : Int) ∧ s = .slice (some ⟨g, 0, none⟩) j cap ∧ Hid (xs.length = j) ∧ Hid (IntS.Own wr w.heap.size (.slice (some ⟨g, 0, none⟩) j cap) xs) ∧ Hid (Rd R (q + 3 * j) wr) ∧ Hid (Keep R w wr)) (fun _ i _ => N - (intOf i).toNat)
  case atStart => exact ⟨0, 0, w.heap.size, [], by omega, rfl, rfl, rfl, O0, hide (H0.out.mono (by omega)), K0⟩
  case round =>
    clear O0 H0 K0
    obtain ⟨j, cap, g, xs, hj, rfl, rfl, EL, OO, HH, KK⟩ := hrel
    by_cases h0 : j < N
    · have lk : ((j : Nat) : Int) < (N : Nat) := by omega
      go_wp2_with fail
      refine (word R (q + 3 * j) wr HH.out (by omega)).mono ?_
      rintro e v2 ⟨y, rfl, y0, y1, h1, k1⟩
      have b1 := alloc_below v2 (.cells #[.int .i64 y] 3)
      have O1 := hide (La.own_below (own_step OO.out k1 hR) b1)
      have K1 := hide (keep_low (KK.out.trans k1) b1)
      have H1 := hide (h1.below (b1.mono (by have := h1.lt; omega)))
      have C1 : Hid ((v2.alloc (.cells #[.int .i64 y] 3)).cell? ((⟨v2.heap.size, 0, none⟩ : Addr).add 0) = some (.int .i64 y)) := show _ = _ by rw [Go.WideShapes.add_plain]; simp
      have L1 : Hid (xs.length ≤ 1000000) := show _ ≤ _ by rw [EL.out]; omega
      have LO : Hid (w.heap.size ≤ (v2.alloc (.cells #[.int .i64 y] 3)).heap.size) := K1.out.size
      clear h1 k1 HH OO KK b1 y0 y1
      go_wp2_with (at_builtin; refine wpList_pushI rfl _ _ rfl w.heap.size (.slice (some ⟨g, 0, none⟩) j cap) xs rfl O1.out LO.out ⟨v2.heap.size, 0, none⟩ y rfl C1.out L1.out ?_; intro G2 cp2 u2 hO hb _; rw [EL.out] at hO ⊢; have ON := hide hO.out; have BN := hide hb.out; clear hO hb; refine Hid.out ?_)
      refine hide ?_
      have KN : Hid (Keep R w u2) := ⟨BN.out.os.trans K1.out.os, BN.out.tape.trans K1.out.tape, BN.out.output.trans K1.out.output, Nat.le_trans K1.out.size BN.out.size, fun k hk hne => (BN.out.block k hk).trans (K1.out.block k hk hne)⟩
      have HN : Hid (Rd R (q + 3 * (j + 1)) u2) := (H1.out.below (below_low BN.out hR)).mono (by omega)
      have EN : Hid ((xs ++ [y]).length = j + 1) := show _ = _ by rw [List.length_append, EL.out]; rfl
      clear O1 K1 H1 C1 L1 LO BN EL
      go_wp2
      exact ⟨⟨j + 1, cp2, G2, _, by omega, by go_num, rfl, EN, ON, HN, KN⟩, by simp [intOf]; omega⟩
    · obtain rfl : j = N := by omega
      go_wp2
      go_ret
      exact ⟨g, cap, xs, rfl, EL.out, OO.out, HH.out, KK.out⟩
set_option maxRecDepth 8000 in
set_option maxHeartbeats 8000000 in
theorem drawEval (a : Option Addr) (len cap : Nat) (w : World) (hlc : len ≤ cap) (hm : cap ≤ maxLen) (hc : Code w a len) :
    Calls Tryz.prog 7 #[.slice a len cap] w fun e w' => ∃ a1 c1 ps g n c2 xs B1 B2, e = .returned (.tuple #[.agg #[.slice a1 (List.length ps) c1], .slice (some ⟨g, 0, none⟩) n c2]) ∧ xs.length = n ∧ n ≤ 7 ∧ PRow w' B1 (.slice a1 ps.length c1) ps ∧ Row w' B2 (.slice (some ⟨g, 0, none⟩) n c2) xs ∧ Below w.heap.size w w' := by
  have bV : Below w.heap.size w (w.alloc (.cells #[.slice none 0 0] 25)) := alloc_below _ _
  have Z4 := hide (Rec.new w [.slice none 0 0] 25)
  have HC := hide (hc.below bV)
  have BW := hide bV
  clear hc bV
  go_enter Tryz.func7, Tryz.ntmps7
  go_wp2_with fail
  generalize (w.alloc (.cells #[.slice none 0 0] 25)) = va at Z4 BW HC ⊢
  refine (openRd a len cap va hlc hm HC.out).mono ?_
  rintro e vb ⟨R, rfl, hRl, h1, b1⟩
  have L4 := Z4.out.lt
  replace Z4 := hide (Z4.out.below b1)
  replace BW := hide (BW.out.trans (b1.mono BW.out.size))
  have LB : va.heap.size ≤ vb.heap.size := b1.size
  clear b1 HC
  go_wp2_with fail
  refine (pick R 0 7 vb h1 (by omega)).mono ?_
  rintro e vc ⟨x, rfl, x0, x1, -, h2, k1⟩
  obtain ⟨N, rfl⟩ : ∃ N : Nat, x = N := ⟨x.toNat, by omega⟩
  have N6 : N ≤ 6 := by have := x1 (by omega); omega
  have hRv : R < vb.heap.size := h1.lt
  have LC : vb.heap.size ≤ vc.heap.size := k1.size
  replace Z4 := hide (rec_keep Z4.out k1 (by omega))
  replace BW := hide (BW.out.trans (k1.below (by omega) BW.out.size))
  clear k1 h1 x0 x1
  go_wp2_with fail
  refine (words R 1 N vc h2 (by omega) (by omega)).mono ?_
  rintro e vd ⟨g, c2, xs, rfl, lx, OO, h3, k1⟩
  have LD : vc.heap.size ≤ vd.heap.size := k1.size
  replace Z4 := hide (rec_keep Z4.out k1 (by omega))
  replace BW := hide (BW.out.trans (k1.below (by omega) BW.out.size))
  replace OO := hide OO
  have HL := hide lx
  clear k1 h2 lx
  go_wp2_with fail
  refine (odd R (1 + 3 * N) 14 vd h3 (by omega) (by omega) (by omega)).mono ?_
  rintro e ve ⟨bb, rfl, h4, k1⟩
  have LE : vd.heap.size ≤ ve.heap.size := k1.size
  replace Z4 := hide (rec_keep Z4.out k1 (by omega))
  replace BW := hide (BW.out.trans (k1.below (by omega) BW.out.size))
  replace OO := hide (own_step OO.out k1 (by omega))
  have H4 := hide (show Rd R 20 ve from h4.mono (by omega))
  clear k1 h3 h4
  cases bb with
  | false =>
    go_wp2_with fail
    refine (polyOr R 20 9 ve H4.out (by omega) (by omega) (by omega)).mono ?_
    rintro e vf ⟨a1, c1, ps, rfl, P1, -, k2⟩
    have Z4n := rec_keep Z4.out k2 (by omega)
    have B2 := BW.out.trans (k2.below (by omega) BW.out.size)
    have O2 := own_step OO.out k2 (by omega)
    have z4 := Z4n.cell 0 _ rfl
    have s4 := Z4n.soft 0
    have t1 := set_turn w.heap.size vf 0 (.slice a1 ps.length c1)
    have F1 := hide (Z4n.set 0 (.slice a1 ps.length c1) (by simp) (show _ = [.slice a1 ps.length c1] from rfl))
    have F3 := hide (P1.set t1 (by omega)).read
    have F4 := hide (La.own_read (O2.set ⟨w.heap.size, 0, none⟩ (.slice a1 ps.length c1) (by show w.heap.size ≠ _; exact (own_ne O2 (by omega))) (own_lt O2)) (by simp))
    have F5 := hide (B2.setCell (p := ⟨w.heap.size, 0, none⟩) (Nat.le_refl _) (.slice a1 ps.length c1))
    clear Z4 Z4n P1 k2 t1 BW B2 O2 OO H4
    go_wp2
    generalize vf.setCell ⟨w.heap.size, 0, none⟩ (.slice a1 ps.length c1) = U at F1 F3 F4 F5 ⊢
    have y4 := F1.out.cell 0 _ rfl
    obtain ⟨B1, r1⟩ := F3.out
    obtain ⟨B2, r2⟩ := F4.out
    exact bodyPost_ret (v := .tuple #[.agg #[.slice a1 ps.length c1], .slice (some ⟨g, 0, none⟩) N c2]) (by simp [results, Tryz.results7, go_sem, y4]) rfl ⟨a1, c1, ps, g, N, c2, xs, B1, B2, rfl, HL.out, by omega, r1, r2, F5.out⟩
  | true =>
    have b1 := alloc_below ve (.cells #[.int .i64 (-1)] 3)
    have O1 := hide (La.own_below OO.out b1)
    have H1 := hide (H4.out.below (b1.mono (by have := H4.out.lt; omega)))
    have C1 : Hid ((ve.alloc (.cells #[.int .i64 (-1)] 3)).cell? ((⟨ve.heap.size, 0, none⟩ : Addr).add 0) = some (.int .i64 (-1))) := show _ = _ by rw [Go.WideShapes.add_plain]; simp
    have L1 : Hid (xs.length ≤ 1000000) := show _ ≤ _ by rw [HL.out]; omega
    have LO : Hid (vc.heap.size ≤ (ve.alloc (.cells #[.int .i64 (-1)] 3)).heap.size) := show _ ≤ _ by have := b1.size; omega
    replace BW := hide (BW.out.trans (b1.mono BW.out.size))
    replace Z4 := hide (Z4.out.below b1)
    clear OO H4 b1
    go_wp2_with (at_builtin; refine wpList_pushI rfl _ _ rfl vc.heap.size (.slice (some ⟨g, 0, none⟩) N c2) xs rfl O1.out LO.out ⟨ve.heap.size, 0, none⟩ (-1) rfl C1.out L1.out ?_; intro G2 cp2 u2 hO hb _; rw [HL.out] at hO ⊢; have ON := hide hO.out; have BN := hide hb.out; clear hO hb; refine Hid.out ?_)
    refine hide ?_
    have OO := ON
    have H4 := hide (H1.out.below (below_low BN.out (by omega)))
    have BW2 := hide (BW.out.trans ((BN.out.mono (show w.heap.size ≤ vc.heap.size by omega))))
    have Z42 := hide (Z4.out.keep (S := fun k => vc.heap.size ≤ k) ⟨BN.out.os, BN.out.tape, BN.out.output, BN.out.size, fun k _ hk => BN.out.block k (by omega)⟩ (show ¬ vc.heap.size ≤ w.heap.size by omega))
    clear BW Z4
    have BW := BW2
    have Z4 := Z42
    have HL2 : Hid ((xs ++ [(-1 : Int)]).length = N + 1) := show _ = _ by rw [List.length_append, HL.out]; rfl
    clear HL
    have HL := HL2
    have LU : ve.heap.size + 1 ≤ u2.heap.size := by have := BN.out.size; simpa using this
    clear BW2 Z42 HL2 O1 H1 C1 L1 LO BN ON
    go_wp2_with fail
    refine (polyOr R 20 9 u2 H4.out (by omega) (by omega) (by omega)).mono ?_
    rintro e vf ⟨a1, c1, ps, rfl, P1, -, k2⟩
    have Z4n := rec_keep Z4.out k2 (by omega)
    have B2 := BW.out.trans (k2.below (by omega) BW.out.size)
    have O2 := own_step OO.out k2 (by omega)
    have z4 := Z4n.cell 0 _ rfl
    have s4 := Z4n.soft 0
    have t1 := set_turn w.heap.size vf 0 (.slice a1 ps.length c1)
    have F1 := hide (Z4n.set 0 (.slice a1 ps.length c1) (by simp) (show _ = [.slice a1 ps.length c1] from rfl))
    have F3 := hide (P1.set t1 (by omega)).read
    have F4 := hide (La.own_read (O2.set ⟨w.heap.size, 0, none⟩ (.slice a1 ps.length c1) (by show w.heap.size ≠ _; exact (own_ne O2 (by omega))) (own_lt O2)) (by simp))
    have F5 := hide (B2.setCell (p := ⟨w.heap.size, 0, none⟩) (Nat.le_refl _) (.slice a1 ps.length c1))
    clear Z4 Z4n P1 k2 t1 BW B2 O2 OO H4
    go_wp2
    generalize vf.setCell ⟨w.heap.size, 0, none⟩ (.slice a1 ps.length c1) = U at F1 F3 F4 F5 ⊢
    have y4 := F1.out.cell 0 _ rfl
    obtain ⟨B1, r1⟩ := F3.out
    obtain ⟨B2, r2⟩ := F4.out
    exact bodyPost_ret (v := .tuple #[.agg #[.slice a1 ps.length c1], .slice (some ⟨G2, 0, none⟩) (N + 1) cp2]) (by simp [results, Tryz.results7, go_sem, y4]) rfl ⟨a1, c1, ps, G2, (N + 1), cp2, (xs ++ [-1]), B1, B2, rfl, HL.out, by omega, r1, r2, F5.out⟩
end Go.Proofs.YtckhfpaicnjknaaGreat.Draw
