/-
  Pairs: the specification's CerPut.
-/
import Derived.Test.YthlpndligadnjaaCaE
namespace Go.Proofs.Ythlpndligadnjaa.Dt
set_option linter.unusedVariables false
set_option linter.unusedSimpArgs false
open Go.ChangeShapes Go.WideShapes Go.ChangeAt Go.RowKit IntS Pol Push Flat Irk
open Ir (Opn Bk bv ORow WORow RBk WBk OpAt SoftAt)
set_option maxRecDepth 8000 in
set_option maxHeartbeats 16000000 in
theorem specCerPut (xs : List (Int × Int × List Opn × Int × Int × Int × Int × Int × Int × List Opn × Int × Int × Int × Int)) (b0 : Int) (b1 : Int) (y2 : List Opn) (b3 : Int) (b4 : Int) (b5 : Int) (b6 : Int) (b7 : Int) (b8 : Int) (y9 : List Opn) (b10 : Int) (b11 : Int) (b12 : Int) (b13 : Int) (p2 : Option Addr) (r2 : Nat) (p9 : Option Addr) (r9 : Nat) (v : Value) (w : World) (h : cerK.rd w v xs) (hs : cerK.sz xs ≤ 1048576) (hy2 : opsK.rd w (.slice p2 y2.length r2) y2) (s2 : y2.length ≤ 2097152) (hy9 : opsK.rd w (.slice p9 y9.length r9) y9) (s9 : y9.length ≤ 2097152) :
    Calls Try.prog 35 #[v, .agg #[.int .i64 b0, .int .i64 b1, .slice p2 y2.length r2, .int .i64 b3, .int .i64 b4, .int .i64 b5, .int .i64 b6, .int .i64 b7, .int .i64 b8, .slice p9 y9.length r9, .int .i64 b10, .int .i64 b11, .int .i64 b12, .int .i64 b13]] w fun e w' => ∃ q c, e = .returned (.slice q (putP xs (b0, b1, y2, b3, b4, b5, b6, b7, b8, y9, b10, b11, b12, b13)).length c) ∧ cerK.ow w' (New w w') (.slice q (putP xs (b0, b1, y2, b3, b4, b5, b6, b7, b8, y9, b10, b11, b12, b13)).length c) (putP xs (b0, b1, y2, b3, b4, b5, b6, b7, b8, y9, b10, b11, b12, b13)) ∧ Below w.heap.size w w' := by
  have SM : Hid (∀ (i : Nat) x, xs[i]? = some x → cerR.sz x ≤ 1048576) := fun i x hx => by have h1 := sum_one (f := cerR.sz) hx; have h2 : cerK.sz xs = xs.length + sum cerR.sz xs := rfl; omega
  have LN0 : xs.length ≤ 1048576 := by have h2 : cerK.sz xs = xs.length + sum cerR.sz xs := rfl; omega
  obtain ⟨a, cap0, B, off, rfl, h2, h3, hz, h4⟩ := h
  unfold maxLen at h3
  clear hz hs
  obtain ⟨n, en⟩ : ∃ n, xs.length = n := ⟨_, rfl⟩
  have EN := hide en
  rw [en] at h2 LN0
  have H4 := hide h4
  clear h4
  obtain ⟨M, eM⟩ : ∃ M, putP xs (b0, b1, y2, b3, b4, b5, b6, b7, b8, y9, b10, b11, b12, b13) = M := ⟨_, rfl⟩
  rw [eM]
  replace eM : lastN 3 (xs ++ [(b0, b1, y2, b3, b4, b5, b6, b7, b8, y9, b10, b11, b12, b13)]) = M := eM
  have EM := hide eM
  have bx0 := boxC w (.cells #[.int .i64 b0, .int .i64 b1, .slice p2 y2.length r2, .int .i64 b3, .int .i64 b4, .int .i64 b5, .int .i64 b6, .int .i64 b7, .int .i64 b8, .slice p9 y9.length r9, .int .i64 b10, .int .i64 b11, .int .i64 b12, .int .i64 b13] 66)
  have b1x := boxC (w.alloc (.cells #[.int .i64 b0, .int .i64 b1, .slice p2 y2.length r2, .int .i64 b3, .int .i64 b4, .int .i64 b5, .int .i64 b6, .int .i64 b7, .int .i64 b8, .slice p9 y9.length r9, .int .i64 b10, .int .i64 b11, .int .i64 b12, .int .i64 b13] 66)) (.cells #[] 66)
  have RB0 := hide ((Rec.new w [.int .i64 b0, .int .i64 b1, .slice p2 y2.length r2, .int .i64 b3, .int .i64 b4, .int .i64 b5, .int .i64 b6, .int .i64 b7, .int .i64 b8, .slice p9 y9.length r9, .int .i64 b10, .int .i64 b11, .int .i64 b12, .int .i64 b13] 66).alloc (.cells #[] 66))
  have BW0 := hide (bx0.trans (b1x.mono bx0.size))
  have e1 : (w.alloc (.cells #[.int .i64 b0, .int .i64 b1, .slice p2 y2.length r2, .int .i64 b3, .int .i64 b4, .int .i64 b5, .int .i64 b6, .int .i64 b7, .int .i64 b8, .slice p9 y9.length r9, .int .i64 b10, .int .i64 b11, .int .i64 b12, .int .i64 b13] 66)).heap.size = w.heap.size + 1 := by simp
  have O1 := OF.empty cerR 66 (w.alloc (.cells #[.int .i64 b0, .int .i64 b1, .slice p2 y2.length r2, .int .i64 b3, .int .i64 b4, .int .i64 b5, .int .i64 b6, .int .i64 b7, .int .i64 b8, .slice p9 y9.length r9, .int .i64 b10, .int .i64 b11, .int .i64 b12, .int .i64 b13] 66)) (lo := w.heap.size + 1) (by omega)
  rw [e1] at O1
  have OF0 := hide O1
  have HY2 := hide hy2
  have SY2 : Hid (y2.length ≤ 2097152) := s2
  have HY9 := hide hy9
  have SY9 : Hid (y9.length ≤ 2097152) := s9
  clear eM bx0 b1x e1 O1 en hy2 s2 hy9 s9
  go_enter Try.func35, Try.ntmps35
  go_wp2
  rw [EN.out]
  generalize (w.alloc (.cells #[.int .i64 b0, .int .i64 b1, .slice p2 y2.length r2, .int .i64 b3, .int .i64 b4, .int .i64 b5, .int .i64 b6, .int .i64 b7, .int .i64 b8, .slice p9 y9.length r9, .int .i64 b10, .int .i64 b11, .int .i64 b12, .int .i64 b13] 66)).alloc (.cells #[] 66) = W0 at RB0 BW0 OF0 ⊢
  go_loopw [5, 6] (fun rs i wr => ∃ (k m cap2 : Nat) (q2 : Option Addr), k ≤ n ∧ m ≤ k ∧ i = .int .i64 k ∧ rs = .slice q2 m cap2 ∧ Hid ((xs.take k).length = m) ∧ Hid (OF cerR 66 wr (w.heap.size + 1) q2 cap2 (xs.take k)) ∧ Hid (Rec w.heap.size [.int .i64 b0, .int .i64 b1, .slice p2 y2.length r2, .int .i64 b3, .int .i64 b4, .int .i64 b5, .int .i64 b6, .int .i64 b7, .int .i64 b8, .slice p9 y9.length r9, .int .i64 b10, .int .i64 b11, .int .i64 b12, .int .i64 b13] wr) ∧ Hid (Below w.heap.size w wr)) (fun _ i _ => n - (intOf i).toNat)
  case atStart => exact ⟨0, 0, 0, some ⟨w.heap.size + 1, 0, none⟩, by omega, by omega, rfl, rfl, rfl, OF0, RB0, BW0⟩
  case round =>
    clear OF0 RB0 BW0
    obtain ⟨k, m, cap2, q2, hk, hm, rfl, rfl, ML, OS, RB, BW⟩ := hrel
    by_cases hlt : k < n
    case pos =>
      obtain ⟨x, et⟩ : ∃ x, xs[k]? = some x := ⟨_, List.getElem?_eq_getElem (by rw [EN.out]; exact hlt)⟩
      obtain ⟨rfl, hc⟩ := H4.out.resolve_left (fun e => by rw [e] at et; simp at et)
      obtain ⟨ds, cc, hx⟩ := hc k x et
      have SX := SM.out k x et
      have ET := hide et
      replace cc := cc.below BW.out
      have HX0 := hide hx
      replace hx := cerR.rb hx BW.out
      obtain ⟨a0, a1, x2, a3, a4, a5, a6, a7, a8, x9, a10, a11, a12, a13⟩ := x
      obtain ⟨q2, c2, q9, c9, rfl, k2, k9⟩ := cerR_rd hx
      rw [cerR_sz] at SX
      rw [show opsK.sz x2 = x2.length from rfl] at SX
      rw [show opsK.sz x9 = x9.length from rfl] at SX
      have S2 : Hid (x2.length ≤ 2097152) := show _ ≤ _ by omega
      have S9 : Hid (x9.length ≤ 2097152) := show _ ≤ _ by omega
      have lk : ((k : Nat) : Int) < (n : Nat) := by omega
      have CC : CellsAt wr B (off + k * 14) [.int .i64 a0, .int .i64 a1, .slice q2 x2.length c2, .int .i64 a3, .int .i64 a4, .int .i64 a5, .int .i64 a6, .int .i64 a7, .int .i64 a8, .slice q9 x9.length c9, .int .i64 a10, .int .i64 a11, .int .i64 a12, .int .i64 a13] := cc
      clear et hc hx SX cc

      have K2 := hide k2
      have K9 := hide k9
      have FY : Hid ((xs.take k) ++ [(a0, a1, x2, a3, a4, a5, a6, a7, a8, x9, a10, a11, a12, a13)] = (xs.take (k + 1))) := show _ = _ by rw [List.take_add_one, ET.out]; rfl
      clear k2 k9
      have z0 : wr.cell? ⟨B, off + k * 14, none⟩ = some _ := CC 0 _ rfl
      have z1 : wr.cell? ⟨B, off + k * 14 + 1, none⟩ = some _ := CC 1 _ rfl
      have z2 : wr.cell? ⟨B, off + k * 14 + 2, none⟩ = some _ := CC 2 _ rfl
      have z3 : wr.cell? ⟨B, off + k * 14 + 3, none⟩ = some _ := CC 3 _ rfl
      have z4 : wr.cell? ⟨B, off + k * 14 + 4, none⟩ = some _ := CC 4 _ rfl
      have z5 : wr.cell? ⟨B, off + k * 14 + 5, none⟩ = some _ := CC 5 _ rfl
      have z6 : wr.cell? ⟨B, off + k * 14 + 6, none⟩ = some _ := CC 6 _ rfl
      have z7 : wr.cell? ⟨B, off + k * 14 + 7, none⟩ = some _ := CC 7 _ rfl
      have z8 : wr.cell? ⟨B, off + k * 14 + 8, none⟩ = some _ := CC 8 _ rfl
      have z9 : wr.cell? ⟨B, off + k * 14 + 9, none⟩ = some _ := CC 9 _ rfl
      have z10 : wr.cell? ⟨B, off + k * 14 + 10, none⟩ = some _ := CC 10 _ rfl
      have z11 : wr.cell? ⟨B, off + k * 14 + 11, none⟩ = some _ := CC 11 _ rfl
      have z12 : wr.cell? ⟨B, off + k * 14 + 12, none⟩ = some _ := CC 12 _ rfl
      have z13 : wr.cell? ⟨B, off + k * 14 + 13, none⟩ = some _ := CC 13 _ rfl
      clear CC
      have BV : Below w.heap.size w wr := BW.out
      go_wp2_with fail
      refine (l12Pair a0 a1 x2 a3 a4 a5 a6 a7 a8 x9 a10 a11 a12 a13 _ _ _ _ _ K2.out S2.out K9.out S9.out).mono ?_
      rintro e u ⟨g2, d2, g9, d9, rfl, OW, hb⟩
      have bo : Below u.heap.size u (u.alloc (.cells #[.int .i64 a0, .int .i64 a1, .slice g2 x2.length d2, .int .i64 a3, .int .i64 a4, .int .i64 a5, .int .i64 a6, .int .i64 a7, .int .i64 a8, .slice g9 x9.length d9, .int .i64 a10, .int .i64 a11, .int .i64 a12, .int .i64 a13] 66)) := boxC _ _
      have NR := Rec.new u [.int .i64 a0, .int .i64 a1, .slice g2 x2.length d2, .int .i64 a3, .int .i64 a4, .int .i64 a5, .int .i64 a6, .int .i64 a7, .int .i64 a8, .slice g9 x9.length d9, .int .i64 a10, .int .i64 a11, .int .i64 a12, .int .i64 a13] 66
      have hs1 := hb.size
      have ball : Below wr.heap.size wr (u.alloc (.cells #[.int .i64 a0, .int .i64 a1, .slice g2 x2.length d2, .int .i64 a3, .int .i64 a4, .int .i64 a5, .int .i64 a6, .int .i64 a7, .int .i64 a8, .slice g9 x9.length d9, .int .i64 a10, .int .i64 a11, .int .i64 a12, .int .i64 a13] 66)) := hb.trans (bo.mono hs1)
      have EVO : cerR.ow (u.alloc (.cells #[.int .i64 a0, .int .i64 a1, .slice g2 x2.length d2, .int .i64 a3, .int .i64 a4, .int .i64 a5, .int .i64 a6, .int .i64 a7, .int .i64 a8, .slice g9 x9.length d9, .int .i64 a10, .int .i64 a11, .int .i64 a12, .int .i64 a13] 66)) (New wr (u.alloc (.cells #[.int .i64 a0, .int .i64 a1, .slice g2 x2.length d2, .int .i64 a3, .int .i64 a4, .int .i64 a5, .int .i64 a6, .int .i64 a7, .int .i64 a8, .slice g9 x9.length d9, .int .i64 a10, .int .i64 a11, .int .i64 a12, .int .i64 a13] 66))) [.int .i64 a0, .int .i64 a1, .slice g2 x2.length d2, .int .i64 a3, .int .i64 a4, .int .i64 a5, .int .i64 a6, .int .i64 a7, .int .i64 a8, .slice g9 x9.length d9, .int .i64 a10, .int .i64 a11, .int .i64 a12, .int .i64 a13] (a0, a1, x2, a3, a4, a5, a6, a7, a8, x9, a10, a11, a12, a13) := cerR.ov (cerR.ob OW bo) (fun b h => ⟨h.1, Nat.lt_of_lt_of_le h.2 bo.size⟩)
      obtain ⟨ti, hi, hz, hsz, hby⟩ := infoCerPair
      obtain ⟨g2, cp9, u6, hrun, O2, BL, -, -⟩ := OS.out.push (P := Try.prog) ball EVO 55 55 Try.underlying55 hi hz hsz hby rfl (by decide) (by decide) ⟨u.heap.size, 0, none⟩ (fun j v hv => by
        rw [Addr.add_lit, Nat.zero_add]
        exact NR.cell j v hv) (fun v hv => by simp at hv; rcases hv with rfl | rfl | rfl | rfl | rfl | rfl | rfl | rfl | rfl | rfl | rfl | rfl | rfl | rfl <;> rfl) (by rw [ML.out]; omega) (by have := RB.out.lt; omega)
      rw [ML.out] at hrun
      rw [FY.out] at O2
      have O3 := hide O2
      have RB3 := hide (rec_low9 (RB.out.below ball) BL (by omega))
      have BD3 := hide ((BW.out.trans (ball.mono BW.out.size)).trans (BL.mono (by omega)))
      have ML3 : Hid ((xs.take (k + 1)).length = m + 1) := show _ = m + 1 by rw [← FY.out, List.length_append, ML.out]; rfl
      clear bo NR hs1 ball EVO hi hz hsz hby O2 BL OW hb K2 K9 OS RB BW BV FY ML
      go_wp2_with (at_builtin; refine Flat.push_list rfl _ _ rfl rfl rfl hrun ?_)
      exact ⟨⟨k + 1, m + 1, cp9, some ⟨g2, 0, none⟩, by omega, by omega, by go_num, rfl, ML3, O3, RB3, BD3⟩, by simp [intOf]; omega⟩
    obtain rfl : k = n := by omega
    have FE : Hid ((xs.take k) = xs) := show _ = _ by rw [List.take_of_length_le (by rw [EN.out]; exact Nat.le_refl _)]
    rw [FE.out] at ML OS
    clear FE SM H4
    have y0c := RB.out.cell 0 _ rfl
    have y1c := RB.out.cell 1 _ rfl
    have y2c := RB.out.cell 2 _ rfl
    have y3c := RB.out.cell 3 _ rfl
    have y4c := RB.out.cell 4 _ rfl
    have y5c := RB.out.cell 5 _ rfl
    have y6c := RB.out.cell 6 _ rfl
    have y7c := RB.out.cell 7 _ rfl
    have y8c := RB.out.cell 8 _ rfl
    have y9c := RB.out.cell 9 _ rfl
    have y10c := RB.out.cell 10 _ rfl
    have y11c := RB.out.cell 11 _ rfl
    have y12c := RB.out.cell 12 _ rfl
    have y13c := RB.out.cell 13 _ rfl
    go_wp2_with fail
    refine (l12Pair b0 b1 y2 b3 b4 b5 b6 b7 b8 y9 b10 b11 b12 b13 _ _ _ _ _ (opsK.rb HY2.out BW.out) SY2.out (opsK.rb HY9.out BW.out) SY9.out).mono ?_
    rintro e u ⟨g2, d2, g9, d9, rfl, OW, hb⟩
    have bo : Below u.heap.size u (u.alloc (.cells #[.int .i64 b0, .int .i64 b1, .slice g2 y2.length d2, .int .i64 b3, .int .i64 b4, .int .i64 b5, .int .i64 b6, .int .i64 b7, .int .i64 b8, .slice g9 y9.length d9, .int .i64 b10, .int .i64 b11, .int .i64 b12, .int .i64 b13] 66)) := boxC _ _
    have NR := Rec.new u [.int .i64 b0, .int .i64 b1, .slice g2 y2.length d2, .int .i64 b3, .int .i64 b4, .int .i64 b5, .int .i64 b6, .int .i64 b7, .int .i64 b8, .slice g9 y9.length d9, .int .i64 b10, .int .i64 b11, .int .i64 b12, .int .i64 b13] 66
    have hs1 := hb.size
    have ball : Below wr.heap.size wr (u.alloc (.cells #[.int .i64 b0, .int .i64 b1, .slice g2 y2.length d2, .int .i64 b3, .int .i64 b4, .int .i64 b5, .int .i64 b6, .int .i64 b7, .int .i64 b8, .slice g9 y9.length d9, .int .i64 b10, .int .i64 b11, .int .i64 b12, .int .i64 b13] 66)) := hb.trans (bo.mono hs1)
    have EVO : cerR.ow (u.alloc (.cells #[.int .i64 b0, .int .i64 b1, .slice g2 y2.length d2, .int .i64 b3, .int .i64 b4, .int .i64 b5, .int .i64 b6, .int .i64 b7, .int .i64 b8, .slice g9 y9.length d9, .int .i64 b10, .int .i64 b11, .int .i64 b12, .int .i64 b13] 66)) (New wr (u.alloc (.cells #[.int .i64 b0, .int .i64 b1, .slice g2 y2.length d2, .int .i64 b3, .int .i64 b4, .int .i64 b5, .int .i64 b6, .int .i64 b7, .int .i64 b8, .slice g9 y9.length d9, .int .i64 b10, .int .i64 b11, .int .i64 b12, .int .i64 b13] 66))) [.int .i64 b0, .int .i64 b1, .slice g2 y2.length d2, .int .i64 b3, .int .i64 b4, .int .i64 b5, .int .i64 b6, .int .i64 b7, .int .i64 b8, .slice g9 y9.length d9, .int .i64 b10, .int .i64 b11, .int .i64 b12, .int .i64 b13] (b0, b1, y2, b3, b4, b5, b6, b7, b8, y9, b10, b11, b12, b13) := cerR.ov (cerR.ob OW bo) (fun b h => ⟨h.1, Nat.lt_of_lt_of_le h.2 bo.size⟩)
    obtain ⟨ti, hi, hz, hsz, hby⟩ := infoCerPair
    obtain ⟨g2, cp9, u6, hrun, O2, BL, -, -⟩ := OS.out.push (P := Try.prog) ball EVO 55 55 Try.underlying55 hi hz hsz hby rfl (by decide) (by decide) ⟨u.heap.size, 0, none⟩ (fun j v hv => by
      rw [Addr.add_lit, Nat.zero_add]
      exact NR.cell j v hv) (fun v hv => by simp at hv; rcases hv with rfl | rfl | rfl | rfl | rfl | rfl | rfl | rfl | rfl | rfl | rfl | rfl | rfl | rfl <;> rfl) (by rw [ML.out]; omega) (by have := RB.out.lt; omega)
    rw [ML.out] at hrun
    have WH := O2.whole
    have lz : (xs ++ [(b0, b1, y2, b3, b4, b5, b6, b7, b8, y9, b10, b11, b12, b13)]).length = m + 1 := by rw [List.length_append, ML.out]; rfl
    rw [lz] at WH
    have g1 : w.heap.size + 1 ≤ u6.heap.size := by have := BW.out.size; have := RB.out.lt; have := ball.size; have := BL.size; omega
    have BF := hide ((BW.out.trans (ball.mono BW.out.size)).trans (BL.mono (by omega)))
    have WF : Hid (cerK.ow u6 (New w u6) (.slice (some ⟨g2, 0, none⟩) (m + 1) cp9) (xs ++ [(b0, b1, y2, b3, b4, b5, b6, b7, b8, y9, b10, b11, b12, b13)])) := (cerK.ov (A' := New w u6) WH (fun b h => ⟨by have := h.1; omega, h.2⟩))
    have cpl : m + 1 ≤ cp9 ∧ cp9 ≤ maxLen := by
      obtain ⟨_, _, _, _, _, e, q⟩ := WH
      injection e with e1 e2 e3
      have := q.le; have := q.mx; omega
    unfold maxLen at cpl
    obtain ⟨cl1, cl2⟩ := cpl
    have LZ := hide lz
    clear bo NR hs1 ball EVO hi hz hsz hby O2 BL OW hb OS RB BW ML WH lz y0c y1c y2c y3c y4c y5c y6c y7c y8c y9c y10c y11c y12c y13c HY2 SY2 HY9 SY9
    by_cases h4 : 3 < m + 1
    · have FIN : Hid (cerK.ow u6 (New w u6) (.slice (some ⟨g2, (m + 1 - 3) * 14, none⟩) M.length (cp9 - (m + 1 - 3))) M ∧ M.length = 3) := by
        have h := LOw.drop (d := m + 1 - 3) WF.out (by rw [LZ.out]; omega)
        rw [show (xs ++ [(b0, b1, y2, b3, b4, b5, b6, b7, b8, y9, b10, b11, b12, b13)]).drop (m + 1 - 3) = M by rw [← EM.out, lastN, LZ.out], show m + 1 - (m + 1 - 3) = 3 by omega] at h
        have e : M.length = 3 := by rw [← EM.out, lastN, List.length_drop, LZ.out]; omega
        rw [e]
        exact ⟨h, rfl⟩
      have f4 : (3 : Int) < ((m : Nat) : Int) + 1 := by omega
      obtain ⟨t, et⟩ : ∃ t, m + 1 - 3 = t := ⟨_, rfl⟩
      rw [et] at FIN
      obtain rfl : m = t + 2 := by omega
      clear WF LZ EM et h4
      go_wp2_with (at_builtin; refine Flat.push_list rfl _ _ rfl rfl rfl hrun ?_)
      go_ret
      have e9 : t + 2 + 1 - 3 = t := by omega
      have e8 : t + 2 + 1 - t = 3 := by omega
      refine ⟨some ⟨g2, t * 14, none⟩, cp9 - t, ?_, FIN.out.1, BF.out⟩
      rw [FIN.out.2]
      show Ending.returned (Value.slice (some ⟨g2, (t + 2 + 1 - 3) * 14, none⟩) (t + 2 + 1 - (t + 2 + 1 - 3)) (cp9 - (t + 2 + 1 - 3))) = _
      rw [e9, e8]
    · have FIN : Hid (cerK.ow u6 (New w u6) (.slice (some ⟨g2, 0, none⟩) M.length cp9) M ∧ M.length = m + 1) := by
        have e : M = xs ++ [(b0, b1, y2, b3, b4, b5, b6, b7, b8, y9, b10, b11, b12, b13)] := by rw [← EM.out]; exact lastN_of_le (by rw [LZ.out]; omega)
        rw [e, LZ.out]
        exact ⟨WF.out, rfl⟩
      have f4 : ¬ (3 : Int) < ((m : Nat) : Int) + 1 := by omega
      clear WF LZ EM h4
      go_wp2_with (at_builtin; refine Flat.push_list rfl _ _ rfl rfl rfl hrun ?_)
      go_ret
      exact ⟨some ⟨g2, 0, none⟩, cp9, (by rw [FIN.out.2]; rfl), FIN.out.1, BF.out⟩
end Go.Proofs.Ythlpndligadnjaa.Dt
