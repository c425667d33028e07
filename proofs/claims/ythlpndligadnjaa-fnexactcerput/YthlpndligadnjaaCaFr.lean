/-
  Pairs: the program's CerPut.
-/
import Derived.Test.YthlpndligadnjaaCaCr
import Derived.Test.YthlpndligadnjaaCaDr
import Derived.Test.YthlpndligadnjaaCaE
namespace Go.Proofs.Ythlpndligadnjaa.Dt
set_option linter.unusedVariables false
set_option linter.unusedSimpArgs false
open Go.ChangeShapes Go.WideShapes Go.ChangeAt Go.RowKit IntS Pol Push Flat Irk
open Ir (Opn Bk bv ORow WORow RBk WBk OpAt SoftAt)
set_option maxRecDepth 8000 in
set_option maxHeartbeats 16000000 in
theorem implCerPut (xs : List (Int × Int × List Opn × Int × Int × Int × Int × Int × Int × List Opn × Int × Int × Int × Int)) (b0 : Int) (b1 : Int) (y2 : List Opn) (b3 : Int) (b4 : Int) (b5 : Int) (b6 : Int) (b7 : Int) (b8 : Int) (y9 : List Opn) (b10 : Int) (b11 : Int) (b12 : Int) (b13 : Int) (p2 : Option Addr) (r2 : Nat) (p9 : Option Addr) (r9 : Nat) (v : Value) (w : World) (h : cerK.rd w v xs) (hs : cerK.sz xs ≤ 1048576) (hy2 : opsK.rd w (.slice p2 y2.length r2) y2) (s2 : y2.length ≤ 1048576) (hy9 : opsK.rd w (.slice p9 y9.length r9) y9) (s9 : y9.length ≤ 1048576) :
    Calls Try.prog 37 #[v, .agg #[.int .i64 b0, .int .i64 b1, .slice p2 y2.length r2, .int .i64 b3, .int .i64 b4, .int .i64 b5, .int .i64 b6, .int .i64 b7, .int .i64 b8, .slice p9 y9.length r9, .int .i64 b10, .int .i64 b11, .int .i64 b12, .int .i64 b13]] w fun e w' => ∃ q c, e = .returned (.slice q (putP xs (b0, b1, y2, b3, b4, b5, b6, b7, b8, y9, b10, b11, b12, b13)).length c) ∧ cerK.ow w' (New w w') (.slice q (putP xs (b0, b1, y2, b3, b4, b5, b6, b7, b8, y9, b10, b11, b12, b13)).length c) (putP xs (b0, b1, y2, b3, b4, b5, b6, b7, b8, y9, b10, b11, b12, b13)) ∧ Below w.heap.size w w' := by
  have HYR := hide (cerR_mk (w := w) (a0 := b0) (a1 := b1) (x2 := y2) (a3 := b3) (a4 := b4) (a5 := b5) (a6 := b6) (a7 := b7) (a8 := b8) (x9 := y9) (a10 := b10) (a11 := b11) (a12 := b12) (a13 := b13) hy2 hy9)
  have SYR : Hid (cerR.sz (b0, b1, y2, b3, b4, b5, b6, b7, b8, y9, b10, b11, b12, b13) ≤ 2097152) := show _ ≤ _ by
    rw [cerR_sz]
    rw [show opsK.sz y2 = y2.length from rfl]; rw [show opsK.sz y9 = y9.length from rfl]
    omega
  have SM : Hid (∀ (i : Nat) x, xs[i]? = some x → cerR.sz x ≤ 1048576) := fun i x hx => by have h1 := sum_one (f := cerR.sz) hx; have h2 : cerK.sz xs = xs.length + sum cerR.sz xs := rfl; omega
  have LN0 : xs.length ≤ 1048576 := by have h2 : cerK.sz xs = xs.length + sum cerR.sz xs := rfl; omega
  obtain ⟨a, cap0, B, off, rfl, h2, h3, hz, h4⟩ := h
  unfold maxLen at h3
  clear hz hs
  obtain ⟨n, en⟩ : ∃ n, xs.length = n := ⟨_, rfl⟩
  have EN := hide en
  rw [en] at h2 LN0
  have H4 := hide h4
  clear h4
  obtain ⟨M, eM⟩ : ∃ M, putP xs (b0, b1, y2, b3, b4, b5, b6, b7, b8, y9, b10, b11, b12, b13) = M := ⟨_, rfl⟩
  rw [eM]
  replace eM : lastN 3 (xs ++ [(b0, b1, y2, b3, b4, b5, b6, b7, b8, y9, b10, b11, b12, b13)]) = M := eM
  have EM := hide eM
  have bx0 := boxC w (.cells #[.int .i64 b0, .int .i64 b1, .slice p2 y2.length r2, .int .i64 b3, .int .i64 b4, .int .i64 b5, .int .i64 b6, .int .i64 b7, .int .i64 b8, .slice p9 y9.length r9, .int .i64 b10, .int .i64 b11, .int .i64 b12, .int .i64 b13] 66)
  have b1x := boxC (w.alloc (.cells #[.int .i64 b0, .int .i64 b1, .slice p2 y2.length r2, .int .i64 b3, .int .i64 b4, .int .i64 b5, .int .i64 b6, .int .i64 b7, .int .i64 b8, .slice p9 y9.length r9, .int .i64 b10, .int .i64 b11, .int .i64 b12, .int .i64 b13] 66)) (.cells #[.int .i64 3, .slice none 0 0, .int .i64 0] 90)
  have RB0 := hide ((Rec.new w [.int .i64 b0, .int .i64 b1, .slice p2 y2.length r2, .int .i64 b3, .int .i64 b4, .int .i64 b5, .int .i64 b6, .int .i64 b7, .int .i64 b8, .slice p9 y9.length r9, .int .i64 b10, .int .i64 b11, .int .i64 b12, .int .i64 b13] 66).alloc (.cells #[.int .i64 3, .slice none 0 0, .int .i64 0] 90))
  have e1 : (w.alloc (.cells #[.int .i64 b0, .int .i64 b1, .slice p2 y2.length r2, .int .i64 b3, .int .i64 b4, .int .i64 b5, .int .i64 b6, .int .i64 b7, .int .i64 b8, .slice p9 y9.length r9, .int .i64 b10, .int .i64 b11, .int .i64 b12, .int .i64 b13] 66)).heap.size = w.heap.size + 1 := by simp
  have RG1 := Rec.new (w.alloc (.cells #[.int .i64 b0, .int .i64 b1, .slice p2 y2.length r2, .int .i64 b3, .int .i64 b4, .int .i64 b5, .int .i64 b6, .int .i64 b7, .int .i64 b8, .slice p9 y9.length r9, .int .i64 b10, .int .i64 b11, .int .i64 b12, .int .i64 b13] 66)) [.int .i64 3, .slice none 0 0, .int .i64 0] 90
  rw [e1] at RG1
  have BW0 := hide (bx0.trans (b1x.mono bx0.size))
  have RI0 : Hid (Ring (seen cerR) 66 ((w.alloc (.cells #[.int .i64 b0, .int .i64 b1, .slice p2 y2.length r2, .int .i64 b3, .int .i64 b4, .int .i64 b5, .int .i64 b6, .int .i64 b7, .int .i64 b8, .slice p9 y9.length r9, .int .i64 b10, .int .i64 b11, .int .i64 b12, .int .i64 b13] 66)).alloc (.cells #[.int .i64 3, .slice none 0 0, .int .i64 0] 90)) (w.heap.size + 1) (fun b => b < w.heap.size + 1) (w.heap.size + 1) 3 0 none 0 []) := ⟨RG1, Nat.le_refl _, Nat.le_refl _, by unfold maxLen; omega, Or.inl ⟨by decide, rfl, _, SL.nil _ _ _ _ _⟩, (fun G e => by cases e), Nat.lt_irrefl _⟩
  clear eM bx0 b1x e1 en RG1 hy2 hy9
  go_enter Try.func37, Try.ntmps37
  go_wp2
  rw [EN.out]
  generalize (w.alloc (.cells #[.int .i64 b0, .int .i64 b1, .slice p2 y2.length r2, .int .i64 b3, .int .i64 b4, .int .i64 b5, .int .i64 b6, .int .i64 b7, .int .i64 b8, .slice p9 y9.length r9, .int .i64 b10, .int .i64 b11, .int .i64 b12, .int .i64 b13] 66)).alloc (.cells #[.int .i64 3, .slice none 0 0, .int .i64 0] 90) = W0 at RB0 BW0 RI0 ⊢
  go_loopw [11] (fun i wr => ∃ (k f cap : Nat) (q : Option Addr) (ks : List (Int × Int × List Opn × Int × Int × Int × Int × Int × Int × List Opn × Int × Int × Int × Int)), k ≤ n ∧ i = .int .i64 k ∧ Hid (Ring (seen cerR) 66 wr (w.heap.size + 1) (fun b => b < w.heap.size + 1) (w.heap.size + 1) 3 f q cap ks) ∧ Hid (logic ks f = lastN 3 (xs.take k)) ∧ Hid (Rec w.heap.size [.int .i64 b0, .int .i64 b1, .slice p2 y2.length r2, .int .i64 b3, .int .i64 b4, .int .i64 b5, .int .i64 b6, .int .i64 b7, .int .i64 b8, .slice p9 y9.length r9, .int .i64 b10, .int .i64 b11, .int .i64 b12, .int .i64 b13] wr) ∧ Hid (Below w.heap.size w wr)) (fun i _ => n - (intOf i).toNat)
  case atStart => exact ⟨0, 0, 0, none, [], by omega, rfl, RI0, rfl, RB0, BW0⟩
  case round =>
    clear RB0 BW0 RI0
    obtain ⟨k, f, cap, q, ks, hk, rfl, RI, LG, RB, BW⟩ := hrel
    by_cases hlt : k < n
    case pos =>
      obtain ⟨x, et⟩ : ∃ x, xs[k]? = some x := ⟨_, List.getElem?_eq_getElem (by rw [EN.out]; exact hlt)⟩
      obtain ⟨rfl, hc⟩ := H4.out.resolve_left (fun e => by rw [e] at et; simp at et)
      obtain ⟨ds, cc, hx⟩ := hc k x et
      have SX := SM.out k x et
      have ET := hide et
      replace cc := cc.below BW.out
      have HX0 := hide hx
      replace hx := cerR.rb hx BW.out
      obtain ⟨a0, a1, x2, a3, a4, a5, a6, a7, a8, x9, a10, a11, a12, a13⟩ := x
      obtain ⟨q2, c2, q9, c9, rfl, k2, k9⟩ := cerR_rd hx
      rw [cerR_sz] at SX
      rw [show opsK.sz x2 = x2.length from rfl] at SX
      rw [show opsK.sz x9 = x9.length from rfl] at SX
      have S2 : Hid (x2.length ≤ 2097152) := show _ ≤ _ by omega
      have S9 : Hid (x9.length ≤ 2097152) := show _ ≤ _ by omega
      have lk : ((k : Nat) : Int) < (n : Nat) := by omega
      have CC : CellsAt wr B (off + k * 14) [.int .i64 a0, .int .i64 a1, .slice q2 x2.length c2, .int .i64 a3, .int .i64 a4, .int .i64 a5, .int .i64 a6, .int .i64 a7, .int .i64 a8, .slice q9 x9.length c9, .int .i64 a10, .int .i64 a11, .int .i64 a12, .int .i64 a13] := cc
      clear et hc hx SX cc
      have z0 : wr.cell? ⟨B, off + k * 14, none⟩ = some _ := CC 0 _ rfl
      have z1 : wr.cell? ⟨B, off + k * 14 + 1, none⟩ = some _ := CC 1 _ rfl
      have z2 : wr.cell? ⟨B, off + k * 14 + 2, none⟩ = some _ := CC 2 _ rfl
      have z3 : wr.cell? ⟨B, off + k * 14 + 3, none⟩ = some _ := CC 3 _ rfl
      have z4 : wr.cell? ⟨B, off + k * 14 + 4, none⟩ = some _ := CC 4 _ rfl
      have z5 : wr.cell? ⟨B, off + k * 14 + 5, none⟩ = some _ := CC 5 _ rfl
      have z6 : wr.cell? ⟨B, off + k * 14 + 6, none⟩ = some _ := CC 6 _ rfl
      have z7 : wr.cell? ⟨B, off + k * 14 + 7, none⟩ = some _ := CC 7 _ rfl
      have z8 : wr.cell? ⟨B, off + k * 14 + 8, none⟩ = some _ := CC 8 _ rfl
      have z9 : wr.cell? ⟨B, off + k * 14 + 9, none⟩ = some _ := CC 9 _ rfl
      have z10 : wr.cell? ⟨B, off + k * 14 + 10, none⟩ = some _ := CC 10 _ rfl
      have z11 : wr.cell? ⟨B, off + k * 14 + 11, none⟩ = some _ := CC 11 _ rfl
      have z12 : wr.cell? ⟨B, off + k * 14 + 12, none⟩ = some _ := CC 12 _ rfl
      have z13 : wr.cell? ⟨B, off + k * 14 + 13, none⟩ = some _ := CC 13 _ rfl
      have bo : Below wr.heap.size wr (wr.alloc (.cells #[.int .i64 a0, .int .i64 a1, .slice q2 x2.length c2, .int .i64 a3, .int .i64 a4, .int .i64 a5, .int .i64 a6, .int .i64 a7, .int .i64 a8, .slice q9 x9.length c9, .int .i64 a10, .int .i64 a11, .int .i64 a12, .int .i64 a13] 66)) := boxC _ _
      have RX := hide (Rec.new wr [.int .i64 a0, .int .i64 a1, .slice q2 x2.length c2, .int .i64 a3, .int .i64 a4, .int .i64 a5, .int .i64 a6, .int .i64 a7, .int .i64 a8, .slice q9 x9.length c9, .int .i64 a10, .int .i64 a11, .int .i64 a12, .int .i64 a13] 66)
      have LR : w.heap.size + 1 < wr.heap.size := RI.out.box.lt
      have LB : Hid (w.heap.size + 1 ≤ (wr.alloc (.cells #[.int .i64 a0, .int .i64 a1, .slice q2 x2.length c2, .int .i64 a3, .int .i64 a4, .int .i64 a5, .int .i64 a6, .int .i64 a7, .int .i64 a8, .slice q9 x9.length c9, .int .i64 a10, .int .i64 a11, .int .i64 a12, .int .i64 a13] 66)).heap.size) := show _ ≤ _ by have := bo.size; omega
      have HX := hide (seen_mk (R := cerR) (A := (fun b => b < w.heap.size + 1)) HX0.out (fun b hb => show b < w.heap.size + 1 by omega) (BW.out.trans (bo.mono BW.out.size)))
      have BWB := hide (BW.out.trans (bo.mono BW.out.size))
      have RBB := hide (RB.out.below bo)
      have RI2 := hide (RI.out.below bo)
      clear bo LR CC k2 k9
      have FY : Hid ((xs.take k) ++ [(a0, a1, x2, a3, a4, a5, a6, a7, a8, x9, a10, a11, a12, a13)] = (xs.take (k + 1))) := show _ = _ by rw [List.take_add_one, ET.out]; rfl
      clear RI RB BW
      go_wp2_with fail
      refine (putCerPair 3 f cap (w.heap.size + 1) (w.heap.size + 1) q (fun b => b < w.heap.size + 1) ks a0 a1 x2 a3 a4 a5 a6 a7 a8 x9 a10 a11 a12 a13 _ _ _ _ _ RI2.out HX.out (fun b hb => hb) LB.out (by decide) (by decide)).mono ?_
      rintro e u ⟨rfl, ⟨f', q', cap', ks', RI', LG'⟩, hb⟩
      have BW2 := hide (BWB.out.trans (hb.mono (by omega)))
      have RB2 := hide (rec_low9 RBB.out hb (by omega))
      have RI3 := hide RI'
      have LG3 : Hid (logic ks' f' = lastN 3 (xs.take (k + 1))) := show _ = _ by rw [LG', LG.out, lastN_more, FY.out]
      clear RI' LG' hb RI2 HX LB BWB RBB FY LG RX
      go_wp2
      exact ⟨⟨k + 1, f', cap', q', ks', by omega, by go_num, RI3, LG3, RB2, BW2⟩, by simp [intOf]; omega⟩
    obtain rfl : k = n := by omega
    have FE : Hid ((xs.take k) = xs) := show _ = _ by rw [List.take_of_length_le (by rw [EN.out]; exact Nat.le_refl _)]
    rw [FE.out] at LG
    have LB : Hid (w.heap.size + 1 < wr.heap.size) := RI.out.box.lt
    have HX := hide (seen_mk (R := cerR) (A := (fun b => b < w.heap.size + 1)) HYR.out (fun b hb => show b < w.heap.size + 1 by omega) BW.out)
    have SMF : Hid (∀ (i : Nat) x, M[i]? = some x → cerR.sz x ≤ 2097152) := fun i x hx => by
      rw [← EM.out] at hx
      have h1 : x ∈ xs ++ [(b0, b1, y2, b3, b4, b5, b6, b7, b8, y9, b10, b11, b12, b13)] := List.mem_of_mem_drop (List.mem_of_getElem? hx)
      rcases List.mem_append.1 h1 with h2 | h2
      · obtain ⟨j, hj⟩ := List.mem_iff_getElem?.1 h2
        exact Nat.le_trans (SM.out j x hj) (by omega)
      · obtain rfl := List.mem_singleton.1 h2
        exact SYR.out
    clear FE SM H4
    have y0c := RB.out.cell 0 _ rfl
    have y1c := RB.out.cell 1 _ rfl
    have y2c := RB.out.cell 2 _ rfl
    have y3c := RB.out.cell 3 _ rfl
    have y4c := RB.out.cell 4 _ rfl
    have y5c := RB.out.cell 5 _ rfl
    have y6c := RB.out.cell 6 _ rfl
    have y7c := RB.out.cell 7 _ rfl
    have y8c := RB.out.cell 8 _ rfl
    have y9c := RB.out.cell 9 _ rfl
    have y10c := RB.out.cell 10 _ rfl
    have y11c := RB.out.cell 11 _ rfl
    have y12c := RB.out.cell 12 _ rfl
    have y13c := RB.out.cell 13 _ rfl
    go_wp2_with fail
    refine (putCerPair 3 f cap (w.heap.size + 1) (w.heap.size + 1) q (fun b => b < w.heap.size + 1) ks b0 b1 y2 b3 b4 b5 b6 b7 b8 y9 b10 b11 b12 b13 _ _ _ _ _ RI.out HX.out (fun b hb => hb) (Nat.le_of_lt LB.out) (by decide) (by decide)).mono ?_
    rintro e u ⟨rfl, ⟨f', q', cap', ks', RI', LG'⟩, hb⟩
    have LG3 : Hid (logic ks' f' = M) := show _ = _ by rw [LG', LG.out, lastN_more, EM.out]
    have BW2 := hide (BW.out.trans (hb.mono (by omega)))
    have RI3 := hide RI'
    have LU : Hid (wr.heap.size ≤ u.heap.size) := hb.size
    clear RI' LG' hb RI HX BW RB LG y0c y1c y2c y3c y4c y5c y6c y7c y8c y9c y10c y11c y12c y13c
    go_wp2_with fail
    refine (toldCerPair 3 f' cap' (w.heap.size + 1) (w.heap.size + 1) q' (fun b => b < w.heap.size + 1) ks' _ RI3.out (fun b hb => hb) (Or.inl (by decide)) (by decide) (by rw [LG3.out]; exact SMF.out)).mono ?_
    rintro e u2 ⟨q9, c9, rfl, OW, hb⟩
    rw [LG3.out] at OW ⊢
    have FIN := hide (cerK.ov (A' := New w u2) OW (fun b h => ⟨by have := h.1; have := LB.out; have := LU.out; omega, h.2⟩))
    have BF := hide (BW2.out.trans (hb.mono (by have := LB.out; have := LU.out; omega)))
    clear OW hb RI3 BW2 SMF LG3
    go_wp2
    go_ret
    exact ⟨q9, c9, rfl, FIN.out, BF.out⟩
end Go.Proofs.Ythlpndligadnjaa.Dt
