/-
  What is kept: the program's CacPut.
-/
import Derived.Test.YthlpndligadnjaaCaC
import Derived.Test.YthlpndligadnjaaCaD
import Derived.Test.YthlpndligadnjaaCaE
namespace Go.Proofs.Ythlpndligadnjaa.Dt
set_option linter.unusedVariables false
set_option linter.unusedSimpArgs false
open Go.ChangeShapes Go.WideShapes Go.ChangeAt Go.RowKit IntS Pol Push Flat Irk
open Ir (Opn Bk bv ORow WORow RBk WBk OpAt SoftAt)
set_option maxRecDepth 8000 in
set_option maxHeartbeats 16000000 in
theorem implCacPut (xs : List (List Int × Int × Int × List Opn × Int × Int × Int × Int)) (y0 : List Int) (b1 : Int) (b2 : Int) (y3 : List Opn) (b4 : Int) (b5 : Int) (b6 : Int) (b7 : Int) (p0 : Option Addr) (r0 : Nat) (p3 : Option Addr) (r3 : Nat) (v : Value) (w : World) (h : cacK.rd w v xs) (hs : cacK.sz xs ≤ 1048576) (hy0 : intsK.rd w (.slice p0 y0.length r0) y0) (s0 : y0.length ≤ 1048576) (hy3 : opsK.rd w (.slice p3 y3.length r3) y3) (s3 : y3.length ≤ 1048576) :
    Calls Try.prog 16 #[v, .agg #[.slice p0 y0.length r0, .int .i64 b1, .int .i64 b2, .slice p3 y3.length r3, .int .i64 b4, .int .i64 b5, .int .i64 b6, .int .i64 b7]] w fun e w' => ∃ q c, e = .returned (.slice q (putC xs (y0, b1, b2, y3, b4, b5, b6, b7)).length c) ∧ cacK.ow w' (New w w') (.slice q (putC xs (y0, b1, b2, y3, b4, b5, b6, b7)).length c) (putC xs (y0, b1, b2, y3, b4, b5, b6, b7)) ∧ Below w.heap.size w w' := by
  have HYR := hide (cacR_mk (w := w) (x0 := y0) (a1 := b1) (a2 := b2) (x3 := y3) (a4 := b4) (a5 := b5) (a6 := b6) (a7 := b7) hy0 hy3)
  have SYR : Hid (cacR.sz (y0, b1, b2, y3, b4, b5, b6, b7) ≤ 2097152) := show _ ≤ _ by
    rw [cacR_sz]
    rw [ints_sz]; rw [show opsK.sz y3 = y3.length from rfl]
    omega
  have SM : Hid (∀ (i : Nat) x, xs[i]? = some x → cacR.sz x ≤ 1048576) := fun i x hx => by have h1 := sum_one (f := cacR.sz) hx; have h2 : cacK.sz xs = xs.length + sum cacR.sz xs := rfl; omega
  have LN0 : xs.length ≤ 1048576 := by have h2 : cacK.sz xs = xs.length + sum cacR.sz xs := rfl; omega
  obtain ⟨a, cap0, B, off, rfl, h2, h3, hz, h4⟩ := h
  unfold maxLen at h3
  clear hz hs
  obtain ⟨n, en⟩ : ∃ n, xs.length = n := ⟨_, rfl⟩
  have EN := hide en
  rw [en] at h2 LN0
  have H4 := hide h4
  clear h4
  obtain ⟨M, eM⟩ : ∃ M, putC xs (y0, b1, b2, y3, b4, b5, b6, b7) = M := ⟨_, rfl⟩
  rw [eM]
  replace eM : lastN 4 ((xs.filter fun x => x.2.1 != b1) ++ [(y0, b1, b2, y3, b4, b5, b6, b7)]) = M := eM
  have EM := hide eM
  have bx0 := boxC w (.cells #[.slice p0 y0.length r0, .int .i64 b1, .int .i64 b2, .slice p3 y3.length r3, .int .i64 b4, .int .i64 b5, .int .i64 b6, .int .i64 b7] 41)
  have b1x := boxC (w.alloc (.cells #[.slice p0 y0.length r0, .int .i64 b1, .int .i64 b2, .slice p3 y3.length r3, .int .i64 b4, .int .i64 b5, .int .i64 b6, .int .i64 b7] 41)) (.cells #[.int .i64 4, .slice none 0 0, .int .i64 0] 76)
  have RB0 := hide ((Rec.new w [.slice p0 y0.length r0, .int .i64 b1, .int .i64 b2, .slice p3 y3.length r3, .int .i64 b4, .int .i64 b5, .int .i64 b6, .int .i64 b7] 41).alloc (.cells #[.int .i64 4, .slice none 0 0, .int .i64 0] 76))
  have e1 : (w.alloc (.cells #[.slice p0 y0.length r0, .int .i64 b1, .int .i64 b2, .slice p3 y3.length r3, .int .i64 b4, .int .i64 b5, .int .i64 b6, .int .i64 b7] 41)).heap.size = w.heap.size + 1 := by simp
  have RG1 := Rec.new (w.alloc (.cells #[.slice p0 y0.length r0, .int .i64 b1, .int .i64 b2, .slice p3 y3.length r3, .int .i64 b4, .int .i64 b5, .int .i64 b6, .int .i64 b7] 41)) [.int .i64 4, .slice none 0 0, .int .i64 0] 76
  rw [e1] at RG1
  have BW0 := hide (bx0.trans (b1x.mono bx0.size))
  have RI0 : Hid (Ring (seen cacR) 41 ((w.alloc (.cells #[.slice p0 y0.length r0, .int .i64 b1, .int .i64 b2, .slice p3 y3.length r3, .int .i64 b4, .int .i64 b5, .int .i64 b6, .int .i64 b7] 41)).alloc (.cells #[.int .i64 4, .slice none 0 0, .int .i64 0] 76)) (w.heap.size + 1) (fun b => b < w.heap.size + 1) (w.heap.size + 1) 4 0 none 0 []) := ⟨RG1, Nat.le_refl _, Nat.le_refl _, by unfold maxLen; omega, Or.inl ⟨by decide, rfl, _, SL.nil _ _ _ _ _⟩, (fun G e => by cases e), Nat.lt_irrefl _⟩
  clear eM bx0 b1x e1 en RG1 hy0 hy3
  go_enter Try.func16, Try.ntmps16
  go_wp2
  rw [EN.out]
  generalize (w.alloc (.cells #[.slice p0 y0.length r0, .int .i64 b1, .int .i64 b2, .slice p3 y3.length r3, .int .i64 b4, .int .i64 b5, .int .i64 b6, .int .i64 b7] 41)).alloc (.cells #[.int .i64 4, .slice none 0 0, .int .i64 0] 76) = W0 at RB0 BW0 RI0 ⊢
  go_loopw [11] (fun i wr => ∃ (k f cap : Nat) (q : Option Addr) (ks : List (List Int × Int × Int × List Opn × Int × Int × Int × Int)), k ≤ n ∧ i = .int .i64 k ∧ Hid (Ring (seen cacR) 41 wr (w.heap.size + 1) (fun b => b < w.heap.size + 1) (w.heap.size + 1) 4 f q cap ks) ∧ Hid (logic ks f = lastN 4 ((xs.take k).filter fun x => x.2.1 != b1)) ∧ Hid (Rec w.heap.size [.slice p0 y0.length r0, .int .i64 b1, .int .i64 b2, .slice p3 y3.length r3, .int .i64 b4, .int .i64 b5, .int .i64 b6, .int .i64 b7] wr) ∧ Hid (Below w.heap.size w wr)) (fun i _ => n - (intOf i).toNat)
  case atStart => exact ⟨0, 0, 0, none, [], by omega, rfl, RI0, rfl, RB0, BW0⟩
  case round =>
    clear RB0 BW0 RI0
    obtain ⟨k, f, cap, q, ks, hk, rfl, RI, LG, RB, BW⟩ := hrel
    by_cases hlt : k < n
    case pos =>
      obtain ⟨x, et⟩ : ∃ x, xs[k]? = some x := ⟨_, List.getElem?_eq_getElem (by rw [EN.out]; exact hlt)⟩
      obtain ⟨rfl, hc⟩ := H4.out.resolve_left (fun e => by rw [e] at et; simp at et)
      obtain ⟨ds, cc, hx⟩ := hc k x et
      have SX := SM.out k x et
      have ET := hide et
      replace cc := cc.below BW.out
      have HX0 := hide hx
      replace hx := cacR.rb hx BW.out
      obtain ⟨x0, a1, a2, x3, a4, a5, a6, a7⟩ := x
      obtain ⟨q0, c0, q3, c3, rfl, k0, k3⟩ := cacR_rd hx
      rw [cacR_sz] at SX
      rw [ints_sz] at SX
      rw [show opsK.sz x3 = x3.length from rfl] at SX
      have S0 : Hid (x0.length ≤ 2097152) := show _ ≤ _ by omega
      have S3 : Hid (x3.length ≤ 2097152) := show _ ≤ _ by omega
      have lk : ((k : Nat) : Int) < (n : Nat) := by omega
      have CC : CellsAt wr B (off + k * 8) [.slice q0 x0.length c0, .int .i64 a1, .int .i64 a2, .slice q3 x3.length c3, .int .i64 a4, .int .i64 a5, .int .i64 a6, .int .i64 a7] := cc
      clear et hc hx SX cc
      have z0 : wr.cell? ⟨B, off + k * 8, none⟩ = some _ := CC 0 _ rfl
      have z1 : wr.cell? ⟨B, off + k * 8 + 1, none⟩ = some _ := CC 1 _ rfl
      have z2 : wr.cell? ⟨B, off + k * 8 + 2, none⟩ = some _ := CC 2 _ rfl
      have z3 : wr.cell? ⟨B, off + k * 8 + 3, none⟩ = some _ := CC 3 _ rfl
      have z4 : wr.cell? ⟨B, off + k * 8 + 4, none⟩ = some _ := CC 4 _ rfl
      have z5 : wr.cell? ⟨B, off + k * 8 + 5, none⟩ = some _ := CC 5 _ rfl
      have z6 : wr.cell? ⟨B, off + k * 8 + 6, none⟩ = some _ := CC 6 _ rfl
      have z7 : wr.cell? ⟨B, off + k * 8 + 7, none⟩ = some _ := CC 7 _ rfl
      have bo : Below wr.heap.size wr (wr.alloc (.cells #[.slice q0 x0.length c0, .int .i64 a1, .int .i64 a2, .slice q3 x3.length c3, .int .i64 a4, .int .i64 a5, .int .i64 a6, .int .i64 a7] 41)) := boxC _ _
      have RX := hide (Rec.new wr [.slice q0 x0.length c0, .int .i64 a1, .int .i64 a2, .slice q3 x3.length c3, .int .i64 a4, .int .i64 a5, .int .i64 a6, .int .i64 a7] 41)
      have LR : w.heap.size + 1 < wr.heap.size := RI.out.box.lt
      have LB : Hid (w.heap.size + 1 ≤ (wr.alloc (.cells #[.slice q0 x0.length c0, .int .i64 a1, .int .i64 a2, .slice q3 x3.length c3, .int .i64 a4, .int .i64 a5, .int .i64 a6, .int .i64 a7] 41)).heap.size) := show _ ≤ _ by have := bo.size; omega
      have HX := hide (seen_mk (R := cacR) (A := (fun b => b < w.heap.size + 1)) HX0.out (fun b hb => show b < w.heap.size + 1 by omega) (BW.out.trans (bo.mono BW.out.size)))
      have BWB := hide (BW.out.trans (bo.mono BW.out.size))
      have RBB := hide (RB.out.below bo)
      have RI2 := hide (RI.out.below bo)
      clear bo LR CC k0 k3
      have y1 : (wr.alloc (.cells #[.slice q0 x0.length c0, .int .i64 a1, .int .i64 a2, .slice q3 x3.length c3, .int .i64 a4, .int .i64 a5, .int .i64 a6, .int .i64 a7] 41)).cell? ⟨w.heap.size, 1, none⟩ = some _ := RBB.out.cell 1 _ rfl
      by_cases hp : a1 = b1
      · subst hp
        have bb : (a1 != a1) = false := by simp
        have FY : Hid (((xs.take k).filter fun x => x.2.1 != a1) = ((xs.take (k + 1)).filter fun x => x.2.1 != a1)) := filter_no ET.out (by simp)
        rw [FY.out] at LG
        clear FY HX LB RI RB BW
        go_wp2
        exact ⟨⟨k + 1, f, cap, q, ks, by omega, by go_num, RI2, LG, RBB, BWB⟩, by simp [intOf]; omega⟩
      have bb : (a1 != b1) = true := by simpa using hp
      have FY : Hid (((xs.take k).filter fun x => x.2.1 != b1) ++ [(x0, a1, a2, x3, a4, a5, a6, a7)] = ((xs.take (k + 1)).filter fun x => x.2.1 != b1)) := filter_yes ET.out bb
      clear RI RB BW
      go_wp2_with fail
      refine (putCacEntry 4 f cap (w.heap.size + 1) (w.heap.size + 1) q (fun b => b < w.heap.size + 1) ks x0 a1 a2 x3 a4 a5 a6 a7 _ _ _ _ _ RI2.out HX.out (fun b hb => hb) LB.out (by decide) (by decide)).mono ?_
      rintro e u ⟨rfl, ⟨f', q', cap', ks', RI', LG'⟩, hb⟩
      have BW2 := hide (BWB.out.trans (hb.mono (by omega)))
      have RB2 := hide (rec_low9 RBB.out hb (by omega))
      have RI3 := hide RI'
      have LG3 : Hid (logic ks' f' = lastN 4 ((xs.take (k + 1)).filter fun x => x.2.1 != b1)) := show _ = _ by rw [LG', LG.out, lastN_more, FY.out]
      clear RI' LG' hb RI2 HX LB BWB RBB FY LG RX
      go_wp2
      exact ⟨⟨k + 1, f', cap', q', ks', by omega, by go_num, RI3, LG3, RB2, BW2⟩, by simp [intOf]; omega⟩
    obtain rfl : k = n := by omega
    have FE : Hid (((xs.take k).filter fun x => x.2.1 != b1) = (xs.filter fun x => x.2.1 != b1)) := show _ = _ by rw [List.take_of_length_le (by rw [EN.out]; exact Nat.le_refl _)]
    rw [FE.out] at LG
    have LB : Hid (w.heap.size + 1 < wr.heap.size) := RI.out.box.lt
    have HX := hide (seen_mk (R := cacR) (A := (fun b => b < w.heap.size + 1)) HYR.out (fun b hb => show b < w.heap.size + 1 by omega) BW.out)
    have SMF : Hid (∀ (i : Nat) x, M[i]? = some x → cacR.sz x ≤ 2097152) := fun i x hx => by
      rw [← EM.out] at hx
      have h1 : x ∈ (xs.filter fun x => x.2.1 != b1) ++ [(y0, b1, b2, y3, b4, b5, b6, b7)] := List.mem_of_mem_drop (List.mem_of_getElem? hx)
      rcases List.mem_append.1 h1 with h2 | h2
      · obtain ⟨j, hj⟩ := List.mem_iff_getElem?.1 (List.mem_filter.1 h2).1
        exact Nat.le_trans (SM.out j x hj) (by omega)
      · obtain rfl := List.mem_singleton.1 h2
        exact SYR.out
    clear FE SM H4
    have y0c := RB.out.cell 0 _ rfl
    have y1c := RB.out.cell 1 _ rfl
    have y2c := RB.out.cell 2 _ rfl
    have y3c := RB.out.cell 3 _ rfl
    have y4c := RB.out.cell 4 _ rfl
    have y5c := RB.out.cell 5 _ rfl
    have y6c := RB.out.cell 6 _ rfl
    have y7c := RB.out.cell 7 _ rfl
    go_wp2_with fail
    refine (putCacEntry 4 f cap (w.heap.size + 1) (w.heap.size + 1) q (fun b => b < w.heap.size + 1) ks y0 b1 b2 y3 b4 b5 b6 b7 _ _ _ _ _ RI.out HX.out (fun b hb => hb) (Nat.le_of_lt LB.out) (by decide) (by decide)).mono ?_
    rintro e u ⟨rfl, ⟨f', q', cap', ks', RI', LG'⟩, hb⟩
    have LG3 : Hid (logic ks' f' = M) := show _ = _ by rw [LG', LG.out, lastN_more, EM.out]
    have BW2 := hide (BW.out.trans (hb.mono (by omega)))
    have RI3 := hide RI'
    have LU : Hid (wr.heap.size ≤ u.heap.size) := hb.size
    clear RI' LG' hb RI HX BW RB LG y0c y1c y2c y3c y4c y5c y6c y7c
    go_wp2_with fail
    refine (toldCacEntry 4 f' cap' (w.heap.size + 1) (w.heap.size + 1) q' (fun b => b < w.heap.size + 1) ks' _ RI3.out (fun b hb => hb) (Or.inl (by decide)) (by decide) (by rw [LG3.out]; exact SMF.out)).mono ?_
    rintro e u2 ⟨q9, c9, rfl, OW, hb⟩
    rw [LG3.out] at OW ⊢
    have FIN := hide (cacK.ov (A' := New w u2) OW (fun b h => ⟨by have := h.1; have := LB.out; have := LU.out; omega, h.2⟩))
    have BF := hide (BW2.out.trans (hb.mono (by have := LB.out; have := LU.out; omega)))
    clear OW hb RI3 BW2 SMF LG3
    go_wp2
    go_ret
    exact ⟨q9, c9, rfl, FIN.out, BF.out⟩
end Go.Proofs.Ythlpndligadnjaa.Dt
