/-
  What is kept: the program's CacDrop.
-/
import Derived.Test.YthlpndligadnjaaCaIw
import Derived.Test.YthlpndligadnjaaCaC
import Derived.Test.YthlpndligadnjaaCaD
import Derived.Test.YthlpndligadnjaaCaE
namespace Go.Proofs.Ythlpndligadnjaa.Dt
set_option linter.unusedVariables false
set_option linter.unusedSimpArgs false
open Go.ChangeShapes Go.WideShapes Go.ChangeAt Go.RowKit IntS Pol Push Flat Irk
open Ir (Opn Bk bv ORow WORow RBk WBk OpAt SoftAt)
set_option maxRecDepth 8000 in
set_option maxHeartbeats 16000000 in
theorem toldNil (Z : Nat) (r : Int) (w : World) (H : Rec Z [.int .i64 r, .slice none 0 0, .int .i64 0] w) :
    Calls Try.prog 47 #[.pointer (some ⟨Z, 0, none⟩), .func (.func 48) #[] #[]] w fun e w' => e = .returned (.slice none 0 0) ∧ w' = w := by
  have c1 := H.cell 1 _ rfl
  clear H
  go_enter Try.func47, Try.ntmps47
  go_wp2
  refine wp_loop_rounds 1 ?_
  rw [rounds_succ]
  go_wp2
  go_ret
  exact ⟨rfl, rfl⟩
set_option maxRecDepth 8000 in
set_option maxHeartbeats 16000000 in
theorem implCacDrop (xs : List (List Int × Int × Int × List Opn × Int × Int × Int × Int)) (mem : List Int) (v vm : Value) (w : World) (h : cacK.rd w v xs) (hs : cacK.sz xs ≤ 1048576) (hm : intsK.rd w vm mem) :
    Calls Try.prog 23 #[v, vm] w fun e w' => ∃ q c, e = .returned (.slice q (dropC xs mem).length c) ∧ cacK.ow w' (New w w') (.slice q (dropC xs mem).length c) (dropC xs mem) ∧ Below w.heap.size w w' := by
  obtain ⟨a2, cap2, e2, -⟩ := ints_at hm
  subst e2
  have HM := hide hm
  clear hm
  have SM : Hid (∀ (i : Nat) x, xs[i]? = some x → cacR.sz x ≤ 1048576) := fun i x hx => by have h1 := sum_one (f := cacR.sz) hx; have h2 : cacK.sz xs = xs.length + sum cacR.sz xs := rfl; omega
  have LN0 : xs.length ≤ 1048576 := by have h2 : cacK.sz xs = xs.length + sum cacR.sz xs := rfl; omega
  obtain ⟨a, cap0, B, off, rfl, h2, h3, hz, h4⟩ := h
  unfold maxLen at h3
  clear hz hs
  obtain ⟨n, en⟩ : ∃ n, xs.length = n := ⟨_, rfl⟩
  have EN := hide en
  rw [en] at h2 LN0
  have H4 := hide h4
  clear h4
  obtain ⟨M, eM⟩ : ∃ M, dropC xs mem = M := ⟨_, rfl⟩
  rw [eM]
  replace eM : (xs.filter fun x => thereB x.1 mem x.2.1) = M := eM
  have EM := hide eM
  clear eM en
  by_cases n0 : n = 0
  · subst n0
    have b1x := boxC w (.cells #[.int .i64 0, .slice none 0 0, .int .i64 0] 76)
    have RG := hide (Rec.new w [.int .i64 0, .slice none 0 0, .int .i64 0] 76)
    have BW := hide b1x
    have e : M = [] := by rw [← EM.out, List.length_eq_zero_iff.1 EN.out]; rfl
    have EY := hide e
    clear b1x e EM H4 HM SM
    go_enter Try.func23, Try.ntmps23
    rw [EN.out]
    go_wp2
    generalize w.alloc (.cells #[.int .i64 0, .slice none 0 0, .int .i64 0] 76) = W0 at RG BW ⊢
    refine wp_loop_rounds 1 ?_
    rw [rounds_succ]
    go_wp2_with fail
    refine (toldNil _ _ _ RG.out).mono ?_
    rintro e u ⟨rfl, rfl⟩
    clear RG
    go_wp2
    go_ret
    refine ⟨none, 0, by rw [EY.out]; rfl, ?_, BW.out⟩
    rw [EY.out]
    exact LOw.nil _ _ _
  have npos : 0 < n := by omega
  have b1x := boxC w (.cells #[.int .i64 (n : Nat), .slice none 0 0, .int .i64 0] 76)
  have BW0 := hide b1x
  have RG1 := Rec.new w [.int .i64 (n : Nat), .slice none 0 0, .int .i64 0] 76
  have RI0 : Hid (Ring (seen cacR) 41 (w.alloc (.cells #[.int .i64 (n : Nat), .slice none 0 0, .int .i64 0] 76)) w.heap.size (fun b => b < w.heap.size) w.heap.size n 0 none 0 []) := ⟨RG1, Nat.le_refl _, Nat.le_refl _, by unfold maxLen; omega, Or.inl ⟨npos, rfl, _, SL.nil _ _ _ _ _⟩, (fun G e => by cases e), Nat.lt_irrefl _⟩
  clear b1x RG1
  go_enter Try.func23, Try.ntmps23
  rw [EN.out]
  go_wp2
  generalize w.alloc (.cells #[.int .i64 (n : Nat), .slice none 0 0, .int .i64 0] 76) = W0 at BW0 RI0 ⊢
  go_loopw [13] (fun i wr => ∃ (k f cap : Nat) (q : Option Addr) (ks : List (List Int × Int × Int × List Opn × Int × Int × Int × Int)), k ≤ n ∧ i = .int .i64 k ∧ Hid (Ring (seen cacR) 41 wr w.heap.size (fun b => b < w.heap.size) w.heap.size n f q cap ks) ∧ Hid (logic ks f = ((xs.take k).filter fun x => thereB x.1 mem x.2.1)) ∧ Hid (Below w.heap.size w wr)) (fun i _ => n - (intOf i).toNat)
  case atStart => exact ⟨0, 0, 0, none, [], by omega, rfl, RI0, rfl, BW0⟩
  case round =>
    clear BW0 RI0
    obtain ⟨k, f, cap, q, ks, hk, rfl, RI, LG, BW⟩ := hrel
    by_cases hlt : k < n
    case pos =>
      obtain ⟨x, et⟩ : ∃ x, xs[k]? = some x := ⟨_, List.getElem?_eq_getElem (by rw [EN.out]; exact hlt)⟩
      obtain ⟨rfl, hc⟩ := H4.out.resolve_left (fun e => by rw [e] at et; simp at et)
      obtain ⟨ds, cc, hx⟩ := hc k x et
      have SX := SM.out k x et
      have ET := hide et
      replace cc := cc.below BW.out
      have HX0 := hide hx
      replace hx := cacR.rb hx BW.out
      obtain ⟨x0, a1, a2, x3, a4, a5, a6, a7⟩ := x
      obtain ⟨q0, c0, q3, c3, rfl, k0, k3⟩ := cacR_rd hx
      rw [cacR_sz] at SX
      rw [ints_sz] at SX
      rw [show opsK.sz x3 = x3.length from rfl] at SX
      have S0 : Hid (x0.length ≤ 2097152) := show _ ≤ _ by omega
      have S3 : Hid (x3.length ≤ 2097152) := show _ ≤ _ by omega
      have lk : ((k : Nat) : Int) < (n : Nat) := by omega
      have CC : CellsAt wr B (off + k * 8) [.slice q0 x0.length c0, .int .i64 a1, .int .i64 a2, .slice q3 x3.length c3, .int .i64 a4, .int .i64 a5, .int .i64 a6, .int .i64 a7] := cc
      clear et hc hx SX cc
      have z0 : wr.cell? ⟨B, off + k * 8, none⟩ = some _ := CC 0 _ rfl
      have z1 : wr.cell? ⟨B, off + k * 8 + 1, none⟩ = some _ := CC 1 _ rfl
      have z2 : wr.cell? ⟨B, off + k * 8 + 2, none⟩ = some _ := CC 2 _ rfl
      have z3 : wr.cell? ⟨B, off + k * 8 + 3, none⟩ = some _ := CC 3 _ rfl
      have z4 : wr.cell? ⟨B, off + k * 8 + 4, none⟩ = some _ := CC 4 _ rfl
      have z5 : wr.cell? ⟨B, off + k * 8 + 5, none⟩ = some _ := CC 5 _ rfl
      have z6 : wr.cell? ⟨B, off + k * 8 + 6, none⟩ = some _ := CC 6 _ rfl
      have z7 : wr.cell? ⟨B, off + k * 8 + 7, none⟩ = some _ := CC 7 _ rfl
      have bo : Below wr.heap.size wr (wr.alloc (.cells #[.slice q0 x0.length c0, .int .i64 a1, .int .i64 a2, .slice q3 x3.length c3, .int .i64 a4, .int .i64 a5, .int .i64 a6, .int .i64 a7] 41)) := boxC _ _
      have RX := hide (Rec.new wr [.slice q0 x0.length c0, .int .i64 a1, .int .i64 a2, .slice q3 x3.length c3, .int .i64 a4, .int .i64 a5, .int .i64 a6, .int .i64 a7] 41)
      have LR : w.heap.size < wr.heap.size := RI.out.box.lt
      have HX := hide (seen_mk (R := cacR) (A := (fun b => b < w.heap.size)) HX0.out (fun b hb => hb) (BW.out.trans (bo.mono BW.out.size)))
      have BWB := hide (BW.out.trans (bo.mono BW.out.size))
      have RI2 := hide (RI.out.below bo)
      have K0 := hide (intsK.rb k0 bo)
      clear CC k0 k3 RI BW
      go_wp2_with fail
      clear z0 z1 z2 z3 z4 z5 z6 z7
      generalize (wr.alloc (.cells #[.slice q0 x0.length c0, .int .i64 a1, .int .i64 a2, .slice q3 x3.length c3, .int .i64 a4, .int .i64 a5, .int .i64 a6, .int .i64 a7] 41)) = v1 at bo RX HX BWB RI2 K0 ⊢
      have LB : Hid (w.heap.size ≤ v1.heap.size) := show _ ≤ _ by have := bo.size; omega
      clear bo LR
      refine (wordsThere x0 a1 a2 x3 a4 a5 a6 a7 _ _ _ _ mem _ _ K0.out (intsK.rb HM.out BWB.out)).mono ?_
      rintro e u ⟨rfl, hb⟩
      have RX2 := hide (RX.out.below hb)
      have HX2 := hide ((seen cacR).ok HX.out (Keep.of_below (S := fun _ => False) hb) (fun _ _ h => h))
      have BW2 := hide (BWB.out.trans (hb.mono LB.out))
      have RI3 := hide (RI2.out.below hb)
      have LB2 : Hid (w.heap.size ≤ u.heap.size) := Nat.le_trans LB.out hb.size
      clear hb RX HX BWB RI2 K0 LB
      obtain ⟨rr, err⟩ : ∃ r, thereB x0 mem a1 = r := ⟨_, rfl⟩
      rw [err]
      have ER := hide err
      clear err
      cases rr with
      | false =>
        have FY : Hid (((xs.take k).filter fun x => thereB x.1 mem x.2.1) = ((xs.take (k + 1)).filter fun x => thereB x.1 mem x.2.1)) := filter_no ET.out ER.out
        rw [FY.out] at LG
        clear FY ER ET HX2 RX2 LB2
        go_wp2
        exact ⟨⟨k + 1, f, cap, q, ks, by omega, by go_num, RI3, LG, BW2⟩, by simp [intOf]; omega⟩
      | true =>
        have FY : Hid (((xs.take k).filter fun x => thereB x.1 mem x.2.1) ++ [(x0, a1, a2, x3, a4, a5, a6, a7)] = ((xs.take (k + 1)).filter fun x => thereB x.1 mem x.2.1)) := filter_yes ET.out ER.out
        have y0 := RX2.out.cell 0 _ rfl
        have y1 := RX2.out.cell 1 _ rfl
        have y2 := RX2.out.cell 2 _ rfl
        have y3 := RX2.out.cell 3 _ rfl
        have y4 := RX2.out.cell 4 _ rfl
        have y5 := RX2.out.cell 5 _ rfl
        have y6 := RX2.out.cell 6 _ rfl
        have y7 := RX2.out.cell 7 _ rfl
        go_wp2_with fail
        refine (putCacEntry n f cap w.heap.size w.heap.size q (fun b => b < w.heap.size) ks x0 a1 a2 x3 a4 a5 a6 a7 _ _ _ _ _ RI3.out HX2.out (fun b hb => hb) LB2.out npos (by omega)).mono ?_
        rintro e u3 ⟨rfl, ⟨f', q', cap', ks', RI', LG'⟩, hb⟩
        have BW3 := hide (BW2.out.trans hb)
        have RI4 := hide RI'
        have LG3 : Hid (logic ks' f' = ((xs.take (k + 1)).filter fun x => thereB x.1 mem x.2.1)) := show _ = _ by rw [LG', LG.out, FY.out]; exact lastN_of_le (Nat.le_trans filter_len (by omega))
        clear RI' LG' hb RI3 HX2 LB2 RX2 FY LG ER ET y0 y1 y2 y3 y4 y5 y6 y7
        go_wp2
        exact ⟨⟨k + 1, f', cap', q', ks', by omega, by go_num, RI4, LG3, BW3⟩, by simp [intOf]; omega⟩
    obtain rfl : k = n := by omega
    have FE : Hid (((xs.take k).filter fun x => thereB x.1 mem x.2.1) = M) := show _ = _ by rw [List.take_of_length_le (by rw [EN.out]; exact Nat.le_refl _), EM.out]
    rw [FE.out] at LG
    have SMF : Hid (∀ (i : Nat) x, M[i]? = some x → cacR.sz x ≤ 2097152) := fun i x hx => by
      rw [← EM.out] at hx
      obtain ⟨j, hj⟩ := List.mem_iff_getElem?.1 (List.mem_filter.1 (List.mem_of_getElem? hx)).1
      exact Nat.le_trans (SM.out j x hj) (by omega)
    have LB : Hid (w.heap.size < wr.heap.size) := RI.out.box.lt
    clear FE SM H4 HM
    go_wp2_with fail
    refine (toldCacEntry k f cap w.heap.size w.heap.size q (fun b => b < w.heap.size) ks _ RI.out (fun b hb => hb) (Or.inl npos) (by omega) (by rw [LG.out]; exact SMF.out)).mono ?_
    rintro e u2 ⟨q9, c9, rfl, OW, hb⟩
    rw [LG.out] at OW ⊢
    have FIN := hide (cacK.ov (A' := New w u2) OW (fun b h => ⟨by have := h.1; have := LB.out; omega, h.2⟩))
    have BF := hide (BW.out.trans (hb.mono (by have := LB.out; omega)))
    clear OW hb RI BW SMF LG LB
    go_wp2
    go_ret
    exact ⟨q9, c9, rfl, FIN.out, BF.out⟩
end Go.Proofs.Ythlpndligadnjaa.Dt
