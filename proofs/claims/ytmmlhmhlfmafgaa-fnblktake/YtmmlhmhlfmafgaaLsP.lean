/-
  Draws: DrawBlkOk, DrawBlkWords, DrawBlkTake.
-/
import Derived.Test.YtmmlhmhlfmafgaaLsO
import Derived.Test.YtmmlhmhlfmafgaaBlkB
namespace Go.Proofs.Ytmmlhmhlfmafgaa.Draw
set_option linter.unusedVariables false
set_option linter.unusedSimpArgs false
open Go.ChangeShapes Go.WideShapes Go.ChangeAt Go.RowKit Flat
open IntS (Turn hide cell_below Row)
open Mch (Rec)
open InsS (In4 OwnI IRow run_pushI flatI flatI_len)
open Go.Proofs.Ytmmlhmhlfmafgaa.Blk (OwnN wordsL)
set_option maxRecDepth 8000 in
set_option maxHeartbeats 8000000 in
theorem drawBlkOk (a : Option Addr) (len cap : Nat) (w : World) (hlc : len ≤ cap) (hm : cap ≤ maxLen) (hc : Code w a len) :
    Calls Try.prog 15 #[.slice a len cap] w fun e w' => ∃ (pc : Int) (qs : Option Addr) (cap : Nat) (is : List In4) (B : Nat), e = .returned (.tuple #[.int .i64 pc, .slice qs (List.length is) cap]) ∧ IRow w' B (.slice qs is.length cap) is ∧ is.length ≤ 9 ∧ (-1 ≤ pc ∧ pc ≤ 64) ∧ Below w.heap.size w w' := by
  go_enter Try.func15, Try.ntmps15
  go_wp2_with fail
  refine (openRd a len cap w hlc hm hc).mono ?_
  rintro e v1 ⟨R, rfl, hRl, h1, b1⟩
  have B1 := hide b1
  clear b1 hc hm hlc
  go_wp2_with fail
  refine (listOr R 0 2 v1 h1 (by omega) (by omega) (by omega)).mono ?_
  rintro e v2 ⟨pc, qs, cap, is, rfl, o1, l1, p1, -, k1⟩
  have BF := hide (B1.out.trans (k1.below hRl B1.out.size))
  obtain ⟨B, hB⟩ := o1.frow
  clear o1 k1 B1 h1
  go_wp2
  go_ret2
  exact ⟨pc, qs, cap, is, B, rfl, hB, l1, p1, BF.out⟩
set_option maxRecDepth 8000 in
set_option maxHeartbeats 8000000 in
theorem drawBlkWords (a : Option Addr) (len cap : Nat) (w : World) (hlc : len ≤ cap) (hm : cap ≤ maxLen) (hc : Code w a len) :
    Calls Try.prog 5 #[.slice a len cap] w fun e w' => ∃ (qs : Option Addr) (cap : Nat) (is : List In4) (B : Nat), e = .returned (.slice qs (List.length is) cap) ∧ IRow w' B (.slice qs is.length cap) is ∧ is.length ≤ 9 ∧ Below w.heap.size w w' := by
  go_enter Try.func5, Try.ntmps5
  go_wp2_with fail
  refine (openRd a len cap w hlc hm hc).mono ?_
  rintro e v1 ⟨R, rfl, hRl, h1, b1⟩
  have B1 := hide b1
  clear b1 hc hm hlc
  go_wp2_with fail
  refine (listOr R 0 5 v1 h1 (by omega) (by omega) (by omega)).mono ?_
  rintro e v2 ⟨pc, qs, cap, is, rfl, o1, l1, p1, -, k1⟩
  have BF := hide (B1.out.trans (k1.below hRl B1.out.size))
  obtain ⟨B, hB⟩ := o1.frow
  clear o1 k1 B1 h1
  go_wp2
  go_ret
  exact ⟨qs, cap, is, B, rfl, hB, l1, BF.out⟩
set_option maxRecDepth 8000 in
set_option maxHeartbeats 8000000 in
theorem drawBlkTake (a : Option Addr) (len cap : Nat) (w : World) (hlc : len ≤ cap) (hm : cap ≤ maxLen) (hc : Code w a len) :
    Calls Try.prog 6 #[.slice a len cap] w fun e w' => ∃ (qs : Option Addr) (cap : Nat) (ws : List Int) (B : Nat), e = .returned (.slice qs (List.length ws) cap) ∧ Row w' B (.slice qs ws.length cap) ws ∧ ws.length ≤ 8 ∧ Below w.heap.size w w' := by
  go_enter Try.func6, Try.ntmps6
  go_wp2_with fail
  refine (openRd a len cap w hlc hm hc).mono ?_
  rintro e v1 ⟨R, rfl, hRl, h1, b1⟩
  have hR := h1.lt
  have B1 := hide b1
  clear b1 hc hm hlc
  go_wp2_with fail
  refine (listP R 0 v1 h1 (by omega)).mono ?_
  rintro e v2 ⟨q0, c0, is, rfl, o1, l1, h2, k1⟩
  have B2 := hide (B1.out.trans (k1.below hRl B1.out.size))
  obtain ⟨B, hB⟩ := o1.frow
  have LR : R < v2.heap.size := h2.lt
  clear o1 h1 k1
  go_wp2_with fail
  refine (Go.Proofs.Ytmmlhmhlfmafgaa.Blk.specWords is B _ v2 hB (by omega)).mono ?_
  rintro e v3 ⟨q, cap, rfl, o2, b2⟩
  have B3 := hide (B2.out.trans (b2.mono B2.out.size))
  have H3 := hide (h2.below (b2.mono LR))
  obtain ⟨ws, ew⟩ : ∃ ws, wordsL is = ws := ⟨_, rfl⟩
  have lw : 1 ≤ ws.length ∧ ws.length ≤ 8 := by rw [← ew, wordsL, List.length_map]; exact l1
  rw [ew] at o2 ⊢
  have OO := hide o2
  clear o2 b2 hB l1 B2 ew h2 B1
  obtain ⟨n, en⟩ : ∃ n, ws.length = n := ⟨_, rfl⟩
  rw [en] at OO lw ⊢
  have EN := hide en
  clear en
  obtain ⟨g, rfl, g1, g2, g3⟩ := own_someF OO.out (by rw [EN.out]; exact lw.1)
  go_wp2_with fail
  refine (odd R (0 + 80) 3 v3 H3.out (by omega) (by omega) (by omega)).mono ?_
  rintro e v4 ⟨b, rfl, h4, k4⟩
  have RL : R < v2.heap.size := LR
  have B4 := hide (B3.out.trans (k4.below hRl B3.out.size))
  have O4 := hide (OwnF.turn OO.out k4.turn (Or.inl LR))
  have G4 := Nat.lt_of_lt_of_le g2 k4.size
  have H4 := hide h4
  clear h4 k4 OO H3 B3 g2
  cases b with
  | false =>
    have FR : Hid (∃ B, Row v4 B (.slice (some ⟨g, 0, none⟩) n cap) ws) := by
      obtain ⟨B, hB⟩ := O4.out.wrow v2.heap.size (Nat.le_refl _)
      exact ⟨B, (Go.Proofs.Ytmmlhmhlfmafgaa.Blk.row_of_flat hB.1).row⟩
    go_wp2
    go_ret
    obtain ⟨B, hB⟩ := FR.out
    exact ⟨some ⟨g, 0, none⟩, cap, ws, B, by rw [EN.out]; rfl, by rw [EN.out]; exact hB, by rw [EN.out]; omega, B4.out⟩
  | true =>
    go_wp2_with fail
    refine (pick R (0 + 80 + 1) (n : Int) v4 H4.out (by omega)).mono ?_
    rintro e v5 ⟨x, rfl, x0, x1, -, h5, k5⟩
    replace x1 := x1 (by omega)
    obtain ⟨j, rfl⟩ : ∃ j : Nat, x = j := ⟨x.toNat, by omega⟩
    have jn : j < n := by omega
    have B5 := hide (B4.out.trans (k5.below hRl B4.out.size))
    have O5 := hide (OwnF.turn O4.out k5.turn (Or.inl LR))
    have G5 := Nat.lt_of_lt_of_le G4 k5.size
    have H5 := hide h5
    clear h5 k5 O4 H4 B4 G4
    go_wp2_with fail
    refine (wordOr R (0 + 80 + 1 + 1) 4 v5 H5.out (by omega) (by omega) (by omega)).mono ?_
    rintro e v6 ⟨y, rfl, y0, y1, h6, k6⟩
    have B6 := hide (B5.out.trans (k6.below hRl B5.out.size))
    have O6 := hide (OwnF.turn O5.out k6.turn (Or.inl LR))
    have G6 := Nat.lt_of_lt_of_le G5 k6.size
    clear h6 k6 O5 H5 B5 G5 y0 y1 x0 x1
    obtain ⟨⟨z, c1⟩, f1⟩ := own_atF O6.out j (by rw [EN.out]; exact jn)
    have FR : Hid (∃ B, Row (v6.setCell ⟨g, j, none⟩ (.int .i64 y)) B (.slice (some ⟨g, 0, none⟩) n cap) (ws.set j y)) := by
      have h := own_setF O6.out j y
      have e : ws.length = (ws.set j y).length := by rw [List.length_set]
      rw [e] at h
      obtain ⟨B, hB⟩ := h.wrow v2.heap.size (Nat.le_refl _)
      exact ⟨B, (Go.Proofs.Ytmmlhmhlfmafgaa.Blk.row_of_flat hB.1).row⟩
    have FB := hide (B6.out.setCell (p := ⟨g, j, none⟩) (by show w.heap.size ≤ g; omega) (.int .i64 y))
    go_wp2
    go_ret
    obtain ⟨B, hB⟩ := FR.out
    exact ⟨some ⟨g, 0, none⟩, cap, ws.set j y, B, by rw [List.length_set, EN.out]; rfl, by rw [List.length_set, EN.out]; exact hB, by rw [List.length_set, EN.out]; omega, FB.out⟩
end Go.Proofs.Ytmmlhmhlfmafgaa.Draw
