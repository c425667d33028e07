/-
  Draws: words and what is to come in (DrawMchNew).
-/
import Derived.Test.YtpbpabcokfblfaaIntP
namespace Go.Proofs.Ytpbpabcokfblfaa.Draw
set_option linter.unusedVariables false
set_option linter.unusedSimpArgs false
open Go.ChangeShapes Go.WideShapes Go.ChangeAt Go.RowKit
open IntS (Turn hide cell_below Row Own own_nil own_gt own_below own_read wpList_pushT)
theorem cells5 (w : World) (x : Int) (h0 : 0 ≤ x) (h1 : x < 5) : ∃ z : Nat, (w.alloc (.cells #[.int .i64 0, .int .i64 1, .int .i64 5, .int .i64 64, .int .i64 65] 3)).cell? ⟨w.heap.size, x.toNat, none⟩ = some (.int .i64 (z : Int)) ∧ z ≤ 65 := by
  obtain ⟨k, rfl⟩ := Int.eq_ofNat_of_zero_le h0
  rw [Int.toNat_natCast, World.cell?_alloc_new]
  have : k = 0 ∨ k = 1 ∨ k = 2 ∨ k = 3 ∨ k = 4 := by omega
  rcases this with rfl | rfl | rfl | rfl | rfl
  · exact ⟨0, rfl, by omega⟩
  · exact ⟨1, rfl, by omega⟩
  · exact ⟨5, rfl, by omega⟩
  · exact ⟨64, rfl, by omega⟩
  · exact ⟨65, rfl, by omega⟩
set_option maxRecDepth 8000 in
set_option maxHeartbeats 8000000 in
theorem drawNew (a : Option Addr) (len cap : Nat) (w : World) (hlc : len ≤ cap) (hm : cap ≤ maxLen) (hc : Code w a len) :
    Calls Try.prog 4 #[.slice a len cap] w fun e w' => ∃ g1 n1 c1 ws g2 n2 c2 is B1 B2, e = .returned (.tuple #[.slice (some ⟨g1, 0, none⟩) n1 c1, .slice (some ⟨g2, 0, none⟩) n2 c2]) ∧ ws.length = n1 ∧ n1 ≤ 66 ∧ is.length = n2 ∧ n2 ≤ 4 ∧ Row w' B1 (.slice (some ⟨g1, 0, none⟩) n1 c1) ws ∧ Row w' B2 (.slice (some ⟨g2, 0, none⟩) n2 c2) is ∧ Below w.heap.size w w' := by
  go_enter Try.func4, Try.ntmps4
  go_wp2_with fail
  refine (openRd a len cap w hlc hm hc).mono ?_
  rintro e vb ⟨R, rfl, hRl, h1, b1⟩
  clear hc hm hlc
  have hRv := h1.lt
  go_wp2_with fail
  refine (pick R 0 5 _ (h1.alloc _) (by omega)).mono ?_
  rintro e vc ⟨x, rfl, x0, x1, -, h2, k2⟩
  replace x1 := x1 (by omega)
  obtain ⟨N, hz, N65⟩ := cells5 vb x x0 x1
  have hz2 : vc.cell? ⟨vb.heap.size, x.toNat, none⟩ = some (.int .i64 (N : Int)) := (k2.cell (p := ⟨vb.heap.size, x.toNat, none⟩) (by simp) (by simp; omega)).trans hz
  replace k2 := (Keep.of_below (alloc_below vb _)).trans k2
  have BW := hide (b1.trans (k2.below hRl b1.size))
  have LC : vb.heap.size ≤ vc.heap.size := k2.size
  have HH := hide h2
  clear hz k2 h1 h2 b1
  go_wp2_with fail
  refine (words R 1 N vc HH.out (by omega) (by omega)).mono ?_
  rintro e vd ⟨g1, c1, ws, rfl, l1, O1, h3, k3⟩
  have LD : vc.heap.size ≤ vd.heap.size := k3.size
  have hw : w.heap.size ≤ vc.heap.size := BW.out.size
  replace BW := hide (BW.out.trans (k3.below hRl BW.out.size))
  have G1 := own_gt O1
  have OA := hide O1
  have EL1 := hide l1
  replace HH := hide (show Rd R 200 vd from h3.mono (by omega))
  clear h3 k3 O1 l1 hz2 x0 x1
  go_wp2_with fail
  refine (pick R 200 4 vd HH.out (by omega)).mono ?_
  rintro e ve ⟨y, rfl, y0, y1, -, h4, k4⟩
  obtain ⟨M, rfl⟩ : ∃ M : Nat, y = M := ⟨y.toNat, by omega⟩
  have M3 : M ≤ 3 := by have := y1 (by omega); omega
  have LE : vd.heap.size ≤ ve.heap.size := k4.size
  replace BW := hide (BW.out.trans (k4.below hRl BW.out.size))
  replace OA := hide (own_step OA.out k4 (by omega))
  replace HH := hide h4
  clear h4 k4 y0 y1
  go_wp2_with fail
  refine (words R 201 M ve HH.out (by omega) (by omega)).mono ?_
  rintro e vf ⟨g2, c2, is, rfl, l2, O2, h5, k5⟩
  have LF : ve.heap.size ≤ vf.heap.size := k5.size
  replace BW := hide (BW.out.trans (k5.below hRl BW.out.size))
  have G2 := own_gt O2
  replace OA := hide (own_step OA.out k5 (by omega))
  have OB := hide O2
  have EL2 := hide l2
  replace HH := hide (show Rd R 300 vf from h5.mono (by omega))
  clear h5 k5 O2 l2
  go_wp2_with fail
  refine (odd R 300 6 vf HH.out (by omega) (by omega) (by omega)).mono ?_
  rintro e vg ⟨bb, rfl, h6, k6⟩
  have LG : vf.heap.size ≤ vg.heap.size := k6.size
  replace BW := hide (BW.out.trans (k6.below hRl BW.out.size))
  replace OA := hide (own_step OA.out k6 (by omega))
  replace OB := hide (own_step OB.out k6 (by omega))
  replace HH := hide h6
  clear h6 k6
  cases bb with
  | false =>
    obtain ⟨B1, r1⟩ := own_read OA.out
    obtain ⟨B2, r2⟩ := own_read OB.out
    have FIN := hide (And.intro r1 (And.intro r2 BW.out))
    clear OA OB BW HH r1 r2
    go_wp2
    exact bodyPost_ret (v := .tuple #[.slice (some ⟨g1, 0, none⟩) (N) c1, .slice (some ⟨g2, 0, none⟩) (M) c2]) (by simp [results, Try.results4, go_sem]) rfl ⟨g1, N, c1, ws, g2, M, c2, is, B1, B2, rfl, EL1.out, by omega, EL2.out, by omega, FIN.out.1, FIN.out.2.1, FIN.out.2.2⟩
  | true =>
    go_wp2_with fail
    refine (pick R 301 2 vg HH.out (by omega)).mono ?_
    rintro e vh ⟨z, rfl, z0, z1, -, h7, k7⟩
    have LH : vg.heap.size ≤ vh.heap.size := k7.size
    replace BW := hide (BW.out.trans (k7.below hRl BW.out.size))
    replace OA := hide (own_step OA.out k7 (by omega))
    replace OB := hide (own_step OB.out k7 (by omega))
    obtain ⟨X, rfl⟩ : ∃ X : Nat, z = X := ⟨z.toNat, by omega⟩
    have hX : X = 0 ∨ X = 1 := by have := z1 (by omega); omega
    clear h7 k7 z0 z1 HH
    rcases hX with rfl | rfl
    · have b2 := alloc_below vh (.cells #[.int .i64 (65536)] 3)
      have O1 := hide (show Own (vh.alloc (.cells #[.int .i64 (65536)] 3)) vc.heap.size (.slice (some ⟨g1, 0, none⟩) ws.length c1) ws by rw [EL1.out]; exact own_below OA.out b2)
      have O3 := hide (own_below OB.out b2)
      have gg := (own_gt OA.out).1
      have go := own_gt OB.out
      replace BW := hide (BW.out.trans (b2.mono BW.out.size))
      have C1 : Hid ((vh.alloc (.cells #[.int .i64 (65536)] 3)).cell? ((⟨vh.heap.size, 0, none⟩ : Addr).add 0) = some (.int .i64 (65536))) := show _ = _ by rw [Go.WideShapes.add_plain]; simp
      have L1 : Hid (ws.length ≤ 1000000) := show _ ≤ _ by rw [EL1.out]; omega
      have LO : Hid (vc.heap.size ≤ (vh.alloc (.cells #[.int .i64 (65536)] 3)).heap.size) := show _ ≤ _ by have := b2.size; omega
      clear OA OB b2
      go_wp2_with (at_builtin; refine wpList_pushT rfl _ _ rfl vc.heap.size g1 c1 ws (by rw [EL1.out]; rfl) O1.out LO.out ⟨vh.heap.size, 0, none⟩ (65536) rfl C1.out L1.out ?_; intro G3 c3 u2 hO hT; rw [EL1.out] at hO ⊢; have ON := hide (own_read hO.out); have OM := hide (own_read (O3.out.turn hT.out (by omega) (own_gt O3.out).2)); have BN := hide (BW.out.trans (hT.out.below (show w.heap.size ≤ g1 by omega) BW.out.size)); clear hO hT; refine Hid.out ?_)
      refine hide ?_
      obtain ⟨B1, r1⟩ := ON.out
      obtain ⟨B2, r2⟩ := OM.out
      have FIN := hide (And.intro r1 (And.intro r2 BN.out))
      have EN : Hid ((ws ++ [(65536 : Int)]).length = N + 1) := show _ = _ by rw [List.length_append, EL1.out]; rfl
      clear O1 O3 C1 L1 LO ON OM BN BW r1 r2
      go_wp2
      exact bodyPost_ret (v := .tuple #[.slice (some ⟨G3, 0, none⟩) (N + 1) c3, .slice (some ⟨g2, 0, none⟩) (M) c2]) (by simp [results, Try.results4, go_sem]) rfl ⟨G3, N + 1, c3, ws ++ [65536], g2, M, c2, is, B1, B2, rfl, EN.out, by omega, EL2.out, by omega, FIN.out.1, FIN.out.2.1, FIN.out.2.2⟩
    · have b2 := alloc_below vh (.cells #[.int .i64 (-1)] 3)
      have O1 := hide (show Own (vh.alloc (.cells #[.int .i64 (-1)] 3)) ve.heap.size (.slice (some ⟨g2, 0, none⟩) is.length c2) is by rw [EL2.out]; exact own_below OB.out b2)
      have O3 := hide (own_below OA.out b2)
      have gg := (own_gt OB.out).1
      have go := own_gt OA.out
      replace BW := hide (BW.out.trans (b2.mono BW.out.size))
      have C1 : Hid ((vh.alloc (.cells #[.int .i64 (-1)] 3)).cell? ((⟨vh.heap.size, 0, none⟩ : Addr).add 0) = some (.int .i64 (-1))) := show _ = _ by rw [Go.WideShapes.add_plain]; simp
      have L1 : Hid (is.length ≤ 1000000) := show _ ≤ _ by rw [EL2.out]; omega
      have LO : Hid (ve.heap.size ≤ (vh.alloc (.cells #[.int .i64 (-1)] 3)).heap.size) := show _ ≤ _ by have := b2.size; omega
      clear OA OB b2
      go_wp2_with (at_builtin; refine wpList_pushT rfl _ _ rfl ve.heap.size g2 c2 is (by rw [EL2.out]; rfl) O1.out LO.out ⟨vh.heap.size, 0, none⟩ (-1) rfl C1.out L1.out ?_; intro G3 c3 u2 hO hT; rw [EL2.out] at hO ⊢; have ON := hide (own_read hO.out); have OM := hide (own_read (O3.out.turn hT.out (by omega) (own_gt O3.out).2)); have BN := hide (BW.out.trans (hT.out.below (show w.heap.size ≤ g2 by omega) BW.out.size)); clear hO hT; refine Hid.out ?_)
      refine hide ?_
      obtain ⟨B1, r1⟩ := ON.out
      obtain ⟨B2, r2⟩ := OM.out
      have FIN := hide (And.intro r1 (And.intro r2 BN.out))
      have EN : Hid ((is ++ [(-1 : Int)]).length = M + 1) := show _ = _ by rw [List.length_append, EL2.out]; rfl
      clear O1 O3 C1 L1 LO ON OM BN BW r1 r2
      go_wp2
      exact bodyPost_ret (v := .tuple #[.slice (some ⟨g1, 0, none⟩) (N) c1, .slice (some ⟨G3, 0, none⟩) (M + 1) c3]) (by simp [results, Try.results4, go_sem]) rfl ⟨g1, N, c1, ws, G3, M + 1, c3, is ++ [-1], B2, B1, rfl, EL1.out, by omega, EN.out, by omega, FIN.out.2.1, FIN.out.1, FIN.out.2.2⟩
end Go.Proofs.Ytpbpabcokfblfaa.Draw
