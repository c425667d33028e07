/-
  Draws: the instructions of a piece of code (l21List).
-/
import Derived.Test.YtmmlhmhlfmafgaaDrawM
namespace Go.Proofs.Ytmmlhmhlfmafgaa.Draw
set_option linter.unusedVariables false
set_option linter.unusedSimpArgs false
open Go.ChangeShapes Go.WideShapes Go.ChangeAt Go.RowKit Flat
open IntS (Turn hide cell_below)
open Mch (Rec)
open InsS (In4 OwnI run_pushI)
theorem own_emptyI {w : World} {lo : Nat} (hlo : lo ≤ w.heap.size) : OwnI (w.alloc (.cells #[] 33)) lo (.slice (some ⟨w.heap.size, 0, none⟩) 0 0) [] :=
  ⟨rfl, Or.inr ⟨w.heap.size, 0, #[], rfl, hlo, by show (w.heap.push _)[w.heap.size]? = _; exact Array.getElem?_push_size, Nat.le_refl _, by unfold maxLen; omega, rfl, rfl⟩⟩
theorem push4 {w : World} {ty : TypeId} {lo cap n : Nat} {q : Option Addr} {is : List In4} (hown : OwnI w lo (.slice q n cap) is) (hl : is.length = n) (hn : n ≤ 1000000) (hlo : lo ≤ w.heap.size) (Z : Nat) (i : In4) (hr : Rec Z [.int .i64 i.op, .int .i64 i.d, .int .i64 i.a, .int .i64 i.k] w) :
    ∃ g' cap' w' T, (Builtin.append_ #[23, 23] ty #[.slice q n cap, .slice (some ⟨Z, 0, none⟩) 1 1]).run Try.prog w = .ok (.slice (some ⟨g', 0, none⟩) (n + 1) cap') w' ∧ OwnI w' lo (.slice (some ⟨g', 0, none⟩) (n + 1) cap') (is ++ [i]) ∧ Turn T w w' ∧ lo ≤ T := by
  subst hl
  obtain ⟨g', cap', w', h1, h2, h3, h4, h5⟩ := run_pushI (ty := ty) hown (by omega) hlo ⟨Z, 0, none⟩ i (by rw [Addr.add_lit]; exact hr.cell 0 _ rfl) (by rw [Addr.add_lit]; exact hr.cell 1 _ rfl) (by rw [Addr.add_lit]; exact hr.cell 2 _ rfl) (by rw [Addr.add_lit]; exact hr.cell 3 _ rfl)
  obtain ⟨T, t1, t2⟩ := grown_turn h5 (hown.q_form.imp (fun e => e.1) id)
  refine ⟨g', cap', w', T, h1, h2, t1, ?_⟩
  rcases t2 with t2 | t2
  · exact (hown.q_lt t2).1
  · omega
set_option maxRecDepth 8000 in
set_option maxHeartbeats 8000000 in
theorem listP (R q : Nat) (w : World) (h : Rd R q w) (hq : q ≤ 700000) :
    Calls Try.prog 21 #[.pointer (some ⟨R, 0, none⟩)] w fun e w' => ∃ qs cap is, e = .returned (.slice qs is.length cap) ∧ OwnI w' w.heap.size (.slice qs is.length cap) is ∧ (1 ≤ is.length ∧ is.length ≤ 8) ∧ Rd R (q + 80) w' ∧ Keep R w w' := by
  have hR := h.lt
  have K0 : Hid (Keep R w (w.alloc (.cells #[] 33))) := (Keep.refl R w).alloc _
  have H0 := hide (h.alloc (.cells #[] 33))
  have O0 := hide (own_emptyI (w := w) (lo := w.heap.size) (Nat.le_refl _))
  clear h
  go_enter Try.func21, Try.ntmps21
  go_wp2_with fail
  generalize w.alloc (.cells #[] 33) = u0 at K0 H0 O0 ⊢
  refine (pick R q 8 u0 H0.out (by omega)).mono ?_
  rintro e u1 ⟨x, rfl, x0, x1, -, h1, k1⟩
  obtain ⟨X, rfl⟩ : ∃ X : Nat, x = X := ⟨x.toNat, by omega⟩
  have X8 : X < 8 := by have := x1 (by omega); omega
  replace O0 := hide (OwnF.turn O0.out k1.turn (Or.inl hR))
  replace K0 := hide (K0.out.trans k1)
  have H1 := hide h1
  clear h1 k1 x0 x1 H0
  go_wp2
  go_loopw [3, 4] (fun s i wr => ∃ (kk j n cap : Nat) (qs : Option Addr) (is : List In4), i = .int .i64 (kk : Int) ∧ s = .slice qs n cap ∧ Hid (kk + j = X ∧ is.length = n ∧ n = j) ∧ Hid (OwnI wr w.heap.size (.slice qs n cap) is) ∧ Hid (Rd R (q + 1 + 8 * j) wr) ∧ Hid (Keep R w wr)) (fun _ i _ => (intOf i).toNat)
  case atStart => exact ⟨X, 0, 0, 0, _, [], rfl, rfl, ⟨Nat.add_zero X, rfl, rfl⟩, O0, H1.out.mono (by omega), K0⟩
  case round =>
    clear O0 H1 K0
    obtain ⟨kk, j, n, cap, qs, is, rfl, rfl, EE, OO, HH, KK⟩ := hrel
    have j8 : j ≤ 7 := by have := EE.out.1; omega
    by_cases h0 : kk = 0
    · subst h0
      have n7 : n ≤ 7 := by have := EE.out.2.2; omega
      have HN := hide (HH.out.mono (q' := q + 1 + 56) (by omega))
      have EL := hide EE.out.2.1
      clear HH EE
      go_wp2_with fail
      refine (pick R (q + 1 + 56) 3 wr HN.out (by omega)).mono ?_
      rintro e v1 ⟨y, rfl, y0, y1, -, h1, k1⟩
      replace y1 := y1 (by omega)
      replace OO := hide (OwnF.turn OO.out k1.turn (Or.inl hR))
      replace KK := hide (KK.out.trans k1)
      have H1 := hide h1
      clear h1 k1 HN
      by_cases c0 : y = 0
      · subst c0
        go_wp2_with fail
        refine (pick R (q + 1 + 56 + 1) 2 v1 H1.out (by omega)).mono ?_
        rintro e v2 ⟨a, rfl, a0, a1, -, h1, k1⟩
        replace a1 := a1 (by omega)
        replace OO := hide (OwnF.turn OO.out k1.turn (Or.inl hR))
        replace KK := hide (KK.out.trans k1)
        replace H1 := hide h1
        clear h1 k1
        go_wp2_with fail
        refine (pick R (q + 1 + 56 + 1 + 1) 4 v2 H1.out (by omega)).mono ?_
        rintro e v3 ⟨b, rfl, b0, b1, -, h1, k1⟩
        replace b1 := b1 (by omega)
        replace OO := hide (OwnF.turn OO.out k1.turn (Or.inl hR))
        replace KK := hide (KK.out.trans k1)
        replace H1 := hide h1
        clear h1 k1
        go_wp2_with fail
        refine (pick R (q + 1 + 56 + 1 + 1 + 1) 4 v3 H1.out (by omega)).mono ?_
        rintro e v4 ⟨c, rfl, c0, c1, -, h1, k1⟩
        replace c1 := c1 (by omega)
        replace OO := hide (OwnF.turn OO.out k1.turn (Or.inl hR))
        replace KK := hide (KK.out.trans k1)
        replace H1 := hide h1
        clear h1 k1
        go_wp2_with fail
        refine (pick R (q + 1 + 56 + 1 + 1 + 1 + 1) 64 v4 H1.out (by omega)).mono ?_
        rintro e v5 ⟨f, rfl, f0, f1, -, h1, k1⟩
        replace f1 := f1 (by omega)
        replace OO := hide (OwnF.turn OO.out k1.turn (Or.inl hR))
        replace KK := hide (KK.out.trans k1)
        replace H1 := hide h1
        clear h1 k1
        have bP : Below v5.heap.size v5 (v5.alloc (.cells #[.int .i64 (11 + a), .int .i64 b, .int .i64 c, .int .i64 f] 33)) := (Below.refl _ _).alloc (Nat.le_refl _) _
        have RP := Rec.new v5 [.int .i64 (11 + a), .int .i64 b, .int .i64 c, .int .i64 f] 33
        have KP := KK.out.trans (Keep.of_below bP)
        have SP : w.heap.size ≤ (v5.alloc (.cells #[.int .i64 (11 + a), .int .i64 b, .int .i64 c, .int .i64 f] 33)).heap.size := KP.size
        obtain ⟨g', cap', w', T, hrun, O2, TT, hT⟩ := push4 (ty := 23) (OwnF.below OO.out bP) EL.out (by omega) SP v5.heap.size ⟨(11 + a), b, c, f⟩ RP
        have FIN : Hid (∃ is' : List In4, is'.length = n + 1 ∧ OwnI w' w.heap.size (.slice (some ⟨g', 0, none⟩) (n + 1) cap') is' ∧ Rd R (q + 80) w' ∧ Keep R w w') := ⟨_, by rw [List.length_append, EL.out]; rfl, O2, (rd_turn (H1.out.below (bP.mono (by have := H1.out.lt; omega))) TT (by omega) (by have := H1.out.lt; have := bP.size; omega)).mono (by omega), keep_up KP TT hT⟩
        clear bP RP KP SP O2 TT hT OO KK H1
        go_wp2_with (at_builtin; refine push_list rfl _ _ rfl rfl rfl hrun ?_; refine Hid.out ?_)
        clear hrun
        refine hide ?_
        go_wp2
        go_ret
        obtain ⟨is', e1, e2, e3⟩ := FIN.out
        rw [← e1] at e2
        exact ⟨some ⟨g', 0, none⟩, cap', is', by rw [e1]; rfl, e2, by omega, e3⟩
      · by_cases c1 : y = 1
        · subst c1
          go_wp2_with fail
          refine (pick R (q + 1 + 56 + 1) 4 v1 H1.out (by omega)).mono ?_
          rintro e v2 ⟨a, rfl, a0, a1, -, h1, k1⟩
          replace a1 := a1 (by omega)
          replace OO := hide (OwnF.turn OO.out k1.turn (Or.inl hR))
          replace KK := hide (KK.out.trans k1)
          replace H1 := hide h1
          clear h1 k1
          have bP : Below v2.heap.size v2 (v2.alloc (.cells #[.int .i64 13, .int .i64 0, .int .i64 a, .int .i64 0] 33)) := (Below.refl _ _).alloc (Nat.le_refl _) _
          have RP := Rec.new v2 [.int .i64 13, .int .i64 0, .int .i64 a, .int .i64 0] 33
          have KP := KK.out.trans (Keep.of_below bP)
          have SP : w.heap.size ≤ (v2.alloc (.cells #[.int .i64 13, .int .i64 0, .int .i64 a, .int .i64 0] 33)).heap.size := KP.size
          obtain ⟨g', cap', w', T, hrun, O2, TT, hT⟩ := push4 (ty := 23) (OwnF.below OO.out bP) EL.out (by omega) SP v2.heap.size ⟨13, 0, a, 0⟩ RP
          have FIN : Hid (∃ is' : List In4, is'.length = n + 1 ∧ OwnI w' w.heap.size (.slice (some ⟨g', 0, none⟩) (n + 1) cap') is' ∧ Rd R (q + 80) w' ∧ Keep R w w') := ⟨_, by rw [List.length_append, EL.out]; rfl, O2, (rd_turn (H1.out.below (bP.mono (by have := H1.out.lt; omega))) TT (by omega) (by have := H1.out.lt; have := bP.size; omega)).mono (by omega), keep_up KP TT hT⟩
          clear bP RP KP SP O2 TT hT OO KK H1
          go_wp2_with (at_builtin; refine push_list rfl _ _ rfl rfl rfl hrun ?_; refine Hid.out ?_)
          clear hrun
          refine hide ?_
          go_wp2
          go_ret
          obtain ⟨is', e1, e2, e3⟩ := FIN.out
          rw [← e1] at e2
          exact ⟨some ⟨g', 0, none⟩, cap', is', by rw [e1]; rfl, e2, by omega, e3⟩
        · have m0 : (y == 0) = false := beq_eq_false_iff_ne.2 c0
          have m1 : (y == 1) = false := beq_eq_false_iff_ne.2 c1
          go_wp2_with fail
          refine (flat R (q + 1 + 56 + 1) v1 H1.out (by omega)).mono ?_
          rintro e v2 ⟨a, b, c, f, rfl, h1, k1⟩
          replace OO := hide (OwnF.turn OO.out k1.turn (Or.inl hR))
          replace KK := hide (KK.out.trans k1)
          replace H1 := hide h1
          clear h1 k1
          have bP : Below v2.heap.size v2 (v2.alloc (.cells #[.int .i64 a, .int .i64 b, .int .i64 c, .int .i64 f] 33)) := (Below.refl _ _).alloc (Nat.le_refl _) _
          have RP := Rec.new v2 [.int .i64 a, .int .i64 b, .int .i64 c, .int .i64 f] 33
          have KP := KK.out.trans (Keep.of_below bP)
          have SP : w.heap.size ≤ (v2.alloc (.cells #[.int .i64 a, .int .i64 b, .int .i64 c, .int .i64 f] 33)).heap.size := KP.size
          obtain ⟨g', cap', w', T, hrun, O2, TT, hT⟩ := push4 (ty := 23) (OwnF.below OO.out bP) EL.out (by omega) SP v2.heap.size ⟨a, b, c, f⟩ RP
          have FIN : Hid (∃ is' : List In4, is'.length = n + 1 ∧ OwnI w' w.heap.size (.slice (some ⟨g', 0, none⟩) (n + 1) cap') is' ∧ Rd R (q + 80) w' ∧ Keep R w w') := ⟨_, by rw [List.length_append, EL.out]; rfl, O2, (rd_turn (H1.out.below (bP.mono (by have := H1.out.lt; omega))) TT (by omega) (by have := H1.out.lt; have := bP.size; omega)).mono (by omega), keep_up KP TT hT⟩
          clear bP RP KP SP O2 TT hT OO KK H1
          go_wp2_with (at_builtin; refine push_list rfl _ _ rfl rfl rfl hrun ?_; refine Hid.out ?_)
          clear hrun
          refine hide ?_
          go_wp2
          go_ret
          obtain ⟨is', e1, e2, e3⟩ := FIN.out
          rw [← e1] at e2
          exact ⟨some ⟨g', 0, none⟩, cap', is', by rw [e1]; rfl, e2, by omega, e3⟩
    · obtain ⟨m, rfl⟩ : ∃ m, kk = m + 1 := ⟨kk - 1, by omega⟩
      have gt : (0 : Int) < ((m + 1 : Nat) : Int) := by omega
      have m7 : m ≤ 7 := by have := EE.out.1; omega
      have EL := hide EE.out.2.1
      have n7 : n ≤ 7 := by have := EE.out.2.2; omega
      go_wp2_with fail
      refine (flat R (q + 1 + 8 * j) wr HH.out (by omega)).mono ?_
      rintro e v2 ⟨a, b, c, f, rfl, h1, k1⟩
      replace OO := hide (OwnF.turn OO.out k1.turn (Or.inl hR))
      replace KK := hide (KK.out.trans k1)
      have H1 := hide h1
      clear h1 k1 HH
      have bP : Below v2.heap.size v2 (v2.alloc (.cells #[.int .i64 a, .int .i64 b, .int .i64 c, .int .i64 f] 33)) := (Below.refl _ _).alloc (Nat.le_refl _) _
      have RP := Rec.new v2 [.int .i64 a, .int .i64 b, .int .i64 c, .int .i64 f] 33
      have KP := KK.out.trans (Keep.of_below bP)
      have SP : w.heap.size ≤ (v2.alloc (.cells #[.int .i64 a, .int .i64 b, .int .i64 c, .int .i64 f] 33)).heap.size := KP.size
      obtain ⟨g', cap', w', T, hrun, O2, TT, hT⟩ := push4 (ty := 23) (OwnF.below OO.out bP) EL.out (by omega) SP v2.heap.size ⟨a, b, c, f⟩ RP
      have H2 : Hid (Rd R (q + 1 + 8 * (j + 1)) w') := (rd_turn (H1.out.below (bP.mono (by have := H1.out.lt; omega))) TT (by omega) (by have := H1.out.lt; have := bP.size; omega)).mono (by omega)
      have K2 := hide (keep_up KP TT hT)
      have OO2 := hide O2
      have EE2 : Hid (m + (j + 1) = X ∧ (is ++ [(⟨a, b, c, f⟩ : In4)]).length = n + 1 ∧ n + 1 = j + 1) := ⟨by have := EE.out.1; omega, by rw [List.length_append, EL.out]; rfl, by rw [EE.out.2.2]⟩
      have ki : (((m + 1 : Nat) : Int) - 1) = (m : Int) := by omega
      clear bP RP KP SP O2 TT hT OO KK H1 EE EL
      go_wp2_with (at_builtin; refine push_list rfl _ _ rfl rfl rfl hrun ?_; refine Hid.out ?_)
      clear hrun
      refine hide ?_
      go_wp2
      exact ⟨⟨m, j + 1, n + 1, cap', _, _, by first | rfl | (rw [ki]; done) | (simp; done) | (simp; omega), rfl, EE2, OO2, H2, K2⟩, by simp [intOf] <;> omega⟩
theorem list (R q : Nat) (w : World) (h : Rd R q w) (hq : q ≤ 700000) :
    Calls Try.prog 21 #[.pointer (some ⟨R, 0, none⟩)] w fun e w' => ∃ qs cap is, e = .returned (.slice qs is.length cap) ∧ OwnI w' w.heap.size (.slice qs is.length cap) is ∧ is.length ≤ 8 ∧ Rd R (q + 80) w' ∧ Keep R w w' :=
  (listP R q w h hq).mono fun e w' ⟨qs, cap, is, h1, h2, h3, h4⟩ => ⟨qs, cap, is, h1, h2, h3.2, h4⟩
end Go.Proofs.Ytmmlhmhlfmafgaa.Draw
