/-
  Draws: a sum, now and then one that is not ok (l21PolyOr).
-/
import Derived.Test.YtckhfpaicnjknaaGreatDrawPb
namespace Go.Proofs.YtckhfpaicnjknaaGreat.Draw
set_option linter.unusedVariables false
set_option linter.unusedSimpArgs false
open Go.ChangeShapes Go.WideShapes Go.ChangeAt Go.RowKit
open IntS (Turn hide cell_below Row WRow IsT)
open Pol (Rec Mono WPoly WP PRow Mine OwnM addB addP mulB mulP scaleP constP atomP flat)
theorem DP.other {w w' : World} {lo T : Nat} {v : Value} {ps : List Mono} (h : DP w lo v ps) (ht : Turn T w w') (hi : IsT w T 25) : DP w' lo v ps := by
  have mp : (55 : TypeId) ≠ 25 := by decide
  have ip : (3 : TypeId) ≠ 25 := by decide
  obtain ⟨cs, h1, h2, h3⟩ := h
  refine ⟨cs, h1.turn ht (fun G n c e => ?_), h2, fun i x hx => ?_⟩
  · rw [e] at h1
    exact IsT.ne h1.cells.2.2.2.2.1 hi mp
  · obtain ⟨s, b, k1, k2, k3⟩ := h3 i x hx
    exact ⟨s, b, k1, row_turn k2 ht (k3.imp id fun q => IsT.ne q.2 hi ip), k3.imp id fun q => ⟨q.1, q.2.turn ht (IsT.ne q.2 hi ip)⟩⟩
theorem lit_mono2 (w : World) (x : Int) (xs : List Int) (hn : xs.length ≤ 1000) (n : Nat) (en : xs.length = n) : DP ((w.alloc (.cells (xs.map (Value.int .i64)).toArray 3)).alloc (.cells #[.int .i64 x, .slice (some ⟨w.heap.size, 0, none⟩) n n] 55)) w.heap.size (.slice (some ⟨w.heap.size + 1, 0, none⟩) 1 1) [(x, xs)] := by
  subst en
  obtain ⟨r, i⟩ := lit_row (w := w) (xs := xs) (by omega)
  have b := alloc_below (w.alloc (.cells (xs.map (Value.int .i64)).toArray 3)) (.cells #[.int .i64 x, .slice (some ⟨w.heap.size, 0, none⟩) xs.length xs.length] 55)
  have O := own_lit (w := w.alloc (.cells (xs.map (Value.int .i64)).toArray 3)) (lo := w.heap.size) (cs := [(x, .slice (some ⟨w.heap.size, 0, none⟩) xs.length xs.length)]) (by simp) (by simp)
  rw [show (w.alloc (.cells (xs.map (Value.int .i64)).toArray 3)).heap.size = w.heap.size + 1 by simp] at O
  exact ⟨_, O, rfl, fun j y hy => by
    match j, hy with
    | 0, hy => cases hy; exact ⟨_, w.heap.size, rfl, r.below b, Or.inr ⟨Nat.le_refl _, i.below b⟩⟩
    | j + 1, hy => simp at hy⟩
theorem lit_two (w : World) (x y : Int) : DP (w.alloc (.cells #[.int .i64 x, .slice none 0 0, .int .i64 y, .slice none 0 0] 55)) w.heap.size (.slice (some ⟨w.heap.size, 0, none⟩) 2 2) [(x, []), (y, [])] :=
  ⟨_, own_lit (cs := [(x, .slice none 0 0), (y, .slice none 0 0)]) (Nat.le_refl _) (by simp), rfl, fun i z hz => by
    match i, hz with
    | 0, hz => cases hz; exact ⟨_, 0, rfl, nil_row _ _, Or.inl rfl⟩
    | 1, hz => cases hz; exact ⟨_, 0, rfl, nil_row _ _, Or.inl rfl⟩
    | i + 2, hz => simp at hz⟩
theorem add_cell (w : World) (b i : Nat) (v : Value) (h : w.cell? ⟨b, i, none⟩ = some v) : w.cell? ((⟨b, 0, none⟩ : Addr).add i) = some v := by rw [Go.WideShapes.add_plain, Nat.zero_add]; exact h
/-- A box stays while a part is put. -/
theorem po_five {w w' : World} {lo X : Nat} {q : Option Addr} {n c : Nat} {cs : List (Int × Value)} {vs : List Value} (ho : OwnM w lo (.slice q n c) cs) (hg : w.grownBy w' (Value.slice q n c).ownBlock) (hi : IsT w X 25) (hz : Rec X vs w) : Rec X vs w' ∧ IsT w' X 25 := by
  have mp : (55 : TypeId) ≠ 25 := by decide
  obtain ⟨T, hT, hTl, hTi, hTm⟩ := Pol.ownBlock_turn ho hg
  have ne : X ≠ T := fun e => by
    subst e
    exact IsT.ne (hTm hi.lt) hi mp rfl
  exact ⟨hz.turn hT ne, hi.turn hT ne⟩
/-- How such a draw ends: its answer stands in a box. -/
theorem po_end {R q q' lo : Nat} {w W : World} {a : Option Addr} {n c : Nat} {ps : List Mono} (hD : DP W lo (.slice a n c) ps) (hlo : w.heap.size < lo) (hR : R < w.heap.size) (hr : Rd R q W) (hk : Keep R w W) (hq : q ≤ q') : PS (W.setCell ⟨w.heap.size, 0, none⟩ (.slice a n c)) (fun b => w.heap.size ≤ b) (.slice a n c) ps ∧ Rd R q' (W.setCell ⟨w.heap.size, 0, none⟩ (.slice a n c)) ∧ Keep R w (W.setCell ⟨w.heap.size, 0, none⟩ (.slice a n c)) :=
  ⟨((hD.turn (set_turn w.heap.size W 0 _) hlo).ps).mono (fun b _ h => by have h2 : lo ≤ b := h; omega), (rd_turn hr (set_turn w.heap.size W 0 _) hR hr.lt).mono hq, keep_up hk (set_turn w.heap.size W 0 _) (Nat.le_refl _)⟩
set_option maxRecDepth 8000 in
set_option maxHeartbeats 16000000 in
theorem polyOr (R q : Nat) (n : Int) (w : World) (h : Rd R q w) (hq : q ≤ 400000) (hn : 1 ≤ n) (hn2 : n ≤ 1000) :
    Calls Tryz.prog 30 #[.pointer (some ⟨R, 0, none⟩), .int .i64 n] w fun e w' => ∃ a c ps, e = .returned (.agg #[.slice a (List.length ps) c]) ∧ PS w' (fun b => w.heap.size ≤ b) (.slice a ps.length c) ps ∧ Rd R (q + 90) w' ∧ Keep R w w' := by
  have hR := h.lt
  have Z4 := hide (Rec.new w [.slice none 0 0] 25)
  have K0 : Hid (Keep R w (w.alloc (.cells #[.slice none 0 0] 25))) := (Keep.refl R w).alloc _
  have H0 := hide (h.alloc (.cells #[.slice none 0 0] 25))
  clear h
  go_enter Tryz.func30, Tryz.ntmps30
  go_wp2_with fail
  generalize (w.alloc (.cells #[.slice none 0 0] 25)) = va at Z4 K0 H0 ⊢
  refine (poly R q va H0.out (by omega)).mono ?_
  rintro e vb ⟨a, c, ps, rfl, D1, PL, h1, k1⟩
  have b2 := alloc_below vb (.cells #[.slice a ps.length c] 25)
  have DD := hide ((D1.below b2).mono (show w.heap.size + 1 ≤ va.heap.size from Z4.out.lt))
  have Z5 := hide (Rec.new vb [.slice a ps.length c] 25)
  have I5 := hide (IsT.new vb #[.slice a ps.length c] 25)
  have L5 : w.heap.size < vb.heap.size := Nat.lt_of_lt_of_le Z4.out.lt k1.size
  replace Z4 := hide ((rec_keep Z4.out k1 (by omega)).below b2)
  replace K0 := hide (keep_low (K0.out.trans k1) b2)
  have H1 := hide (h1.below (b2.mono (by have := h1.lt; omega)))
  have HPL := hide PL
  clear D1 h1 k1 b2 H0 PL
  go_wp2_with fail
  generalize hZ : vb.heap.size = X5 at Z5 I5 L5 ⊢
  clear hZ
  generalize (vb.alloc (.cells #[.slice a ps.length c] 25)) = vc at Z5 I5 DD Z4 K0 H1 ⊢
  refine (odd R (q + 80) n vc H1.out (by omega) hn hn2).mono ?_
  rintro e vd ⟨bb, rfl, h2, k2⟩
  replace Z4 := hide (rec_keep Z4.out k2 (by omega))
  replace Z5 := hide (rec_keep Z5.out k2 (by omega))
  replace I5 := hide (I5.out.turn k2.turn (by omega))
  replace DD := hide (DD.out.keep k2 (by omega))
  replace K0 := hide (K0.out.trans k2)
  replace H1 := hide h2
  clear h2 k2
  cases bb with
  | false =>
    have d5 := Z5.out.cell 0 _ rfl
    have z4 := Z4.out.cell 0 _ rfl
    have s4 := Z4.out.soft 0
    have FIN := hide (po_end DD.out (Nat.lt_succ_self _) hR H1.out K0.out (show q + 80 + 1 ≤ q + 90 by omega))
    have Zn := hide (Z4.out.set 0 (.slice a ps.length c) (by simp) (show _ = [.slice a ps.length c] from rfl))
    clear Z4 Z5 I5 DD K0 H1
    go_wp2
    generalize vd.setCell ⟨w.heap.size, 0, none⟩ (.slice a ps.length c) = U at FIN Zn ⊢
    have zn := Zn.out.cell 0 _ rfl
    exact bodyPost_ret (v := .agg #[.slice a ps.length c]) (by simp [results, Tryz.results30, go_sem, zn]) rfl ⟨a, c, ps, rfl, FIN.out⟩
  | true =>
    go_wp2_with fail
    refine (pick R (q + 80 + 1) 5 vd H1.out (by omega)).mono ?_
    rintro e ve ⟨x, rfl, x0, x1, -, h2, k2⟩
    replace Z4 := hide (rec_keep Z4.out k2 (by omega))
    replace Z5 := hide (rec_keep Z5.out k2 (by omega))
    replace I5 := hide (I5.out.turn k2.turn (by omega))
    replace DD := hide (DD.out.keep k2 (by omega))
    replace K0 := hide (K0.out.trans k2)
    replace H1 := hide h2
    replace x1 := x1 (by omega)
    clear h2 k2
    obtain ⟨X, rfl⟩ : ∃ X : Nat, x = X := ⟨x.toNat, by omega⟩
    have X5' : X < 5 := by omega
    clear x0 x1
    have s4 := Z4.out.soft 0
    have z4 := Z4.out.cell 0 _ rfl
    have d5 := Z5.out.cell 0 _ rfl
    have hX : X = 0 ∨ X = 1 ∨ X = 2 ∨ X = 3 ∨ X = 4 := by omega
    clear X5'
    rcases hX with rfl | rfl | rfl | rfl | rfl

    · have D2 := DD.out.below (alloc_below ve (.cells #[.int .i64 0, .slice none 0 0] 55))
      obtain ⟨cs, ho, hl, hr⟩ := D2
      have OO := hide ho
      have HL := hide hl
      have HR := hide hr
      have b2 := alloc_below ve (.cells #[.int .i64 0, .slice none 0 0] 55)
      have LO : Hid (w.heap.size + 1 ≤ (ve.alloc (.cells #[.int .i64 0, .slice none 0 0] 55)).heap.size) := show _ ≤ _ by have := Z5.out.lt; simp; omega
      have A1 : Hid ((ve.alloc (.cells #[.int .i64 0, .slice none 0 0] 55)).cell? ((⟨ve.heap.size, 0, none⟩ : Addr).add 0) = some (.int .i64 0)) := add_cell _ _ 0 _ (by simp)
      have A2 : Hid ((ve.alloc (.cells #[.int .i64 0, .slice none 0 0] 55)).cell? ((⟨ve.heap.size, 0, none⟩ : Addr).add 1) = some (.slice none 0 0)) := add_cell _ _ 1 _ (by simp)
      have A3 : Hid (cs.length ≤ 1000000) := show _ ≤ _ by have := HPL.out; omega
      replace K0 := hide (keep_low K0.out b2)
      replace H1 := hide (H1.out.below (b2.mono (by have := H1.out.lt; omega)))
      replace Z4 := hide (Z4.out.below b2)
      clear ho hl hr b2 Z5 I5 DD
      go_wp2_with (at_builtin; refine Pol.wpList_pushM rfl _ _ rfl (w.heap.size + 1) (.slice a ps.length c) cs rfl OO.out LO.out ⟨ve.heap.size, 0, none⟩ 0 none 0 0 rfl A1.out A2.out A3.out ?_; intro G cap u4 hO hg; obtain ⟨DN0, T, hT, hTl⟩ := DP.push OO.out HL.out HR.out (nil_row _ 0) (Or.inl rfl) hO.out hg.out; have Z4n := Z4.out.turn hT (by omega); have s4n := Z4n.soft 0; have z4n := Z4n.cell 0 _ rfl; have FIN := hide (po_end DN0 (Nat.lt_succ_self _) hR (rd_turn H1.out hT (by omega) H1.out.lt) (keep_up K0.out hT (by omega)) (show q + 80 + 1 + 1 ≤ q + 90 by omega)); have Zn := hide (Z4n.set 0 (.slice (some ⟨G, 0, none⟩) (cs.length + 1) cap) (by simp) (show _ = [.slice (some ⟨G, 0, none⟩) (cs.length + 1) cap] from rfl)); clear hO hg DN0 hT hTl Z4n; refine Hid.out ?_)
      refine hide ?_
      clear Z4 K0 H1 OO HR A1 A2 A3 LO
      go_wp2
      generalize u4.setCell ⟨w.heap.size, 0, none⟩ (.slice (some ⟨G, 0, none⟩) (cs.length + 1) cap) = U at FIN Zn ⊢
      have zn := Zn.out.cell 0 _ rfl
      have el : (ps ++ [((0 : Int), ([] : List Int))]).length = cs.length + 1 := by simp [HL.out]
      exact bodyPost_ret (v := .agg #[.slice (some ⟨G, 0, none⟩) (cs.length + 1) cap]) (by simp [results, Tryz.results30, go_sem, zn]) rfl ⟨_, cap, ps ++ [(0, [])], by rw [el], by rw [el]; exact FIN.out⟩

    · have b2 : Below ve.heap.size ve ((ve.alloc (.cells #[.int .i64 2, .int .i64 1] 3)).alloc (.cells #[.int .i64 3, .slice (some ⟨ve.heap.size, 0, none⟩) 2 2] 55)) := (alloc_below _ _).trans ((alloc_below _ _).mono (by simp))
      have DN : Hid (DP ((ve.alloc (.cells #[.int .i64 2, .int .i64 1] 3)).alloc (.cells #[.int .i64 3, .slice (some ⟨ve.heap.size, 0, none⟩) 2 2] 55)) (w.heap.size + 1) (.slice (some ⟨ve.heap.size + 1, 0, none⟩) 1 1) [(3, [2, 1])]) := (lit_mono2 ve 3 [2, 1] (by simp) 2 rfl).mono (by have := Z5.out.lt; omega)
      have Z4n := Z4.out.below b2
      have s4n := Z4n.soft 0
      have z4n := Z4n.cell 0 _ rfl
      have FIN := hide (po_end DN.out (Nat.lt_succ_self _) hR (H1.out.below (b2.mono (by have := H1.out.lt; omega))) (keep_low K0.out b2) (show q + 80 + 1 + 1 ≤ q + 90 by omega))
      have Zn := hide (Z4n.set 0 (.slice (some ⟨ve.heap.size + 1, 0, none⟩) 1 1) (by simp) (show _ = [.slice (some ⟨ve.heap.size + 1, 0, none⟩) 1 1] from rfl))
      clear b2 DN Z4n Z4 Z5 I5 DD K0 H1 z4 s4 d5
      go_wp2
      generalize ((ve.alloc (.cells #[.int .i64 2, .int .i64 1] 3)).alloc (.cells #[.int .i64 3, .slice (some ⟨ve.heap.size, 0, none⟩) 2 2] 55)).setCell ⟨w.heap.size, 0, none⟩ (.slice (some ⟨ve.heap.size + 1, 0, none⟩) 1 1) = U at FIN Zn ⊢
      have zn := Zn.out.cell 0 _ rfl
      exact bodyPost_ret (v := .agg #[.slice (some ⟨ve.heap.size + 1, 0, none⟩) 1 1]) (by simp [results, Tryz.results30, go_sem, zn]) rfl ⟨_, 1, [(3, [2, 1])], rfl, FIN.out⟩
    · have b2 : Below ve.heap.size ve ((ve.alloc (.cells #[.int .i64 0, .int .i64 0, .int .i64 0, .int .i64 0, .int .i64 0] 3)).alloc (.cells #[.int .i64 3, .slice (some ⟨ve.heap.size, 0, none⟩) 5 5] 55)) := (alloc_below _ _).trans ((alloc_below _ _).mono (by simp))
      have DN : Hid (DP ((ve.alloc (.cells #[.int .i64 0, .int .i64 0, .int .i64 0, .int .i64 0, .int .i64 0] 3)).alloc (.cells #[.int .i64 3, .slice (some ⟨ve.heap.size, 0, none⟩) 5 5] 55)) (w.heap.size + 1) (.slice (some ⟨ve.heap.size + 1, 0, none⟩) 1 1) [(3, [0, 0, 0, 0, 0])]) := (lit_mono2 ve 3 [0, 0, 0, 0, 0] (by simp) 5 rfl).mono (by have := Z5.out.lt; omega)
      have Z4n := Z4.out.below b2
      have s4n := Z4n.soft 0
      have z4n := Z4n.cell 0 _ rfl
      have FIN := hide (po_end DN.out (Nat.lt_succ_self _) hR (H1.out.below (b2.mono (by have := H1.out.lt; omega))) (keep_low K0.out b2) (show q + 80 + 1 + 1 ≤ q + 90 by omega))
      have Zn := hide (Z4n.set 0 (.slice (some ⟨ve.heap.size + 1, 0, none⟩) 1 1) (by simp) (show _ = [.slice (some ⟨ve.heap.size + 1, 0, none⟩) 1 1] from rfl))
      clear b2 DN Z4n Z4 Z5 I5 DD K0 H1 z4 s4 d5
      go_wp2
      generalize ((ve.alloc (.cells #[.int .i64 0, .int .i64 0, .int .i64 0, .int .i64 0, .int .i64 0] 3)).alloc (.cells #[.int .i64 3, .slice (some ⟨ve.heap.size, 0, none⟩) 5 5] 55)).setCell ⟨w.heap.size, 0, none⟩ (.slice (some ⟨ve.heap.size + 1, 0, none⟩) 1 1) = U at FIN Zn ⊢
      have zn := Zn.out.cell 0 _ rfl
      exact bodyPost_ret (v := .agg #[.slice (some ⟨ve.heap.size + 1, 0, none⟩) 1 1]) (by simp [results, Tryz.results30, go_sem, zn]) rfl ⟨_, 1, [(3, [0, 0, 0, 0, 0])], rfl, FIN.out⟩
    · have b2 : Below ve.heap.size ve (ve.alloc (.cells #[.int .i64 3, .slice none 0 0, .int .i64 4, .slice none 0 0] 55)) := (alloc_below _ _)
      have DN : Hid (DP (ve.alloc (.cells #[.int .i64 3, .slice none 0 0, .int .i64 4, .slice none 0 0] 55)) (w.heap.size + 1) (.slice (some ⟨ve.heap.size, 0, none⟩) 2 2) [(3, []), (4, [])]) := (lit_two ve 3 4).mono (by have := Z5.out.lt; omega)
      have Z4n := Z4.out.below b2
      have s4n := Z4n.soft 0
      have z4n := Z4n.cell 0 _ rfl
      have FIN := hide (po_end DN.out (Nat.lt_succ_self _) hR (H1.out.below (b2.mono (by have := H1.out.lt; omega))) (keep_low K0.out b2) (show q + 80 + 1 + 1 ≤ q + 90 by omega))
      have Zn := hide (Z4n.set 0 (.slice (some ⟨ve.heap.size, 0, none⟩) 2 2) (by simp) (show _ = [.slice (some ⟨ve.heap.size, 0, none⟩) 2 2] from rfl))
      clear b2 DN Z4n Z4 Z5 I5 DD K0 H1 z4 s4 d5
      go_wp2
      generalize (ve.alloc (.cells #[.int .i64 3, .slice none 0 0, .int .i64 4, .slice none 0 0] 55)).setCell ⟨w.heap.size, 0, none⟩ (.slice (some ⟨ve.heap.size, 0, none⟩) 2 2) = U at FIN Zn ⊢
      have zn := Zn.out.cell 0 _ rfl
      exact bodyPost_ret (v := .agg #[.slice (some ⟨ve.heap.size, 0, none⟩) 2 2]) (by simp [results, Tryz.results30, go_sem, zn]) rfl ⟨_, 2, [(3, []), (4, [])], rfl, FIN.out⟩
    · clear z4 s4 d5
      go_wp2
      go_loopw [] (fun wr => ∃ (a : Option Addr) (c : Nat) (ps : List Mono), Hid (ps.length ≤ 13) ∧ Hid (Rec w.heap.size [.slice none 0 0] wr) ∧ Hid (Rec X5 [.slice a ps.length c] wr) ∧ Hid (IsT wr X5 25) ∧ Hid (DP wr (w.heap.size + 1) (.slice a ps.length c) ps) ∧ Hid (Rd R (q + 80 + 1 + 1) wr) ∧ Hid (Keep R w wr)) (fun wr => match wr.cell? ⟨X5, 0, none⟩ with | some (.slice _ n _) => 13 - n | _ => 0)
      case atStart => exact ⟨a, c, ps, Nat.le_succ_of_le HPL.out, Z4, Z5, I5, DD, H1, K0⟩
      case round =>
        clear Z4 Z5 I5 DD H1 K0 HPL
        obtain ⟨a, c, ps, PL, Z4, Z5, I5, DD, H1, K0⟩ := hrel
        have d5 := Z5.out.cell 0 _ rfl
        have c5 := hide d5
        by_cases hl : ps.length ≤ 12
        case neg =>
          have lk : ¬ ((ps.length : Nat) : Int) ≤ 12 := by omega
          have z4 := Z4.out.cell 0 _ rfl
          have s4 := Z4.out.soft 0
          have FIN := hide (po_end DD.out (Nat.lt_succ_self _) hR H1.out K0.out (show q + 80 + 1 + 1 ≤ q + 90 by omega))
          have Zn := hide (Z4.out.set 0 (.slice a ps.length c) (by simp) (show _ = [.slice a ps.length c] from rfl))
          clear Z4 Z5 I5 DD K0 H1
          go_wp2
          generalize wr.setCell ⟨w.heap.size, 0, none⟩ (.slice a ps.length c) = U at FIN Zn ⊢
          have zn := Zn.out.cell 0 _ rfl
          exact bodyPost_ret (v := .agg #[.slice a ps.length c]) (by simp [results, Tryz.results30, go_sem, zn]) rfl ⟨a, c, ps, rfl, FIN.out⟩
        have lk : ((ps.length : Nat) : Int) ≤ 12 := by omega
        have b2 : Below wr.heap.size wr ((wr.alloc (.cells #[.int .i64 7, .int .i64 7, .int .i64 7, .int .i64 (7 + (ps.length : Int))] 3)).alloc (.cells #[.int .i64 1, .slice (some ⟨wr.heap.size, 0, none⟩) 4 4] 55)) := (alloc_below _ _).trans ((alloc_below _ _).mono (by simp))
        obtain ⟨cs, ho, hl2, hr⟩ := DD.out.below b2
        obtain ⟨r0, i0⟩ := lit_row (w := wr) (xs := [7, 7, 7, 7 + (ps.length : Int)]) (by simp)
        have bb := alloc_below (wr.alloc (.cells #[.int .i64 7, .int .i64 7, .int .i64 7, .int .i64 (7 + (ps.length : Int))] 3)) (.cells #[.int .i64 1, .slice (some ⟨wr.heap.size, 0, none⟩) 4 4] 55)
        have RR : Hid (Row ((wr.alloc (.cells #[.int .i64 7, .int .i64 7, .int .i64 7, .int .i64 (7 + (ps.length : Int))] 3)).alloc (.cells #[.int .i64 1, .slice (some ⟨wr.heap.size, 0, none⟩) 4 4] 55)) wr.heap.size (.slice (some ⟨wr.heap.size, 0, none⟩) 4 4) [7, 7, 7, 7 + (ps.length : Int)] ∧ IsT ((wr.alloc (.cells #[.int .i64 7, .int .i64 7, .int .i64 7, .int .i64 (7 + (ps.length : Int))] 3)).alloc (.cells #[.int .i64 1, .slice (some ⟨wr.heap.size, 0, none⟩) 4 4] 55)) wr.heap.size 3) := ⟨r0.below bb, i0.below bb⟩
        have OO := hide ho
        have HL := hide hl2
        have HR := hide hr
        have LW : w.heap.size + 1 ≤ wr.heap.size := Z4.out.lt
        have LO : Hid (w.heap.size + 1 ≤ ((wr.alloc (.cells #[.int .i64 7, .int .i64 7, .int .i64 7, .int .i64 (7 + (ps.length : Int))] 3)).alloc (.cells #[.int .i64 1, .slice (some ⟨wr.heap.size, 0, none⟩) 4 4] 55)).heap.size) := show _ ≤ _ by simp; omega
        have A1 : Hid (((wr.alloc (.cells #[.int .i64 7, .int .i64 7, .int .i64 7, .int .i64 (7 + (ps.length : Int))] 3)).alloc (.cells #[.int .i64 1, .slice (some ⟨wr.heap.size, 0, none⟩) 4 4] 55)).cell? ((⟨wr.heap.size + 1, 0, none⟩ : Addr).add 0) = some (.int .i64 1)) := add_cell _ _ 0 _ (by have := World.cell?_alloc_new (wr.alloc (.cells #[.int .i64 7, .int .i64 7, .int .i64 7, .int .i64 (7 + (ps.length : Int))] 3)); simp [Nat.add_comm]) 
        have A2 : Hid (((wr.alloc (.cells #[.int .i64 7, .int .i64 7, .int .i64 7, .int .i64 (7 + (ps.length : Int))] 3)).alloc (.cells #[.int .i64 1, .slice (some ⟨wr.heap.size, 0, none⟩) 4 4] 55)).cell? ((⟨wr.heap.size + 1, 0, none⟩ : Addr).add 1) = some (.slice (some ⟨wr.heap.size, 0, none⟩) 4 4)) := add_cell _ _ 1 _ (by simp)
        have A3 : Hid (cs.length ≤ 1000000) := show _ ≤ _ by omega
        replace K0 := hide (keep_low K0.out b2)
        replace H1 := hide (H1.out.below (b2.mono (by have := H1.out.lt; omega)))
        replace Z4 := hide (Z4.out.below b2)
        replace Z5 := hide (Z5.out.below b2)
        replace I5 := hide (I5.out.below b2)
        have H12 := hide hl
        clear ho hl2 hr b2 DD r0 i0 bb hl PL
        go_wp2_with (at_builtin; refine Pol.wpList_pushM rfl _ _ rfl (w.heap.size + 1) (.slice a ps.length c) cs rfl OO.out LO.out ⟨wr.heap.size + 1, 0, none⟩ 1 (some ⟨wr.heap.size, 0, none⟩) 4 4 rfl A1.out A2.out A3.out ?_; intro G cap u4 hO hg; have NXT := hide (DP.push OO.out HL.out HR.out RR.out.1 (Or.inr ⟨LW, RR.out.2⟩) hO.out hg.out); have IT4 := hide (po_five OO.out hg.out I5.out Z5.out); clear hO hg; refine Hid.out ?_)
        refine hide ?_
        obtain ⟨DN0, T, hT, hTl⟩ := NXT.out
        obtain ⟨Z5n, I5n⟩ := IT4.out
        have e5 := Z5n.cell 0 _ rfl
        have s5 := Z5n.soft 0
        have el : (ps ++ [((1 : Int), [7, 7, 7, 7 + (ps.length : Int)])]).length = cs.length + 1 := by simp [HL.out]
        have TS := set_turn X5 u4 0 (.slice (some ⟨G, 0, none⟩) (cs.length + 1) cap)
        have F1 : Hid (Rec w.heap.size [.slice none 0 0] (u4.setCell ⟨X5, 0, none⟩ (.slice (some ⟨G, 0, none⟩) (cs.length + 1) cap))) := (Z4.out.turn hT (by omega)).turn TS (by omega)
        have F2 : Hid (Rec X5 [.slice (some ⟨G, 0, none⟩) (ps ++ [((1 : Int), [7, 7, 7, 7 + (ps.length : Int)])]).length cap] (u4.setCell ⟨X5, 0, none⟩ (.slice (some ⟨G, 0, none⟩) (cs.length + 1) cap))) := by rw [el]; exact Z5n.set 0 _ (by simp) rfl
        have F3 : Hid (IsT (u4.setCell ⟨X5, 0, none⟩ (.slice (some ⟨G, 0, none⟩) (cs.length + 1) cap)) X5 25) := I5n.set _ _
        have F4 : Hid (DP (u4.setCell ⟨X5, 0, none⟩ (.slice (some ⟨G, 0, none⟩) (cs.length + 1) cap)) (w.heap.size + 1) (.slice (some ⟨G, 0, none⟩) (ps ++ [((1 : Int), [7, 7, 7, 7 + (ps.length : Int)])]).length cap) (ps ++ [((1 : Int), [7, 7, 7, 7 + (ps.length : Int)])])) := by rw [el]; exact DN0.other TS I5n
        have F5 : Hid (Rd R (q + 80 + 1 + 1) (u4.setCell ⟨X5, 0, none⟩ (.slice (some ⟨G, 0, none⟩) (cs.length + 1) cap))) := rd_turn (rd_turn H1.out hT (by omega) H1.out.lt) TS (by omega) (by have := H1.out.lt; have := hT.size; omega)
        have F6 : Hid (Keep R w (u4.setCell ⟨X5, 0, none⟩ (.slice (some ⟨G, 0, none⟩) (cs.length + 1) cap))) := keep_up (keep_up K0.out hT (by omega)) TS (by omega)
        have FL : Hid ((ps ++ [((1 : Int), [7, 7, 7, 7 + (ps.length : Int)])]).length ≤ 13) := show _ ≤ _ by have := H12.out; have := HL.out; omega
        have e7 := hide (show cs.length + 1 = ps.length + 1 by rw [HL.out])
        clear DN0 hT hTl Z5n I5n Z4 K0 H1 OO HR A1 A2 A3 LO RR Z5 I5 NXT IT4 TS d5
        try dsimp only
        repeat go_step
        refine ⟨⟨_, _, _, FL, F1, F2, F3, F4, F5, F6⟩, ?_⟩
        have c6 := F2.out.cell 0 _ rfl
        rw [el] at c6
        have c7 := c5.out
        simp only [c6, c7]
        have := H12.out
        have := e7.out
        omega
end Go.Proofs.YtckhfpaicnjknaaGreat.Draw
