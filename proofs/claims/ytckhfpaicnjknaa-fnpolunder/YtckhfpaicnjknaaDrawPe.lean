/-
  Draws: what the laws of chapter 4 draw.
-/
import Derived.Test.YtckhfpaicnjknaaDrawPd
namespace Go.Proofs.Ytckhfpaicnjknaa.Draw
set_option linter.unusedVariables false
set_option linter.unusedSimpArgs false
open Go.ChangeShapes Go.WideShapes Go.ChangeAt Go.RowKit
open IntS (Turn hide cell_below Row WRow IsT)
open Pol (Rec Mono WPoly WP PRow Mine OwnM addB addP mulB mulP scaleP constP atomP flat)
set_option maxRecDepth 8000 in
set_option maxHeartbeats 8000000 in
theorem drawAdd (a : Option Addr) (len cap : Nat) (w : World) (hlc : len ≤ cap) (hm : cap ≤ maxLen) (hc : Code w a len) :
    Calls Try.prog 9 #[.slice a len cap] w fun e w' => ∃ a1 c1 ps a2 c2 qs B1 B2, e = .returned (.tuple #[.agg #[.slice a1 (List.length ps) c1], .agg #[.slice a2 (List.length qs) c2]]) ∧ PRow w' B1 (.slice a1 ps.length c1) ps ∧ PRow w' B2 (.slice a2 qs.length c2) qs ∧ Below w.heap.size w w' := by
  have bV : Below w.heap.size w ((w.alloc (.cells #[.slice none 0 0] 25)).alloc (.cells #[.slice none 0 0] 25)) := (alloc_below _ _).trans ((alloc_below _ _).mono (by simp))
  have Z4 := hide ((Rec.new w [.slice none 0 0] 25).alloc (.cells #[.slice none 0 0] 25))
  have Z5r := Rec.new (w.alloc (.cells #[.slice none 0 0] 25)) [.slice none 0 0] 25
  rw [show (w.alloc (.cells #[.slice none 0 0] 25)).heap.size = w.heap.size + 1 by simp] at Z5r
  have Z5 := hide Z5r
  have HC := hide (hc.below bV)
  have BW := hide bV
  clear hc bV Z5r
  go_enter Try.func9, Try.ntmps9
  go_wp2_with fail
  generalize ((w.alloc (.cells #[.slice none 0 0] 25)).alloc (.cells #[.slice none 0 0] 25)) = va at Z4 Z5 BW HC ⊢
  refine (openRd a len cap va hlc hm HC.out).mono ?_
  rintro e vb ⟨R, rfl, hRl, h1, b1⟩
  have L5 := Z5.out.lt
  replace Z4 := hide (Z4.out.below b1)
  replace Z5 := hide (Z5.out.below b1)
  replace BW := hide (BW.out.trans (b1.mono BW.out.size))
  have LB : va.heap.size ≤ vb.heap.size := b1.size
  clear b1 HC
  go_wp2_with fail
  refine (two R 0 12 vb h1 (by omega) (by omega) (by omega)).mono ?_
  rintro e vc ⟨a1, c1, ps, a2, c2, qs, rfl, P1, P2, -, k1⟩
  have Z4n := rec_keep Z4.out k1 (by omega)
  have Z5n := rec_keep Z5.out k1 (by omega)
  have B2 := BW.out.trans (k1.below (by omega) BW.out.size)
  have z4 := Z4n.cell 0 _ rfl
  have s4 := Z4n.soft 0
  have z5 := Z5n.cell 0 _ rfl
  have s5 := Z5n.soft 0
  have t1 := set_turn w.heap.size vc 0 (.slice a1 ps.length c1)
  have t2 := set_turn (w.heap.size + 1) (vc.setCell ⟨w.heap.size, 0, none⟩ (.slice a1 ps.length c1)) 0 (.slice a2 qs.length c2)
  have F1 := hide ((Z4n.set 0 (.slice a1 ps.length c1) (by simp) (show _ = [.slice a1 ps.length c1] from rfl)).turn t2 (by omega))
  have F2 := hide ((Z5n.turn t1 (by omega)).set 0 (.slice a2 qs.length c2) (by simp) (show _ = [.slice a2 qs.length c2] from rfl))
  have F3 := hide ((P1.set t1 (by omega)).set t2 (by omega)).read
  have F4 := hide ((P2.set t1 (by omega)).set t2 (by omega)).read
  have F5 := hide ((B2.setCell (p := ⟨w.heap.size, 0, none⟩) (Nat.le_refl _) (.slice a1 ps.length c1)).setCell (p := ⟨w.heap.size + 1, 0, none⟩) (by show w.heap.size ≤ w.heap.size + 1; omega) (.slice a2 qs.length c2))
  clear Z4 Z5 Z4n Z5n P1 P2 k1 t1 t2 BW B2 h1
  go_wp2
  generalize (vc.setCell ⟨w.heap.size, 0, none⟩ (.slice a1 ps.length c1)).setCell ⟨w.heap.size + 1, 0, none⟩ (.slice a2 qs.length c2) = U at F1 F2 F3 F4 F5 ⊢
  have y4 := F1.out.cell 0 _ rfl
  have y5 := F2.out.cell 0 _ rfl
  obtain ⟨B1, r1⟩ := F3.out
  obtain ⟨B2, r2⟩ := F4.out
  exact bodyPost_ret (v := .tuple #[.agg #[.slice a1 ps.length c1], .agg #[.slice a2 qs.length c2]]) (by simp [results, Try.results9, go_sem, y4, y5]) rfl ⟨a1, c1, ps, a2, c2, qs, B1, B2, rfl, r1, r2, F5.out⟩
set_option maxRecDepth 8000 in
set_option maxHeartbeats 8000000 in
theorem drawMul (a : Option Addr) (len cap : Nat) (w : World) (hlc : len ≤ cap) (hm : cap ≤ maxLen) (hc : Code w a len) :
    Calls Try.prog 10 #[.slice a len cap] w fun e w' => ∃ a1 c1 ps a2 c2 qs B1 B2, e = .returned (.tuple #[.agg #[.slice a1 (List.length ps) c1], .agg #[.slice a2 (List.length qs) c2]]) ∧ PRow w' B1 (.slice a1 ps.length c1) ps ∧ PRow w' B2 (.slice a2 qs.length c2) qs ∧ Below w.heap.size w w' := by
  have bV : Below w.heap.size w ((w.alloc (.cells #[.slice none 0 0] 25)).alloc (.cells #[.slice none 0 0] 25)) := (alloc_below _ _).trans ((alloc_below _ _).mono (by simp))
  have Z4 := hide ((Rec.new w [.slice none 0 0] 25).alloc (.cells #[.slice none 0 0] 25))
  have Z5r := Rec.new (w.alloc (.cells #[.slice none 0 0] 25)) [.slice none 0 0] 25
  rw [show (w.alloc (.cells #[.slice none 0 0] 25)).heap.size = w.heap.size + 1 by simp] at Z5r
  have Z5 := hide Z5r
  have HC := hide (hc.below bV)
  have BW := hide bV
  clear hc bV Z5r
  go_enter Try.func10, Try.ntmps10
  go_wp2_with fail
  generalize ((w.alloc (.cells #[.slice none 0 0] 25)).alloc (.cells #[.slice none 0 0] 25)) = va at Z4 Z5 BW HC ⊢
  refine (openRd a len cap va hlc hm HC.out).mono ?_
  rintro e vb ⟨R, rfl, hRl, h1, b1⟩
  have L5 := Z5.out.lt
  replace Z4 := hide (Z4.out.below b1)
  replace Z5 := hide (Z5.out.below b1)
  replace BW := hide (BW.out.trans (b1.mono BW.out.size))
  have LB : va.heap.size ≤ vb.heap.size := b1.size
  clear b1 HC
  go_wp2_with fail
  refine (two R 0 14 vb h1 (by omega) (by omega) (by omega)).mono ?_
  rintro e vc ⟨a1, c1, ps, a2, c2, qs, rfl, P1, P2, -, k1⟩
  have Z4n := rec_keep Z4.out k1 (by omega)
  have Z5n := rec_keep Z5.out k1 (by omega)
  have B2 := BW.out.trans (k1.below (by omega) BW.out.size)
  have z4 := Z4n.cell 0 _ rfl
  have s4 := Z4n.soft 0
  have z5 := Z5n.cell 0 _ rfl
  have s5 := Z5n.soft 0
  have t1 := set_turn w.heap.size vc 0 (.slice a1 ps.length c1)
  have t2 := set_turn (w.heap.size + 1) (vc.setCell ⟨w.heap.size, 0, none⟩ (.slice a1 ps.length c1)) 0 (.slice a2 qs.length c2)
  have F1 := hide ((Z4n.set 0 (.slice a1 ps.length c1) (by simp) (show _ = [.slice a1 ps.length c1] from rfl)).turn t2 (by omega))
  have F2 := hide ((Z5n.turn t1 (by omega)).set 0 (.slice a2 qs.length c2) (by simp) (show _ = [.slice a2 qs.length c2] from rfl))
  have F3 := hide ((P1.set t1 (by omega)).set t2 (by omega)).read
  have F4 := hide ((P2.set t1 (by omega)).set t2 (by omega)).read
  have F5 := hide ((B2.setCell (p := ⟨w.heap.size, 0, none⟩) (Nat.le_refl _) (.slice a1 ps.length c1)).setCell (p := ⟨w.heap.size + 1, 0, none⟩) (by show w.heap.size ≤ w.heap.size + 1; omega) (.slice a2 qs.length c2))
  clear Z4 Z5 Z4n Z5n P1 P2 k1 t1 t2 BW B2 h1
  go_wp2
  generalize (vc.setCell ⟨w.heap.size, 0, none⟩ (.slice a1 ps.length c1)).setCell ⟨w.heap.size + 1, 0, none⟩ (.slice a2 qs.length c2) = U at F1 F2 F3 F4 F5 ⊢
  have y4 := F1.out.cell 0 _ rfl
  have y5 := F2.out.cell 0 _ rfl
  obtain ⟨B1, r1⟩ := F3.out
  obtain ⟨B2, r2⟩ := F4.out
  exact bodyPost_ret (v := .tuple #[.agg #[.slice a1 ps.length c1], .agg #[.slice a2 qs.length c2]]) (by simp [results, Try.results10, go_sem, y4, y5]) rfl ⟨a1, c1, ps, a2, c2, qs, B1, B2, rfl, r1, r2, F5.out⟩
set_option maxRecDepth 8000 in
set_option maxHeartbeats 8000000 in
theorem drawOrder (a : Option Addr) (len cap : Nat) (w : World) (hlc : len ≤ cap) (hm : cap ≤ maxLen) (hc : Code w a len) :
    Calls Try.prog 24 #[.slice a len cap] w fun e w' => ∃ a1 c1 ps a2 c2 qs B1 B2, e = .returned (.tuple #[.agg #[.slice a1 (List.length ps) c1], .agg #[.slice a2 (List.length qs) c2]]) ∧ PRow w' B1 (.slice a1 ps.length c1) ps ∧ PRow w' B2 (.slice a2 qs.length c2) qs ∧ Below w.heap.size w w' := by
  have bV : Below w.heap.size w ((w.alloc (.cells #[.slice none 0 0] 25)).alloc (.cells #[.slice none 0 0] 25)) := (alloc_below _ _).trans ((alloc_below _ _).mono (by simp))
  have Z4 := hide ((Rec.new w [.slice none 0 0] 25).alloc (.cells #[.slice none 0 0] 25))
  have Z5r := Rec.new (w.alloc (.cells #[.slice none 0 0] 25)) [.slice none 0 0] 25
  rw [show (w.alloc (.cells #[.slice none 0 0] 25)).heap.size = w.heap.size + 1 by simp] at Z5r
  have Z5 := hide Z5r
  have HC := hide (hc.below bV)
  have BW := hide bV
  clear hc bV Z5r
  go_enter Try.func24, Try.ntmps24
  go_wp2_with fail
  generalize ((w.alloc (.cells #[.slice none 0 0] 25)).alloc (.cells #[.slice none 0 0] 25)) = va at Z4 Z5 BW HC ⊢
  refine (openRd a len cap va hlc hm HC.out).mono ?_
  rintro e vb ⟨R, rfl, hRl, h1, b1⟩
  have L5 := Z5.out.lt
  replace Z4 := hide (Z4.out.below b1)
  replace Z5 := hide (Z5.out.below b1)
  replace BW := hide (BW.out.trans (b1.mono BW.out.size))
  have LB : va.heap.size ≤ vb.heap.size := b1.size
  clear b1 HC
  go_wp2_with fail
  refine (two R 0 9 vb h1 (by omega) (by omega) (by omega)).mono ?_
  rintro e vc ⟨a1, c1, ps, a2, c2, qs, rfl, P1, P2, -, k1⟩
  have Z4n := rec_keep Z4.out k1 (by omega)
  have Z5n := rec_keep Z5.out k1 (by omega)
  have B2 := BW.out.trans (k1.below (by omega) BW.out.size)
  have z4 := Z4n.cell 0 _ rfl
  have s4 := Z4n.soft 0
  have z5 := Z5n.cell 0 _ rfl
  have s5 := Z5n.soft 0
  have t1 := set_turn w.heap.size vc 0 (.slice a1 ps.length c1)
  have t2 := set_turn (w.heap.size + 1) (vc.setCell ⟨w.heap.size, 0, none⟩ (.slice a1 ps.length c1)) 0 (.slice a2 qs.length c2)
  have F1 := hide ((Z4n.set 0 (.slice a1 ps.length c1) (by simp) (show _ = [.slice a1 ps.length c1] from rfl)).turn t2 (by omega))
  have F2 := hide ((Z5n.turn t1 (by omega)).set 0 (.slice a2 qs.length c2) (by simp) (show _ = [.slice a2 qs.length c2] from rfl))
  have F3 := hide ((P1.set t1 (by omega)).set t2 (by omega)).read
  have F4 := hide ((P2.set t1 (by omega)).set t2 (by omega)).read
  have F5 := hide ((B2.setCell (p := ⟨w.heap.size, 0, none⟩) (Nat.le_refl _) (.slice a1 ps.length c1)).setCell (p := ⟨w.heap.size + 1, 0, none⟩) (by show w.heap.size ≤ w.heap.size + 1; omega) (.slice a2 qs.length c2))
  clear Z4 Z5 Z4n Z5n P1 P2 k1 t1 t2 BW B2 h1
  go_wp2
  generalize (vc.setCell ⟨w.heap.size, 0, none⟩ (.slice a1 ps.length c1)).setCell ⟨w.heap.size + 1, 0, none⟩ (.slice a2 qs.length c2) = U at F1 F2 F3 F4 F5 ⊢
  have y4 := F1.out.cell 0 _ rfl
  have y5 := F2.out.cell 0 _ rfl
  obtain ⟨B1, r1⟩ := F3.out
  obtain ⟨B2, r2⟩ := F4.out
  exact bodyPost_ret (v := .tuple #[.agg #[.slice a1 ps.length c1], .agg #[.slice a2 qs.length c2]]) (by simp [results, Try.results24, go_sem, y4, y5]) rfl ⟨a1, c1, ps, a2, c2, qs, B1, B2, rfl, r1, r2, F5.out⟩
set_option maxRecDepth 8000 in
set_option maxHeartbeats 8000000 in
theorem drawScale (a : Option Addr) (len cap : Nat) (w : World) (hlc : len ≤ cap) (hm : cap ≤ maxLen) (hc : Code w a len) :
    Calls Try.prog 34 #[.slice a len cap] w fun e w' => ∃ a1 c1 ps n B1, e = .returned (.tuple #[.agg #[.slice a1 (List.length ps) c1], .int .i64 n]) ∧ PRow w' B1 (.slice a1 ps.length c1) ps ∧ -9223372036854775808 ≤ n ∧ n ≤ 9223372036854775807 ∧ Below w.heap.size w w' := by
  have bV : Below w.heap.size w (w.alloc (.cells #[.slice none 0 0] 25)) := alloc_below _ _
  have Z4 := hide (Rec.new w [.slice none 0 0] 25)
  have HC := hide (hc.below bV)
  have BW := hide bV
  clear hc bV
  go_enter Try.func34, Try.ntmps34
  go_wp2_with fail
  generalize (w.alloc (.cells #[.slice none 0 0] 25)) = va at Z4 BW HC ⊢
  refine (openRd a len cap va hlc hm HC.out).mono ?_
  rintro e vb ⟨R, rfl, hRl, h1, b1⟩
  have L4 := Z4.out.lt
  replace Z4 := hide (Z4.out.below b1)
  replace BW := hide (BW.out.trans (b1.mono BW.out.size))
  have LB : va.heap.size ≤ vb.heap.size := b1.size
  clear b1 HC
  go_wp2_with fail
  refine (polyOr R 0 9 vb h1 (by omega) (by omega) (by omega)).mono ?_
  rintro e vc ⟨a1, c1, ps, rfl, P1, h2, k1⟩
  have PP := hide (show PL vc vb.heap.size (.slice a1 ps.length c1) ps from P1)
  replace Z4 := hide (rec_keep Z4.out k1 (by omega))
  replace BW := hide (BW.out.trans (k1.below (by omega) BW.out.size))
  have H1 := hide (show Rd R 90 vc from h2.mono (by omega))
  have hRv : R < vb.heap.size := h1.lt
  clear P1 h2 k1 h1
  go_wp2_with fail
  refine (wordOr R 90 9 vc H1.out (by omega) (by omega) (by omega)).mono ?_
  rintro e vd ⟨x, rfl, x0, x1, -, k2⟩
  skip
  have hW : w.heap.size ≤ vc.heap.size := BW.out.size
  have Z4n := rec_keep Z4.out k2 (by omega)
  have B2 := BW.out.trans (k2.below (by omega) hW)
  have z4 := Z4n.cell 0 _ rfl
  have s4 := Z4n.soft 0
  have t1 := set_turn w.heap.size vd 0 (.slice a1 ps.length c1)
  have F1 := hide (Z4n.set 0 (.slice a1 ps.length c1) (by simp) (show _ = [.slice a1 ps.length c1] from rfl))
  have F3 := hide (((PP.out.turn k2.turn (by show ¬ vb.heap.size ≤ R; omega)).set t1 (by omega))).read
  have F5 := hide (B2.setCell (p := ⟨w.heap.size, 0, none⟩) (Nat.le_refl _) (.slice a1 ps.length c1))
  have F6 := hide (And.intro x0 x1)
  clear Z4 Z4n PP k2 t1 BW B2 H1
  go_wp2
  generalize vd.setCell ⟨w.heap.size, 0, none⟩ (.slice a1 ps.length c1) = U at F1 F3 F5 ⊢
  have y4 := F1.out.cell 0 _ rfl
  obtain ⟨B1, r1⟩ := F3.out
  have x0 := F6.out.1
  have x1 := F6.out.2
  exact bodyPost_ret (v := .tuple #[.agg #[.slice a1 ps.length c1], .int .i64 x]) (by simp [results, Try.results34, go_sem, y4]) rfl ⟨a1, c1, ps, x, B1, rfl, r1, by omega, by omega, F5.out⟩
set_option maxRecDepth 8000 in
set_option maxHeartbeats 8000000 in
theorem drawUnder (a : Option Addr) (len cap : Nat) (w : World) (hlc : len ≤ cap) (hm : cap ≤ maxLen) (hc : Code w a len) :
    Calls Try.prog 27 #[.slice a len cap] w fun e w' => ∃ a1 c1 ps n B1, e = .returned (.tuple #[.agg #[.slice a1 (List.length ps) c1], .int .i64 n]) ∧ PRow w' B1 (.slice a1 ps.length c1) ps ∧ -1 ≤ n ∧ n ≤ 6 ∧ Below w.heap.size w w' := by
  have bV : Below w.heap.size w (w.alloc (.cells #[.slice none 0 0] 25)) := alloc_below _ _
  have Z4 := hide (Rec.new w [.slice none 0 0] 25)
  have HC := hide (hc.below bV)
  have BW := hide bV
  clear hc bV
  go_enter Try.func27, Try.ntmps27
  go_wp2_with fail
  generalize (w.alloc (.cells #[.slice none 0 0] 25)) = va at Z4 BW HC ⊢
  refine (openRd a len cap va hlc hm HC.out).mono ?_
  rintro e vb ⟨R, rfl, hRl, h1, b1⟩
  have L4 := Z4.out.lt
  replace Z4 := hide (Z4.out.below b1)
  replace BW := hide (BW.out.trans (b1.mono BW.out.size))
  have LB : va.heap.size ≤ vb.heap.size := b1.size
  clear b1 HC
  go_wp2_with fail
  refine (polyOr R 0 9 vb h1 (by omega) (by omega) (by omega)).mono ?_
  rintro e vc ⟨a1, c1, ps, rfl, P1, h2, k1⟩
  have PP := hide (show PL vc vb.heap.size (.slice a1 ps.length c1) ps from P1)
  replace Z4 := hide (rec_keep Z4.out k1 (by omega))
  replace BW := hide (BW.out.trans (k1.below (by omega) BW.out.size))
  have H1 := hide (show Rd R 90 vc from h2.mono (by omega))
  have hRv : R < vb.heap.size := h1.lt
  clear P1 h2 k1 h1
  go_wp2_with fail
  refine (pick R 90 8 vc H1.out (by omega)).mono ?_
  rintro e vd ⟨x, rfl, x0, x1, -, -, k2⟩
  replace x1 := x1 (by omega)
  have hW : w.heap.size ≤ vc.heap.size := BW.out.size
  have Z4n := rec_keep Z4.out k2 (by omega)
  have B2 := BW.out.trans (k2.below (by omega) hW)
  have z4 := Z4n.cell 0 _ rfl
  have s4 := Z4n.soft 0
  have t1 := set_turn w.heap.size vd 0 (.slice a1 ps.length c1)
  have F1 := hide (Z4n.set 0 (.slice a1 ps.length c1) (by simp) (show _ = [.slice a1 ps.length c1] from rfl))
  have F3 := hide (((PP.out.turn k2.turn (by show ¬ vb.heap.size ≤ R; omega)).set t1 (by omega))).read
  have F5 := hide (B2.setCell (p := ⟨w.heap.size, 0, none⟩) (Nat.le_refl _) (.slice a1 ps.length c1))
  have F6 := hide (And.intro x0 x1)
  clear Z4 Z4n PP k2 t1 BW B2 H1
  go_wp2
  generalize vd.setCell ⟨w.heap.size, 0, none⟩ (.slice a1 ps.length c1) = U at F1 F3 F5 ⊢
  have y4 := F1.out.cell 0 _ rfl
  obtain ⟨B1, r1⟩ := F3.out
  have x0 := F6.out.1
  have x1 := F6.out.2
  exact bodyPost_ret (v := .tuple #[.agg #[.slice a1 ps.length c1], .int .i64 (x - 1)]) (by simp [results, Try.results27, go_sem, y4]) rfl ⟨a1, c1, ps, (x - 1), B1, rfl, r1, by omega, by omega, F5.out⟩
set_option maxRecDepth 8000 in
set_option maxHeartbeats 8000000 in
theorem drawNum (a : Option Addr) (len cap : Nat) (w : World) (hlc : len ≤ cap) (hm : cap ≤ maxLen) (hc : Code w a len) :
    Calls Try.prog 15 #[.slice a len cap] w fun e w' => ∃ a1 c1 ps B1, e = .returned (.agg #[.slice a1 (List.length ps) c1]) ∧ PRow w' B1 (.slice a1 ps.length c1) ps ∧ Below w.heap.size w w' := by
  have bV : Below w.heap.size w (w.alloc (.cells #[.slice none 0 0] 25)) := alloc_below _ _
  have Z4 := hide (Rec.new w [.slice none 0 0] 25)
  have HC := hide (hc.below bV)
  have BW := hide bV
  clear hc bV
  go_enter Try.func15, Try.ntmps15
  go_wp2_with fail
  generalize (w.alloc (.cells #[.slice none 0 0] 25)) = va at Z4 BW HC ⊢
  refine (openRd a len cap va hlc hm HC.out).mono ?_
  rintro e vb ⟨R, rfl, hRl, h1, b1⟩
  have L4 := Z4.out.lt
  replace Z4 := hide (Z4.out.below b1)
  replace BW := hide (BW.out.trans (b1.mono BW.out.size))
  have LB : va.heap.size ≤ vb.heap.size := b1.size
  clear b1 HC
  go_wp2_with fail
  refine (pick R 0 2 vb h1 (by omega)).mono ?_
  rintro e vc ⟨x, rfl, x0, x1, -, h2, k1⟩
  replace x1 := x1 (by omega)
  have hRv : R < vb.heap.size := h1.lt
  have hV : vb.heap.size ≤ vc.heap.size := k1.size
  replace Z4 := hide (rec_keep Z4.out k1 (by omega))
  replace BW := hide (BW.out.trans (k1.below (by omega) BW.out.size))
  clear k1 h1
  obtain ⟨X, rfl⟩ : ∃ X : Nat, x = X := ⟨x.toNat, by omega⟩
  have hX : X = 0 ∨ X = 1 := by omega
  clear x0 x1
  rcases hX with rfl | rfl
  · go_wp2_with fail
    refine (word R 1 vc h2 (by omega)).mono ?_
    rintro e vi ⟨y, rfl, -, -, h3, k2⟩
    have hI : vc.heap.size ≤ vi.heap.size := k2.size
    replace Z4 := hide (rec_keep Z4.out k2 (by omega))
    replace BW := hide (BW.out.trans (k2.below (by omega) BW.out.size))
    clear h2 h3 k2
    go_wp2_with fail
    refine (Pol.specConst y vi).mono ?_
    rintro e vd ⟨a1, l1, c1, rfl, W1, hb⟩
    obtain rfl := wp_len W1
    have PP := pl_of (lo := w.heap.size + 1) W1 (by omega) (Nat.le_refl _)
    have Z4n := Z4.out.below hb
    have B2 := BW.out.trans (hb.mono BW.out.size)
    clear hb W1
    generalize constP y = ps at *
    have z4 := Z4n.cell 0 _ rfl
    have s4 := Z4n.soft 0
    have t1 := set_turn w.heap.size vd 0 (.slice a1 ps.length c1)
    have F1 := hide (Z4n.set 0 (.slice a1 ps.length c1) (by simp) (show _ = [.slice a1 ps.length c1] from rfl))
    have F3 := hide (PP.set t1 (by omega)).read
    have F5 := hide (B2.setCell (p := ⟨w.heap.size, 0, none⟩) (Nat.le_refl _) (.slice a1 ps.length c1))
    clear Z4 Z4n PP t1 BW B2
    go_wp2
    generalize vd.setCell ⟨w.heap.size, 0, none⟩ (.slice a1 ps.length c1) = U at F1 F3 F5 ⊢
    have y4 := F1.out.cell 0 _ rfl
    obtain ⟨B1, r1⟩ := F3.out
    exact bodyPost_ret (v := .agg #[.slice a1 ps.length c1]) (by simp [results, Try.results15, go_sem, y4]) rfl ⟨a1, c1, ps, B1, rfl, r1, F5.out⟩
  · go_wp2_with fail
    refine (polyOr R 1 6 vc h2 (by omega) (by omega) (by omega)).mono ?_
    rintro e vd ⟨a1, c1, ps, rfl, P1, h3, k2⟩
    have PP := PS.low (lo' := w.heap.size + 1) P1 (by omega)
    have Z4n := rec_keep Z4.out k2 (by omega)
    have B2 := BW.out.trans (k2.below (by omega) BW.out.size)
    clear h2 h3 k2 P1
    have z4 := Z4n.cell 0 _ rfl
    have s4 := Z4n.soft 0
    have t1 := set_turn w.heap.size vd 0 (.slice a1 ps.length c1)
    have F1 := hide (Z4n.set 0 (.slice a1 ps.length c1) (by simp) (show _ = [.slice a1 ps.length c1] from rfl))
    have F3 := hide (PP.set t1 (by omega)).read
    have F5 := hide (B2.setCell (p := ⟨w.heap.size, 0, none⟩) (Nat.le_refl _) (.slice a1 ps.length c1))
    clear Z4 Z4n PP t1 BW B2
    go_wp2
    generalize vd.setCell ⟨w.heap.size, 0, none⟩ (.slice a1 ps.length c1) = U at F1 F3 F5 ⊢
    have y4 := F1.out.cell 0 _ rfl
    obtain ⟨B1, r1⟩ := F3.out
    exact bodyPost_ret (v := .agg #[.slice a1 ps.length c1]) (by simp [results, Try.results15, go_sem, y4]) rfl ⟨a1, c1, ps, B1, rfl, r1, F5.out⟩
theorem drawConst (a : Option Addr) (len cap : Nat) (w : World) (hlc : len ≤ cap) (hm : cap ≤ maxLen) (hc : Code w a len) :
    Calls Try.prog 16 #[.slice a len cap] w fun e w' => ∃ n : Int, e = .returned (.int .i64 n) ∧ -9223372036854775808 ≤ n ∧ n ≤ 9223372036854775807 ∧ Below w.heap.size w w' := by
  go_enter Try.func16, Try.ntmps16
  go_wp2_with fail
  refine (openRd a len cap w hlc hm hc).mono ?_
  rintro e vb ⟨R, rfl, hRl, h1, b1⟩
  go_wp2_with fail
  refine (wordOr R 0 4 vb h1 (by omega) (by omega) (by omega)).mono ?_
  rintro e vc ⟨x, rfl, x0, x1, -, k1⟩
  have F6 := hide (And.intro x0 x1)
  have F5 := hide (b1.trans (k1.below hRl b1.size))
  clear x0 x1 k1 b1 h1
  go_wp2
  go_ret
  exact ⟨x, rfl, F6.out.1, F6.out.2, F5.out⟩
end Go.Proofs.Ytckhfpaicnjknaa.Draw
