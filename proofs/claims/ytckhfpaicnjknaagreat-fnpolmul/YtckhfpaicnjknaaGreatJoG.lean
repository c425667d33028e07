/-
  Draws: two sums (l21Two), and what the laws of chapter 4 draw.
-/
import Derived.Test.YtckhfpaicnjknaaGreatDrawPc
import Derived.Test.YtckhfpaicnjknaaGreatPolRg
namespace Go.Proofs.YtckhfpaicnjknaaGreat.Draw
set_option linter.unusedVariables false
set_option linter.unusedSimpArgs false
open Go.ChangeShapes Go.WideShapes Go.ChangeAt Go.RowKit
open IntS (Turn hide cell_below Row WRow IsT)
open Pol (Rec Mono WPoly WP PRow Mine OwnM addB addP mulB mulP scaleP constP atomP flat)
/-- A sum that was drawn, from a block on. -/
abbrev PL (w : World) (lo : Nat) (v : Value) (ps : List Mono) : Prop := PS w (fun b => lo ≤ b) v ps
theorem PS.step {R lo : Nat} {w w' : World} {v : Value} {ps : List Mono} (h : PL w lo v ps) (k : Keep R w w') (hR : R < lo) : PL w' lo v ps := h.turn k.turn (by omega)
theorem PS.set {lo T : Nat} {w w' : World} {v : Value} {ps : List Mono} (h : PL w lo v ps) (k : Turn T w w') (hT : T < lo) : PL w' lo v ps := h.turn k (by omega)
theorem PS.low {lo lo' : Nat} {w : World} {v : Value} {ps : List Mono} (h : PL w lo v ps) (hl : lo' ≤ lo) : PL w lo' v ps := PS.mono h (fun b _ q => Nat.le_trans hl q)
theorem pl_of {w : World} {lo l h : Nat} {v : Value} {ps : List Mono} (hp : WPoly w l h v ps) (hl : lo ≤ l) (hh : h ≤ w.heap.size) : PL w lo v ps := (PS.of hp hh).mono (fun b _ q => Nat.le_trans hl q.1)
/-- How a draw of two ends: both stand in boxes. -/
structure Two2 (w : World) (R q : Nat) (a : Option Addr) (n c : Nat) (b : Option Addr) (m d : Nat) (ps qs : List Mono) (V : World) : Prop where
  z4 : Rec w.heap.size [.slice a n c] V
  z5 : Rec (w.heap.size + 1) [.slice b m d] V
  p1 : PL V w.heap.size (.slice a n c) ps
  p2 : PL V w.heap.size (.slice b m d) qs
  rd : Rd R q V
  kp : Keep R w V
theorem two_end {w : World} {R q q' : Nat} {a : Option Addr} {n c : Nat} {b : Option Addr} {m d : Nat} {ps qs : List Mono} {W V1 V2 : World} {x y : Value} (z4 : Rec w.heap.size [x] W) (z5 : Rec (w.heap.size + 1) [y] W) (p1 : PL W (w.heap.size + 2) (.slice a n c) ps) (p2 : PL W (w.heap.size + 2) (.slice b m d) qs) (rd : Rd R q W) (kp : Keep R w W) (hR : R < w.heap.size) (r1 : Rec w.heap.size [.slice a n c] V1) (t1 : Turn w.heap.size W V1) (r2 : Rec (w.heap.size + 1) [.slice b m d] V2) (t2 : Turn (w.heap.size + 1) V1 V2) (hq : q ≤ q') : Two2 w R q' a n c b m d ps qs V2 :=
  ⟨r1.turn t2 (by omega), r2, ((p1.set t1 (by omega)).set t2 (by omega)).low (by omega), ((p2.set t1 (by omega)).set t2 (by omega)).low (by omega), (rd_turn (rd_turn rd t1 (by omega) rd.lt) t2 (by omega) (Nat.lt_of_lt_of_le rd.lt t1.size)).mono hq, keep_up (keep_up kp t1 (Nat.le_refl _)) t2 (by omega)⟩
set_option maxRecDepth 8000 in
set_option maxHeartbeats 16000000 in
theorem two (R q : Nat) (n : Int) (w : World) (h : Rd R q w) (hq : q ≤ 300000) (hn : 1 ≤ n) (hn2 : n ≤ 1000) :
    Calls Tryz.prog 25 #[.pointer (some ⟨R, 0, none⟩), .int .i64 n] w fun e w' => ∃ a c ps b d qs, e = .returned (.tuple #[.agg #[.slice a (List.length ps) c], .agg #[.slice b (List.length qs) d]]) ∧ PL w' w.heap.size (.slice a ps.length c) ps ∧ PL w' w.heap.size (.slice b qs.length d) qs ∧ Rd R (q + 200) w' ∧ Keep R w w' := by
  have hR := h.lt
  have bV : Below w.heap.size w ((w.alloc (.cells #[.slice none 0 0] 25)).alloc (.cells #[.slice none 0 0] 25)) := (alloc_below _ _).trans ((alloc_below _ _).mono (by simp))
  have Z4 := hide ((Rec.new w [.slice none 0 0] 25).alloc (.cells #[.slice none 0 0] 25))
  have Z5r := Rec.new (w.alloc (.cells #[.slice none 0 0] 25)) [.slice none 0 0] 25
  rw [show (w.alloc (.cells #[.slice none 0 0] 25)).heap.size = w.heap.size + 1 by simp] at Z5r
  have Z5 := hide Z5r
  have KK := hide (Keep.of_below (R := R) bV)
  have HH := hide (h.below (bV.mono (by omega)))
  have L0 : Hid (w.heap.size + 2 ≤ ((w.alloc (.cells #[.slice none 0 0] 25)).alloc (.cells #[.slice none 0 0] 25)).heap.size) := show _ ≤ _ by simp
  clear h bV Z5r
  go_enter Tryz.func25, Tryz.ntmps25
  go_wp2_with fail
  generalize ((w.alloc (.cells #[.slice none 0 0] 25)).alloc (.cells #[.slice none 0 0] 25)) = va at Z4 Z5 KK HH L0 ⊢
  refine (polyOr R q n va HH.out (by omega) hn hn2).mono ?_
  rintro e vb ⟨a, c, ps, rfl, P1, h1, k1⟩
  have b2 := alloc_below vb (.cells #[.slice a ps.length c] 25)
  have A1 := hide ((PS.low P1 L0.out).below b2)
  have L6 : Hid (w.heap.size + 2 ≤ vb.heap.size) := Nat.le_trans L0.out k1.size
  have Z6 := hide (Rec.new vb [.slice a ps.length c] 25)
  replace Z4 := hide ((rec_keep Z4.out k1 (by omega)).below b2)
  replace Z5 := hide ((rec_keep Z5.out k1 (by omega)).below b2)
  replace KK := hide (keep_low (KK.out.trans k1) b2)
  replace HH := hide (h1.below (b2.mono (by have := h1.lt; omega)))
  clear P1 h1 k1 b2 L0
  go_wp2_with fail
  generalize hZ : vb.heap.size = X6 at Z6 L6 ⊢
  clear hZ
  generalize (vb.alloc (.cells #[.slice a ps.length c] 25)) = vc at Z4 Z5 KK HH A1 Z6 ⊢
  refine (polyOr R (q + 90) n vc HH.out (by omega) hn hn2).mono ?_
  rintro e vd ⟨b, d, qs, rfl, P2, h1, k1⟩
  have L6 := L6.out
  have b2 := alloc_below vd (.cells #[.slice b qs.length d] 25)
  have A2 := hide ((PS.low P2 (show w.heap.size + 2 ≤ vc.heap.size by have := Z6.out.lt; omega)).below b2)
  have L7 : Hid (X6 < vd.heap.size) := Nat.lt_of_lt_of_le Z6.out.lt k1.size
  have Z7 := hide (Rec.new vd [.slice b qs.length d] 25)
  replace A1 := hide ((A1.out.step k1 (by omega)).below b2)
  replace Z4 := hide ((rec_keep Z4.out k1 (by omega)).below b2)
  replace Z5 := hide ((rec_keep Z5.out k1 (by omega)).below b2)
  replace Z6 := hide ((rec_keep Z6.out k1 (by omega)).below b2)
  replace KK := hide (keep_low (KK.out.trans k1) b2)
  replace HH := hide (h1.below (b2.mono (by have := h1.lt; omega)))
  clear P2 h1 k1 b2
  go_wp2_with fail
  generalize hZ : vd.heap.size = X7 at Z7 L7 ⊢
  clear hZ
  generalize (vd.alloc (.cells #[.slice b qs.length d] 25)) = ve at Z4 Z5 KK HH A1 A2 Z6 Z7 ⊢
  refine (pick R (q + 90 + 90) 5 ve HH.out (by omega)).mono ?_
  rintro e vf ⟨x, rfl, x0, x1, -, h1, k1⟩
  obtain ⟨X, rfl⟩ : ∃ X : Nat, x = X := ⟨x.toNat, by omega⟩
  have L7 := L7.out
  replace A1 := hide (A1.out.step k1 (by omega))
  replace A2 := hide (A2.out.step k1 (by omega))
  replace Z4 := hide (rec_keep Z4.out k1 (by omega))
  replace Z5 := hide (rec_keep Z5.out k1 (by omega))
  replace Z6 := hide (rec_keep Z6.out k1 (by omega))
  replace Z7 := hide (rec_keep Z7.out k1 (by omega))
  replace KK := hide (KK.out.trans k1)
  replace HH := hide h1
  have hX : X = 0 ∨ X = 1 ∨ X = 2 ∨ X = 3 ∨ X = 4 := by have := x1 (by omega); omega
  clear h1 k1 x0 x1
  rcases hX with rfl | rfl | rfl | rfl | rfl
  · go_wp2_with fail
    refine (wpIn_wide (n := 0)).1 ?_
    refine PhaseIn.region (S := fun v => Rec X6 [.slice a ps.length c] v) 4 (by kernel_rfl) ?_
    have hHeld : (Rec X6 [.slice a ps.length c] vf.drew) := Z6.out.drew
    refine PhaseIn.takeD (i := 0) (v := ?_) [0, 2, 3] 20 rfl (by rfl) (by kernel_rfl) (by kernel_rfl) (by kernel_rfl) (by kernel_rfl) (by kernel_rfl) (fun _ _ _ h => h) (Or.inl ⟨by kernel_rfl, ?_⟩) hHeld ?_
    rotate_left
    · intro w' hSw
      (try dsimp only at hSw)
      have z0 := hSw.cell 0 _ rfl
      go_simp
      first | done | with_reducible rfl
    try simp only [Act.put, List.setIfInBounds_toArray, List.set]
    refine PhaseIn.takeD (i := 1) (v := ?_) [1, 3] 21 rfl (by rfl) (by kernel_rfl) (by kernel_rfl) (by kernel_rfl) (by kernel_rfl) (by kernel_rfl) (fun _ _ _ h => h) (Or.inl ⟨by kernel_rfl, ?_⟩) hHeld ?_
    rotate_left
    · intro w' hSw
      (try dsimp only at hSw)
      have z0 := hSw.cell 0 _ rfl
      go_simp
      first | done | with_reducible rfl
    try simp only [Act.put, List.setIfInBounds_toArray, List.set]
    have bD : Below vf.heap.size vf vf.drew := (Below.refl _ _).drew
    have Z4d := hide (Z4.out.below bD)
    have Z5d := hide (Z5.out.below bD)
    have P1d := hide (A1.out.below bD)
    have KKd := hide (keep_low KK.out bD)
    have HHd := hide (HH.out.below (bD.mono (by have := HH.out.lt; omega)))
    have P2d := hide (A1.out.below bD)
    refine PhaseIn.one (i := 2) (by kernel_rfl) rfl (by kernel_rfl) (fun K hK => ?_)
    refine layInP _ _ rfl w.heap.size _ Z4d.out rfl a ps.length c rfl ?_
    intro vt0 RV0 TV0
    replace hHeld := hHeld.turn TV0.out (by omega)
    have Z5e := hide (Z5d.out.turn TV0.out (by omega))
    refine hK _ _ (fun _ => hHeld) ?_
    clear hK K
    try simp only [Act.put, List.setIfInBounds_toArray, List.set]
    refine PhaseIn.one (i := 3) (by kernel_rfl) rfl (by kernel_rfl) (fun K hK => ?_)
    refine layInP _ _ rfl (w.heap.size + 1) _ Z5e.out rfl a ps.length c rfl ?_
    intro vt1 RV1 TV1
    replace hHeld := hHeld.turn TV1.out (by omega)
    refine hK _ _ (fun _ => hHeld) ?_
    clear hK K
    try simp only [Act.put, List.setIfInBounds_toArray, List.set]
    have FIN := hide (two_end (q' := q + 200) Z4d.out Z5d.out P1d.out P2d.out HHd.out KKd.out hR RV0.out TV0.out RV1.out TV1.out (by omega))
    refine PhaseIn.done (by kernel_rfl) ?_ _
    clear hHeld Z4 Z5 Z4d Z5d Z5e P1d P2d KKd HHd RV0 TV0 RV1 TV1 KK HH A1 A2 Z6 Z7
    try dsimp only
    repeat go_step
    have y4 := FIN.out.z4.cell 0 _ rfl
    have y5 := FIN.out.z5.cell 0 _ rfl
    exact bodyPost_ret (v := .tuple #[.agg #[.slice a ps.length c], .agg #[.slice a ps.length c]]) (by simp [results, Tryz.results25, go_sem, y4, y5]) rfl ⟨_, _, ps, _, _, ps, rfl, FIN.out.p1, FIN.out.p2, FIN.out.rd, FIN.out.kp⟩
  · go_wp2_with fail
    refine (wpIn_wide (n := 0)).1 ?_
    refine PhaseIn.region (S := fun v => Rec X6 [.slice a ps.length c] v) 5 (by kernel_rfl) ?_
    have hHeld : (Rec X6 [.slice a ps.length c] vf.drew) := Z6.out.drew
    refine PhaseIn.takeD (i := 0) (v := ?_) [0, 3, 4] 24 rfl (by rfl) (by kernel_rfl) (by kernel_rfl) (by kernel_rfl) (by kernel_rfl) (by kernel_rfl) (fun _ _ _ h => h) (Or.inl ⟨by kernel_rfl, ?_⟩) hHeld ?_
    rotate_left
    · intro w' hSw
      (try dsimp only at hSw)
      have z0 := hSw.cell 0 _ rfl
      go_simp
      first | done | with_reducible rfl
    try simp only [Act.put, List.setIfInBounds_toArray, List.set]
    refine PhaseIn.takeD (i := 1) (v := ?_) [1, 2, 3, 4] 25 rfl (by rfl) (by kernel_rfl) (by kernel_rfl) (by kernel_rfl) (by kernel_rfl) (by kernel_rfl) (fun _ _ _ h => h) (Or.inl ⟨by kernel_rfl, ?_⟩) hHeld ?_
    rotate_left
    · intro w' hSw
      (try dsimp only at hSw)
      have z0 := hSw.cell 0 _ rfl
      go_simp
      first | done | with_reducible rfl
    try simp only [Act.put, List.setIfInBounds_toArray, List.set]
    have bD : Below vf.heap.size vf vf.drew := (Below.refl _ _).drew
    have Z4d := hide (Z4.out.below bD)
    have Z5d := hide (Z5.out.below bD)
    have P1d := hide (A1.out.below bD)
    have KKd := hide (keep_low KK.out bD)
    have HHd := hide (HH.out.below (bD.mono (by have := HH.out.lt; omega)))
    obtain ⟨B1, r1⟩ := P1d.out.read
    refine PhaseIn.one (i := 2) (by kernel_rfl) rfl (by kernel_rfl) (fun K hK => ?_)
    unfold Oper.wpIn
    refine ⟨fun _ _ => trivial, ?_⟩
    go_simp
    refine ⟨rfl, (callsIn_wide.2 (Pol.specScale ps 65535 B1 _ vf.drew r1)).mono ?_⟩
    rintro e vs ⟨b8, l8, d8, rfl, W8, hb⟩
    obtain rfl := wp_len W8
    have P2d := hide (pl_of (lo := w.heap.size + 2) W8 (by have := Z6.out.lt; have h9 : vf.drew.heap.size = vf.heap.size := rfl; omega) (Nat.le_refl _))
    replace hHeld := hHeld.below hb
    replace Z4d := hide (Z4d.out.below hb)
    replace Z5d := hide (Z5d.out.below hb)
    replace P1d := hide (P1d.out.below hb)
    replace KKd := hide (keep_low KKd.out hb)
    replace HHd := hide (HHd.out.below (hb.mono (by have := HHd.out.lt; omega)))
    clear hb W8 r1
    refine hK _ _ (fun _ => hHeld) ?_
    clear hK K
    try simp only [Act.put, List.setIfInBounds_toArray, List.set]
    refine PhaseIn.one (i := 3) (by kernel_rfl) rfl (by kernel_rfl) (fun K hK => ?_)
    refine layInP _ _ rfl w.heap.size _ Z4d.out rfl a ps.length c rfl ?_
    intro vt0 RV0 TV0
    replace hHeld := hHeld.turn TV0.out (by omega)
    have Z5e := hide (Z5d.out.turn TV0.out (by omega))
    refine hK _ _ (fun _ => hHeld) ?_
    clear hK K
    try simp only [Act.put, List.setIfInBounds_toArray, List.set]
    refine PhaseIn.one (i := 4) (by kernel_rfl) rfl (by kernel_rfl) (fun K hK => ?_)
    refine layInP _ _ rfl (w.heap.size + 1) _ Z5e.out rfl b8 (scaleP ps 65535).length d8 rfl ?_
    intro vt1 RV1 TV1
    replace hHeld := hHeld.turn TV1.out (by omega)
    refine hK _ _ (fun _ => hHeld) ?_
    clear hK K
    try simp only [Act.put, List.setIfInBounds_toArray, List.set]
    have FIN := hide (two_end (q' := q + 200) Z4d.out Z5d.out P1d.out P2d.out HHd.out KKd.out hR RV0.out TV0.out RV1.out TV1.out (by omega))
    refine PhaseIn.done (by kernel_rfl) ?_ _
    clear hHeld Z4 Z5 Z4d Z5d Z5e P1d P2d KKd HHd RV0 TV0 RV1 TV1 KK HH A1 A2 Z6 Z7
    try dsimp only
    repeat go_step
    have y4 := FIN.out.z4.cell 0 _ rfl
    have y5 := FIN.out.z5.cell 0 _ rfl
    exact bodyPost_ret (v := .tuple #[.agg #[.slice a ps.length c], .agg #[.slice b8 (scaleP ps 65535).length d8]]) (by simp [results, Tryz.results25, go_sem, y4, y5]) rfl ⟨_, _, ps, _, _, scaleP ps 65535, rfl, FIN.out.p1, FIN.out.p2, FIN.out.rd, FIN.out.kp⟩
  · have d6 := Z6.out.cell 0 _ rfl
    obtain ⟨B1, r1⟩ := A1.out.read
    have RA := hide r1
    clear r1
    go_wp2_with fail
    refine (Pol.specScale ps 65535 B1 _ vf RA.out).mono ?_
    rintro e vg ⟨b7, l7, d7, rfl, W7, hb⟩
    obtain rfl := wp_len W7
    have S7 := hide (pl_of (lo := w.heap.size + 2) W7 (by have := Z6.out.lt; omega) (Nat.le_refl _))
    replace A1 := hide (A1.out.below hb)
    replace A2 := hide (A2.out.below hb)
    replace Z4 := hide (Z4.out.below hb)
    replace Z5 := hide (Z5.out.below hb)
    replace Z6 := hide (Z6.out.below hb)
    replace Z7 := hide (Z7.out.below hb)
    replace KK := hide (keep_low KK.out hb)
    replace HH := hide (HH.out.below (hb.mono (by have := HH.out.lt; omega)))
    clear hb W7 RA d6
    go_wp2_with fail
    refine (word R (q + 90 + 90 + 1) vg HH.out (by omega)).mono ?_
    rintro e vh ⟨y, rfl, -, -, h1, k1⟩
    replace A1 := hide (A1.out.step k1 (by omega))
    replace A2 := hide (A2.out.step k1 (by omega))
    replace S7 := hide (S7.out.step k1 (by omega))
    replace Z4 := hide (rec_keep Z4.out k1 (by omega))
    replace Z5 := hide (rec_keep Z5.out k1 (by omega))
    replace Z6 := hide (rec_keep Z6.out k1 (by omega))
    replace Z7 := hide (rec_keep Z7.out k1 (by omega))
    replace KK := hide (KK.out.trans k1)
    replace HH := hide h1
    clear h1 k1
    go_wp2_with fail
    refine (Pol.specConst y vh).mono ?_
    rintro e vi ⟨b9, l9, d9, rfl, W9, hb⟩
    obtain ⟨B9, r9⟩ := W9.read
    obtain ⟨B7, r7⟩ := (S7.out.below hb).read
    have R9 := hide r9
    have R7 := hide r7
    replace A1 := hide (A1.out.below hb)
    replace A2 := hide (A2.out.below hb)
    replace Z4 := hide (Z4.out.below hb)
    replace Z5 := hide (Z5.out.below hb)
    replace Z6 := hide (Z6.out.below hb)
    replace Z7 := hide (Z7.out.below hb)
    replace KK := hide (keep_low KK.out hb)
    replace HH := hide (HH.out.below (hb.mono (by have := HH.out.lt; omega)))
    clear hb W9 S7 r9 r7
    go_wp2_with fail
    refine (Pol.specAdd (scaleP ps 65535) (constP y) B7 B9 _ _ vi R7.out R9.out).mono ?_
    rintro e vj ⟨b8, l8, d8, rfl, W8, hb⟩
    obtain rfl := wp_len W8
    have b3 := alloc_below vj (.cells #[.slice b8 (addP (scaleP ps 65535) (constP y)).length d8] 25)
    have b4 := hb.trans (b3.mono hb.size)
    have P8 := hide ((pl_of (lo := w.heap.size + 2) W8 (by have := Z6.out.lt; omega) (Nat.le_refl _)).below b3)
    have Z8 := hide (Rec.new vj [.slice b8 (addP (scaleP ps 65535) (constP y)).length d8] 25)
    have L8 : Hid (X6 < vj.heap.size) := Nat.lt_of_lt_of_le Z6.out.lt hb.size
    replace A1 := hide (A1.out.below b4)
    replace A2 := hide (A2.out.below b4)
    replace Z4 := hide (Z4.out.below b4)
    replace Z5 := hide (Z5.out.below b4)
    replace Z6 := hide (Z6.out.below b4)
    replace Z7 := hide (Z7.out.below b4)
    replace KK := hide (keep_low KK.out b4)
    replace HH := hide (HH.out.below (b4.mono (by have := HH.out.lt; omega)))
    clear hb b3 b4 W8 R7 R9
    obtain ⟨T, eT⟩ : ∃ T, addB (scaleP ps 65535) (constP y) = T := ⟨_, rfl⟩
    rw [eT]
    clear eT
    generalize addP (scaleP ps 65535) (constP y) = qs8 at P8 Z8 A1 A2 Z4 Z5 Z6 Z7 KK HH ⊢
    cases T with
    | true =>
      go_wp2_with fail
      generalize hZ : vj.heap.size = X8 at Z8 L8 ⊢
      clear hZ
      generalize (vj.alloc (.cells #[.slice b8 qs8.length d8] 25)) = vk at *
      have L8 := L8.out
      refine (wpIn_wide (n := 0)).1 ?_
      refine PhaseIn.region (S := fun v => Rec X6 [.slice a ps.length c] v ∧ Rec X8 [.slice b8 qs8.length d8] v) 4 (by kernel_rfl) ?_
      have hHeld : (Rec X6 [.slice a ps.length c] vk.drew ∧ Rec X8 [.slice b8 qs8.length d8] vk.drew) := ⟨Z6.out.drew, Z8.out.drew⟩
      refine PhaseIn.takeD (i := 0) (v := ?_) [0, 2, 3] 39 rfl (by rfl) (by kernel_rfl) (by kernel_rfl) (by kernel_rfl) (by kernel_rfl) (by kernel_rfl) (fun _ _ _ h => h) (Or.inl ⟨by kernel_rfl, ?_⟩) hHeld ?_
      rotate_left
      · intro w' hSw
        (try dsimp only at hSw)
        have z0 := hSw.1.cell 0 _ rfl
        go_simp
        first | done | with_reducible rfl
      try simp only [Act.put, List.setIfInBounds_toArray, List.set]
      refine PhaseIn.takeD (i := 1) (v := ?_) [1, 3] 40 rfl (by rfl) (by kernel_rfl) (by kernel_rfl) (by kernel_rfl) (by kernel_rfl) (by kernel_rfl) (fun _ _ _ h => h) (Or.inl ⟨by kernel_rfl, ?_⟩) hHeld ?_
      rotate_left
      · intro w' hSw
        (try dsimp only at hSw)
        have z0 := hSw.2.cell 0 _ rfl
        go_simp
        first | done | with_reducible rfl
      try simp only [Act.put, List.setIfInBounds_toArray, List.set]
      have bD : Below vk.heap.size vk vk.drew := (Below.refl _ _).drew
      have Z4d := hide (Z4.out.below bD)
      have Z5d := hide (Z5.out.below bD)
      have P1d := hide (A1.out.below bD)
      have KKd := hide (keep_low KK.out bD)
      have HHd := hide (HH.out.below (bD.mono (by have := HH.out.lt; omega)))
      have P2d := hide (P8.out.below bD)
      refine PhaseIn.one (i := 2) (by kernel_rfl) rfl (by kernel_rfl) (fun K hK => ?_)
      refine layInP _ _ rfl w.heap.size _ Z4d.out rfl a ps.length c rfl ?_
      intro vt0 RV0 TV0
      replace hHeld := (show _ ∧ _ from ⟨hHeld.1.turn TV0.out (by omega), hHeld.2.turn TV0.out (by omega)⟩)
      have Z5e := hide (Z5d.out.turn TV0.out (by omega))
      refine hK _ _ (fun _ => hHeld) ?_
      clear hK K
      try simp only [Act.put, List.setIfInBounds_toArray, List.set]
      refine PhaseIn.one (i := 3) (by kernel_rfl) rfl (by kernel_rfl) (fun K hK => ?_)
      refine layInP _ _ rfl (w.heap.size + 1) _ Z5e.out rfl b8 qs8.length d8 rfl ?_
      intro vt1 RV1 TV1
      replace hHeld := (show _ ∧ _ from ⟨hHeld.1.turn TV1.out (by omega), hHeld.2.turn TV1.out (by omega)⟩)
      refine hK _ _ (fun _ => hHeld) ?_
      clear hK K
      try simp only [Act.put, List.setIfInBounds_toArray, List.set]
      have FIN := hide (two_end (q' := q + 200) Z4d.out Z5d.out P1d.out P2d.out HHd.out KKd.out hR RV0.out TV0.out RV1.out TV1.out (by omega))
      refine PhaseIn.done (by kernel_rfl) ?_ _
      clear hHeld Z4 Z5 Z4d Z5d Z5e P1d P2d KKd HHd RV0 TV0 RV1 TV1 KK HH A1 A2 Z6 Z7
      try dsimp only
      repeat go_step
      have y4 := FIN.out.z4.cell 0 _ rfl
      have y5 := FIN.out.z5.cell 0 _ rfl
      exact bodyPost_ret (v := .tuple #[.agg #[.slice a ps.length c], .agg #[.slice b8 qs8.length d8]]) (by simp [results, Tryz.results25, go_sem, y4, y5]) rfl ⟨_, _, ps, _, _, qs8, rfl, FIN.out.p1, FIN.out.p2, FIN.out.rd, FIN.out.kp⟩
    | false =>
      go_wp2_with fail
      generalize (vj.alloc (.cells #[.slice b8 qs8.length d8] 25)) = vk at *
      refine (wpIn_wide (n := 0)).1 ?_
      refine PhaseIn.region (S := fun v => Rec X6 [.slice a ps.length c] v ∧ Rec X7 [.slice b qs.length d] v) 4 (by kernel_rfl) ?_
      have hHeld : (Rec X6 [.slice a ps.length c] vk.drew ∧ Rec X7 [.slice b qs.length d] vk.drew) := ⟨Z6.out.drew, Z7.out.drew⟩
      refine PhaseIn.takeD (i := 0) (v := ?_) [0, 2, 3] 41 rfl (by rfl) (by kernel_rfl) (by kernel_rfl) (by kernel_rfl) (by kernel_rfl) (by kernel_rfl) (fun _ _ _ h => h) (Or.inl ⟨by kernel_rfl, ?_⟩) hHeld ?_
      rotate_left
      · intro w' hSw
        (try dsimp only at hSw)
        have z0 := hSw.1.cell 0 _ rfl
        go_simp
        first | done | with_reducible rfl
      try simp only [Act.put, List.setIfInBounds_toArray, List.set]
      refine PhaseIn.takeD (i := 1) (v := ?_) [1, 3] 42 rfl (by rfl) (by kernel_rfl) (by kernel_rfl) (by kernel_rfl) (by kernel_rfl) (by kernel_rfl) (fun _ _ _ h => h) (Or.inl ⟨by kernel_rfl, ?_⟩) hHeld ?_
      rotate_left
      · intro w' hSw
        (try dsimp only at hSw)
        have z0 := hSw.2.cell 0 _ rfl
        go_simp
        first | done | with_reducible rfl
      try simp only [Act.put, List.setIfInBounds_toArray, List.set]
      have bD : Below vk.heap.size vk vk.drew := (Below.refl _ _).drew
      have Z4d := hide (Z4.out.below bD)
      have Z5d := hide (Z5.out.below bD)
      have P1d := hide (A1.out.below bD)
      have KKd := hide (keep_low KK.out bD)
      have HHd := hide (HH.out.below (bD.mono (by have := HH.out.lt; omega)))
      have P2d := hide (A2.out.below bD)
      refine PhaseIn.one (i := 2) (by kernel_rfl) rfl (by kernel_rfl) (fun K hK => ?_)
      refine layInP _ _ rfl w.heap.size _ Z4d.out rfl a ps.length c rfl ?_
      intro vt0 RV0 TV0
      replace hHeld := (show _ ∧ _ from ⟨hHeld.1.turn TV0.out (by omega), hHeld.2.turn TV0.out (by omega)⟩)
      have Z5e := hide (Z5d.out.turn TV0.out (by omega))
      refine hK _ _ (fun _ => hHeld) ?_
      clear hK K
      try simp only [Act.put, List.setIfInBounds_toArray, List.set]
      refine PhaseIn.one (i := 3) (by kernel_rfl) rfl (by kernel_rfl) (fun K hK => ?_)
      refine layInP _ _ rfl (w.heap.size + 1) _ Z5e.out rfl b qs.length d rfl ?_
      intro vt1 RV1 TV1
      replace hHeld := (show _ ∧ _ from ⟨hHeld.1.turn TV1.out (by omega), hHeld.2.turn TV1.out (by omega)⟩)
      refine hK _ _ (fun _ => hHeld) ?_
      clear hK K
      try simp only [Act.put, List.setIfInBounds_toArray, List.set]
      have FIN := hide (two_end (q' := q + 200) Z4d.out Z5d.out P1d.out P2d.out HHd.out KKd.out hR RV0.out TV0.out RV1.out TV1.out (by omega))
      refine PhaseIn.done (by kernel_rfl) ?_ _
      clear hHeld Z4 Z5 Z4d Z5d Z5e P1d P2d KKd HHd RV0 TV0 RV1 TV1 KK HH A1 A2 Z6 Z7
      try dsimp only
      repeat go_step
      have y4 := FIN.out.z4.cell 0 _ rfl
      have y5 := FIN.out.z5.cell 0 _ rfl
      exact bodyPost_ret (v := .tuple #[.agg #[.slice a ps.length c], .agg #[.slice b qs.length d]]) (by simp [results, Tryz.results25, go_sem, y4, y5]) rfl ⟨_, _, ps, _, _, qs, rfl, FIN.out.p1, FIN.out.p2, FIN.out.rd, FIN.out.kp⟩
  · go_wp2_with fail
    refine (wpIn_wide (n := 0)).1 ?_
    refine PhaseIn.region (S := fun v => Rec X6 [.slice a ps.length c] v ∧ Rec X7 [.slice b qs.length d] v) 4 (by kernel_rfl) ?_
    have hHeld : (Rec X6 [.slice a ps.length c] vf.drew ∧ Rec X7 [.slice b qs.length d] vf.drew) := ⟨Z6.out.drew, Z7.out.drew⟩
    refine PhaseIn.takeD (i := 0) (v := ?_) [0, 2, 3] 41 rfl (by rfl) (by kernel_rfl) (by kernel_rfl) (by kernel_rfl) (by kernel_rfl) (by kernel_rfl) (fun _ _ _ h => h) (Or.inl ⟨by kernel_rfl, ?_⟩) hHeld ?_
    rotate_left
    · intro w' hSw
      (try dsimp only at hSw)
      have z0 := hSw.1.cell 0 _ rfl
      go_simp
      first | done | with_reducible rfl
    try simp only [Act.put, List.setIfInBounds_toArray, List.set]
    refine PhaseIn.takeD (i := 1) (v := ?_) [1, 3] 42 rfl (by rfl) (by kernel_rfl) (by kernel_rfl) (by kernel_rfl) (by kernel_rfl) (by kernel_rfl) (fun _ _ _ h => h) (Or.inl ⟨by kernel_rfl, ?_⟩) hHeld ?_
    rotate_left
    · intro w' hSw
      (try dsimp only at hSw)
      have z0 := hSw.2.cell 0 _ rfl
      go_simp
      first | done | with_reducible rfl
    try simp only [Act.put, List.setIfInBounds_toArray, List.set]
    have bD : Below vf.heap.size vf vf.drew := (Below.refl _ _).drew
    have Z4d := hide (Z4.out.below bD)
    have Z5d := hide (Z5.out.below bD)
    have P1d := hide (A1.out.below bD)
    have KKd := hide (keep_low KK.out bD)
    have HHd := hide (HH.out.below (bD.mono (by have := HH.out.lt; omega)))
    have P2d := hide (A2.out.below bD)
    refine PhaseIn.one (i := 2) (by kernel_rfl) rfl (by kernel_rfl) (fun K hK => ?_)
    refine layInP _ _ rfl w.heap.size _ Z4d.out rfl a ps.length c rfl ?_
    intro vt0 RV0 TV0
    replace hHeld := (show _ ∧ _ from ⟨hHeld.1.turn TV0.out (by omega), hHeld.2.turn TV0.out (by omega)⟩)
    have Z5e := hide (Z5d.out.turn TV0.out (by omega))
    refine hK _ _ (fun _ => hHeld) ?_
    clear hK K
    try simp only [Act.put, List.setIfInBounds_toArray, List.set]
    refine PhaseIn.one (i := 3) (by kernel_rfl) rfl (by kernel_rfl) (fun K hK => ?_)
    refine layInP _ _ rfl (w.heap.size + 1) _ Z5e.out rfl b qs.length d rfl ?_
    intro vt1 RV1 TV1
    replace hHeld := (show _ ∧ _ from ⟨hHeld.1.turn TV1.out (by omega), hHeld.2.turn TV1.out (by omega)⟩)
    refine hK _ _ (fun _ => hHeld) ?_
    clear hK K
    try simp only [Act.put, List.setIfInBounds_toArray, List.set]
    have FIN := hide (two_end (q' := q + 200) Z4d.out Z5d.out P1d.out P2d.out HHd.out KKd.out hR RV0.out TV0.out RV1.out TV1.out (by omega))
    refine PhaseIn.done (by kernel_rfl) ?_ _
    clear hHeld Z4 Z5 Z4d Z5d Z5e P1d P2d KKd HHd RV0 TV0 RV1 TV1 KK HH A1 A2 Z6 Z7
    try dsimp only
    repeat go_step
    have y4 := FIN.out.z4.cell 0 _ rfl
    have y5 := FIN.out.z5.cell 0 _ rfl
    exact bodyPost_ret (v := .tuple #[.agg #[.slice a ps.length c], .agg #[.slice b qs.length d]]) (by simp [results, Tryz.results25, go_sem, y4, y5]) rfl ⟨_, _, ps, _, _, qs, rfl, FIN.out.p1, FIN.out.p2, FIN.out.rd, FIN.out.kp⟩
  · go_wp2_with fail
    refine (wpIn_wide (n := 0)).1 ?_
    refine PhaseIn.region (S := fun v => Rec X6 [.slice a ps.length c] v ∧ Rec X7 [.slice b qs.length d] v) 4 (by kernel_rfl) ?_
    have hHeld : (Rec X6 [.slice a ps.length c] vf.drew ∧ Rec X7 [.slice b qs.length d] vf.drew) := ⟨Z6.out.drew, Z7.out.drew⟩
    refine PhaseIn.takeD (i := 0) (v := ?_) [0, 2, 3] 41 rfl (by rfl) (by kernel_rfl) (by kernel_rfl) (by kernel_rfl) (by kernel_rfl) (by kernel_rfl) (fun _ _ _ h => h) (Or.inl ⟨by kernel_rfl, ?_⟩) hHeld ?_
    rotate_left
    · intro w' hSw
      (try dsimp only at hSw)
      have z0 := hSw.1.cell 0 _ rfl
      go_simp
      first | done | with_reducible rfl
    try simp only [Act.put, List.setIfInBounds_toArray, List.set]
    refine PhaseIn.takeD (i := 1) (v := ?_) [1, 3] 42 rfl (by rfl) (by kernel_rfl) (by kernel_rfl) (by kernel_rfl) (by kernel_rfl) (by kernel_rfl) (fun _ _ _ h => h) (Or.inl ⟨by kernel_rfl, ?_⟩) hHeld ?_
    rotate_left
    · intro w' hSw
      (try dsimp only at hSw)
      have z0 := hSw.2.cell 0 _ rfl
      go_simp
      first | done | with_reducible rfl
    try simp only [Act.put, List.setIfInBounds_toArray, List.set]
    have bD : Below vf.heap.size vf vf.drew := (Below.refl _ _).drew
    have Z4d := hide (Z4.out.below bD)
    have Z5d := hide (Z5.out.below bD)
    have P1d := hide (A1.out.below bD)
    have KKd := hide (keep_low KK.out bD)
    have HHd := hide (HH.out.below (bD.mono (by have := HH.out.lt; omega)))
    have P2d := hide (A2.out.below bD)
    refine PhaseIn.one (i := 2) (by kernel_rfl) rfl (by kernel_rfl) (fun K hK => ?_)
    refine layInP _ _ rfl w.heap.size _ Z4d.out rfl a ps.length c rfl ?_
    intro vt0 RV0 TV0
    replace hHeld := (show _ ∧ _ from ⟨hHeld.1.turn TV0.out (by omega), hHeld.2.turn TV0.out (by omega)⟩)
    have Z5e := hide (Z5d.out.turn TV0.out (by omega))
    refine hK _ _ (fun _ => hHeld) ?_
    clear hK K
    try simp only [Act.put, List.setIfInBounds_toArray, List.set]
    refine PhaseIn.one (i := 3) (by kernel_rfl) rfl (by kernel_rfl) (fun K hK => ?_)
    refine layInP _ _ rfl (w.heap.size + 1) _ Z5e.out rfl b qs.length d rfl ?_
    intro vt1 RV1 TV1
    replace hHeld := (show _ ∧ _ from ⟨hHeld.1.turn TV1.out (by omega), hHeld.2.turn TV1.out (by omega)⟩)
    refine hK _ _ (fun _ => hHeld) ?_
    clear hK K
    try simp only [Act.put, List.setIfInBounds_toArray, List.set]
    have FIN := hide (two_end (q' := q + 200) Z4d.out Z5d.out P1d.out P2d.out HHd.out KKd.out hR RV0.out TV0.out RV1.out TV1.out (by omega))
    refine PhaseIn.done (by kernel_rfl) ?_ _
    clear hHeld Z4 Z5 Z4d Z5d Z5e P1d P2d KKd HHd RV0 TV0 RV1 TV1 KK HH A1 A2 Z6 Z7
    try dsimp only
    repeat go_step
    have y4 := FIN.out.z4.cell 0 _ rfl
    have y5 := FIN.out.z5.cell 0 _ rfl
    exact bodyPost_ret (v := .tuple #[.agg #[.slice a ps.length c], .agg #[.slice b qs.length d]]) (by simp [results, Tryz.results25, go_sem, y4, y5]) rfl ⟨_, _, ps, _, _, qs, rfl, FIN.out.p1, FIN.out.p2, FIN.out.rd, FIN.out.kp⟩
end Go.Proofs.YtckhfpaicnjknaaGreat.Draw
namespace Go.Proofs.YtckhfpaicnjknaaGreat.Draw
set_option linter.unusedVariables false
set_option linter.unusedSimpArgs false
open Go.ChangeShapes Go.WideShapes Go.ChangeAt Go.RowKit
open IntS (Turn hide cell_below Row WRow IsT)
open Pol (Rec Mono WPoly WP PRow Mine OwnM addB addP mulB mulP scaleP constP atomP flat)
set_option maxRecDepth 8000 in
set_option maxHeartbeats 8000000 in
theorem drawAdd (a : Option Addr) (len cap : Nat) (w : World) (hlc : len ≤ cap) (hm : cap ≤ maxLen) (hc : Code w a len) :
    Calls Tryz.prog 6 #[.slice a len cap] w fun e w' => ∃ a1 c1 ps a2 c2 qs B1 B2, e = .returned (.tuple #[.agg #[.slice a1 (List.length ps) c1], .agg #[.slice a2 (List.length qs) c2]]) ∧ PRow w' B1 (.slice a1 ps.length c1) ps ∧ PRow w' B2 (.slice a2 qs.length c2) qs ∧ Below w.heap.size w w' := by
  have bV : Below w.heap.size w ((w.alloc (.cells #[.slice none 0 0] 25)).alloc (.cells #[.slice none 0 0] 25)) := (alloc_below _ _).trans ((alloc_below _ _).mono (by simp))
  have Z4 := hide ((Rec.new w [.slice none 0 0] 25).alloc (.cells #[.slice none 0 0] 25))
  have Z5r := Rec.new (w.alloc (.cells #[.slice none 0 0] 25)) [.slice none 0 0] 25
  rw [show (w.alloc (.cells #[.slice none 0 0] 25)).heap.size = w.heap.size + 1 by simp] at Z5r
  have Z5 := hide Z5r
  have HC := hide (hc.below bV)
  have BW := hide bV
  clear hc bV Z5r
  go_enter Tryz.func6, Tryz.ntmps6
  go_wp2_with fail
  generalize ((w.alloc (.cells #[.slice none 0 0] 25)).alloc (.cells #[.slice none 0 0] 25)) = va at Z4 Z5 BW HC ⊢
  refine (openRd a len cap va hlc hm HC.out).mono ?_
  rintro e vb ⟨R, rfl, hRl, h1, b1⟩
  have L5 := Z5.out.lt
  replace Z4 := hide (Z4.out.below b1)
  replace Z5 := hide (Z5.out.below b1)
  replace BW := hide (BW.out.trans (b1.mono BW.out.size))
  have LB : va.heap.size ≤ vb.heap.size := b1.size
  clear b1 HC
  go_wp2_with fail
  refine (two R 0 12 vb h1 (by omega) (by omega) (by omega)).mono ?_
  rintro e vc ⟨a1, c1, ps, a2, c2, qs, rfl, P1, P2, -, k1⟩
  have Z4n := rec_keep Z4.out k1 (by omega)
  have Z5n := rec_keep Z5.out k1 (by omega)
  have B2 := BW.out.trans (k1.below (by omega) BW.out.size)
  have z4 := Z4n.cell 0 _ rfl
  have s4 := Z4n.soft 0
  have z5 := Z5n.cell 0 _ rfl
  have s5 := Z5n.soft 0
  have t1 := set_turn w.heap.size vc 0 (.slice a1 ps.length c1)
  have t2 := set_turn (w.heap.size + 1) (vc.setCell ⟨w.heap.size, 0, none⟩ (.slice a1 ps.length c1)) 0 (.slice a2 qs.length c2)
  have F1 := hide ((Z4n.set 0 (.slice a1 ps.length c1) (by simp) (show _ = [.slice a1 ps.length c1] from rfl)).turn t2 (by omega))
  have F2 := hide ((Z5n.turn t1 (by omega)).set 0 (.slice a2 qs.length c2) (by simp) (show _ = [.slice a2 qs.length c2] from rfl))
  have F3 := hide ((P1.set t1 (by omega)).set t2 (by omega)).read
  have F4 := hide ((P2.set t1 (by omega)).set t2 (by omega)).read
  have F5 := hide ((B2.setCell (p := ⟨w.heap.size, 0, none⟩) (Nat.le_refl _) (.slice a1 ps.length c1)).setCell (p := ⟨w.heap.size + 1, 0, none⟩) (by show w.heap.size ≤ w.heap.size + 1; omega) (.slice a2 qs.length c2))
  clear Z4 Z5 Z4n Z5n P1 P2 k1 t1 t2 BW B2 h1
  go_wp2
  generalize (vc.setCell ⟨w.heap.size, 0, none⟩ (.slice a1 ps.length c1)).setCell ⟨w.heap.size + 1, 0, none⟩ (.slice a2 qs.length c2) = U at F1 F2 F3 F4 F5 ⊢
  have y4 := F1.out.cell 0 _ rfl
  have y5 := F2.out.cell 0 _ rfl
  obtain ⟨B1, r1⟩ := F3.out
  obtain ⟨B2, r2⟩ := F4.out
  exact bodyPost_ret (v := .tuple #[.agg #[.slice a1 ps.length c1], .agg #[.slice a2 qs.length c2]]) (by simp [results, Tryz.results6, go_sem, y4, y5]) rfl ⟨a1, c1, ps, a2, c2, qs, B1, B2, rfl, r1, r2, F5.out⟩
set_option maxRecDepth 8000 in
set_option maxHeartbeats 8000000 in
theorem drawMul (a : Option Addr) (len cap : Nat) (w : World) (hlc : len ≤ cap) (hm : cap ≤ maxLen) (hc : Code w a len) :
    Calls Tryz.prog 18 #[.slice a len cap] w fun e w' => ∃ a1 c1 ps a2 c2 qs B1 B2, e = .returned (.tuple #[.agg #[.slice a1 (List.length ps) c1], .agg #[.slice a2 (List.length qs) c2]]) ∧ PRow w' B1 (.slice a1 ps.length c1) ps ∧ PRow w' B2 (.slice a2 qs.length c2) qs ∧ Below w.heap.size w w' := by
  have bV : Below w.heap.size w ((w.alloc (.cells #[.slice none 0 0] 25)).alloc (.cells #[.slice none 0 0] 25)) := (alloc_below _ _).trans ((alloc_below _ _).mono (by simp))
  have Z4 := hide ((Rec.new w [.slice none 0 0] 25).alloc (.cells #[.slice none 0 0] 25))
  have Z5r := Rec.new (w.alloc (.cells #[.slice none 0 0] 25)) [.slice none 0 0] 25
  rw [show (w.alloc (.cells #[.slice none 0 0] 25)).heap.size = w.heap.size + 1 by simp] at Z5r
  have Z5 := hide Z5r
  have HC := hide (hc.below bV)
  have BW := hide bV
  clear hc bV Z5r
  go_enter Tryz.func18, Tryz.ntmps18
  go_wp2_with fail
  generalize ((w.alloc (.cells #[.slice none 0 0] 25)).alloc (.cells #[.slice none 0 0] 25)) = va at Z4 Z5 BW HC ⊢
  refine (openRd a len cap va hlc hm HC.out).mono ?_
  rintro e vb ⟨R, rfl, hRl, h1, b1⟩
  have L5 := Z5.out.lt
  replace Z4 := hide (Z4.out.below b1)
  replace Z5 := hide (Z5.out.below b1)
  replace BW := hide (BW.out.trans (b1.mono BW.out.size))
  have LB : va.heap.size ≤ vb.heap.size := b1.size
  clear b1 HC
  go_wp2_with fail
  refine (two R 0 14 vb h1 (by omega) (by omega) (by omega)).mono ?_
  rintro e vc ⟨a1, c1, ps, a2, c2, qs, rfl, P1, P2, -, k1⟩
  have Z4n := rec_keep Z4.out k1 (by omega)
  have Z5n := rec_keep Z5.out k1 (by omega)
  have B2 := BW.out.trans (k1.below (by omega) BW.out.size)
  have z4 := Z4n.cell 0 _ rfl
  have s4 := Z4n.soft 0
  have z5 := Z5n.cell 0 _ rfl
  have s5 := Z5n.soft 0
  have t1 := set_turn w.heap.size vc 0 (.slice a1 ps.length c1)
  have t2 := set_turn (w.heap.size + 1) (vc.setCell ⟨w.heap.size, 0, none⟩ (.slice a1 ps.length c1)) 0 (.slice a2 qs.length c2)
  have F1 := hide ((Z4n.set 0 (.slice a1 ps.length c1) (by simp) (show _ = [.slice a1 ps.length c1] from rfl)).turn t2 (by omega))
  have F2 := hide ((Z5n.turn t1 (by omega)).set 0 (.slice a2 qs.length c2) (by simp) (show _ = [.slice a2 qs.length c2] from rfl))
  have F3 := hide ((P1.set t1 (by omega)).set t2 (by omega)).read
  have F4 := hide ((P2.set t1 (by omega)).set t2 (by omega)).read
  have F5 := hide ((B2.setCell (p := ⟨w.heap.size, 0, none⟩) (Nat.le_refl _) (.slice a1 ps.length c1)).setCell (p := ⟨w.heap.size + 1, 0, none⟩) (by show w.heap.size ≤ w.heap.size + 1; omega) (.slice a2 qs.length c2))
  clear Z4 Z5 Z4n Z5n P1 P2 k1 t1 t2 BW B2 h1
  go_wp2
  generalize (vc.setCell ⟨w.heap.size, 0, none⟩ (.slice a1 ps.length c1)).setCell ⟨w.heap.size + 1, 0, none⟩ (.slice a2 qs.length c2) = U at F1 F2 F3 F4 F5 ⊢
  have y4 := F1.out.cell 0 _ rfl
  have y5 := F2.out.cell 0 _ rfl
  obtain ⟨B1, r1⟩ := F3.out
  obtain ⟨B2, r2⟩ := F4.out
  exact bodyPost_ret (v := .tuple #[.agg #[.slice a1 ps.length c1], .agg #[.slice a2 qs.length c2]]) (by simp [results, Tryz.results18, go_sem, y4, y5]) rfl ⟨a1, c1, ps, a2, c2, qs, B1, B2, rfl, r1, r2, F5.out⟩
set_option maxRecDepth 8000 in
set_option maxHeartbeats 8000000 in
theorem drawScale (a : Option Addr) (len cap : Nat) (w : World) (hlc : len ≤ cap) (hm : cap ≤ maxLen) (hc : Code w a len) :
    Calls Tryz.prog 21 #[.slice a len cap] w fun e w' => ∃ a1 c1 ps n B1, e = .returned (.tuple #[.agg #[.slice a1 (List.length ps) c1], .int .i64 n]) ∧ PRow w' B1 (.slice a1 ps.length c1) ps ∧ -9223372036854775808 ≤ n ∧ n ≤ 9223372036854775807 ∧ Below w.heap.size w w' := by
  have bV : Below w.heap.size w (w.alloc (.cells #[.slice none 0 0] 25)) := alloc_below _ _
  have Z4 := hide (Rec.new w [.slice none 0 0] 25)
  have HC := hide (hc.below bV)
  have BW := hide bV
  clear hc bV
  go_enter Tryz.func21, Tryz.ntmps21
  go_wp2_with fail
  generalize (w.alloc (.cells #[.slice none 0 0] 25)) = va at Z4 BW HC ⊢
  refine (openRd a len cap va hlc hm HC.out).mono ?_
  rintro e vb ⟨R, rfl, hRl, h1, b1⟩
  have L4 := Z4.out.lt
  replace Z4 := hide (Z4.out.below b1)
  replace BW := hide (BW.out.trans (b1.mono BW.out.size))
  have LB : va.heap.size ≤ vb.heap.size := b1.size
  clear b1 HC
  go_wp2_with fail
  refine (polyOr R 0 9 vb h1 (by omega) (by omega) (by omega)).mono ?_
  rintro e vc ⟨a1, c1, ps, rfl, P1, h2, k1⟩
  have PP := hide (show PL vc vb.heap.size (.slice a1 ps.length c1) ps from P1)
  replace Z4 := hide (rec_keep Z4.out k1 (by omega))
  replace BW := hide (BW.out.trans (k1.below (by omega) BW.out.size))
  have H1 := hide (show Rd R 90 vc from h2.mono (by omega))
  have hRv : R < vb.heap.size := h1.lt
  clear P1 h2 k1 h1
  go_wp2_with fail
  refine (wordOr R 90 9 vc H1.out (by omega) (by omega) (by omega)).mono ?_
  rintro e vd ⟨x, rfl, x0, x1, -, k2⟩
  skip
  have hW : w.heap.size ≤ vc.heap.size := BW.out.size
  have Z4n := rec_keep Z4.out k2 (by omega)
  have B2 := BW.out.trans (k2.below (by omega) hW)
  have z4 := Z4n.cell 0 _ rfl
  have s4 := Z4n.soft 0
  have t1 := set_turn w.heap.size vd 0 (.slice a1 ps.length c1)
  have F1 := hide (Z4n.set 0 (.slice a1 ps.length c1) (by simp) (show _ = [.slice a1 ps.length c1] from rfl))
  have F3 := hide (((PP.out.turn k2.turn (by show ¬ vb.heap.size ≤ R; omega)).set t1 (by omega))).read
  have F5 := hide (B2.setCell (p := ⟨w.heap.size, 0, none⟩) (Nat.le_refl _) (.slice a1 ps.length c1))
  have F6 := hide (And.intro x0 x1)
  clear Z4 Z4n PP k2 t1 BW B2 H1
  go_wp2
  generalize vd.setCell ⟨w.heap.size, 0, none⟩ (.slice a1 ps.length c1) = U at F1 F3 F5 ⊢
  have y4 := F1.out.cell 0 _ rfl
  obtain ⟨B1, r1⟩ := F3.out
  have x0 := F6.out.1
  have x1 := F6.out.2
  exact bodyPost_ret (v := .tuple #[.agg #[.slice a1 ps.length c1], .int .i64 x]) (by simp [results, Tryz.results21, go_sem, y4]) rfl ⟨a1, c1, ps, x, B1, rfl, r1, by omega, by omega, F5.out⟩
end Go.Proofs.YtckhfpaicnjknaaGreat.Draw
