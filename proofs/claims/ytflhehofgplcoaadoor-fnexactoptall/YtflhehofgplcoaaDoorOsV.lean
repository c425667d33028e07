/-
  Our own hand, the specification's OptDead and OptAll.
-/
import Derived.Test.YtflhehofgplcoaaDoorOsU
import Derived.Test.YtflhehofgplcoaaDoorPhaseN
namespace Go.Proofs.YtflhehofgplcoaaDoor.Op
set_option linter.unusedVariables false
set_option linter.unusedSimpArgs false
open Go.ChangeShapes Go.WideShapes Go.ChangeAt Go.RowKit IntS Flat Irk
open Ir Dt
open Mch (Rec)
theorem rec_seven {Z : Nat} {w : World} {c0 c1 c2 c3 c4 c5 c6 : Value} (h : Rec Z [c0, c1, c2, c3, c4, c5, c6] w) (a b c d e f g : Value) : Rec Z [a, b, c, d, e, f, g] (((((((w.setCell ⟨Z, 0, none⟩ a).setCell ⟨Z, 1, none⟩ b).setCell ⟨Z, 2, none⟩ c).setCell ⟨Z, 3, none⟩ d).setCell ⟨Z, 4, none⟩ e).setCell ⟨Z, 5, none⟩ f).setCell ⟨Z, 6, none⟩ g) ∧ Turn Z w (((((((w.setCell ⟨Z, 0, none⟩ a).setCell ⟨Z, 1, none⟩ b).setCell ⟨Z, 2, none⟩ c).setCell ⟨Z, 3, none⟩ d).setCell ⟨Z, 4, none⟩ e).setCell ⟨Z, 5, none⟩ f).setCell ⟨Z, 6, none⟩ g) :=
  ⟨((((((h.set 0 a (by simp) (show _ = [a, c1, c2, c3, c4, c5, c6] from rfl)).set 1 b (by simp) (show _ = [a, b, c2, c3, c4, c5, c6] from rfl)).set 2 c (by simp) (show _ = [a, b, c, c3, c4, c5, c6] from rfl)).set 3 d (by simp) (show _ = [a, b, c, d, c4, c5, c6] from rfl)).set 4 e (by simp) (show _ = [a, b, c, d, e, c5, c6] from rfl)).set 5 f (by simp) (show _ = [a, b, c, d, e, f, c6] from rfl)).set 6 g (by simp) (show _ = [a, b, c, d, e, f, g] from rfl),
   ((((((((Turn.refl Z w).setCell (p := ⟨Z, 0, none⟩) rfl _).setCell (p := ⟨Z, 1, none⟩) rfl _).setCell (p := ⟨Z, 2, none⟩) rfl _).setCell (p := ⟨Z, 3, none⟩) rfl _).setCell (p := ⟨Z, 4, none⟩) rfl _).setCell (p := ⟨Z, 5, none⟩) rfl _).setCell (p := ⟨Z, 6, none⟩) rfl _)⟩
set_option maxRecDepth 8000 in
set_option maxHeartbeats 16000000 in
theorem specDead (b : Bk) (cs : List Value) (w : World) (h : RBk w cs b) :
    Calls Tryd.prog 19 #[.agg cs.toArray] w fun e w' => ∃ cs', e = .returned (.agg cs'.toArray) ∧ blkR.ow w' (New w w') cs' (toT (deadB b)) ∧ Below w.heap.size w w' := by
  obtain ⟨q, c, B, rfl, hr⟩ := h
  obtain ⟨pc, ln, ops, en, x, y, k⟩ := b
  simp only [bv] at *
  obtain ⟨r1, r2, b0⟩ := boxes w (.int .i64 pc) (.int .i64 ln) (.slice q ops.length c) (.int .i64 en) (.int .i64 x) (.int .i64 y) (.int .i64 k)
  have RA := hide r1
  have RZ := hide r2
  have BW := hide b0
  have HR := hide (hr.below b0)
  have NO : Hid (okB (⟨pc, ln, ops, en, x, y, k⟩ : Bk) = false → deadB (⟨pc, ln, ops, en, x, y, k⟩ : Bk) = nilB) := fun e => by show deadB _ = _; unfold deadB; rw [e]; rfl
  have YES : Hid (okB (⟨pc, ln, ops, en, x, y, k⟩ : Bk) = true → deadB (⟨pc, ln, ops, en, x, y, k⟩ : Bk) = dropB (⟨pc, ln, ops, en, x, y, k⟩ : Bk) (usedL (⟨pc, ln, ops, en, x, y, k⟩ : Bk))) := fun e => by show deadB _ = _; unfold deadB; rw [if_pos e]
  obtain ⟨R, eR⟩ : ∃ R, deadB (⟨pc, ln, ops, en, x, y, k⟩ : Bk) = R := ⟨_, rfl⟩
  rw [eR] at NO YES ⊢
  clear r1 r2 b0 hr eR
  go_enter Tryd.func19, Tryd.ntmps19
  go_wp2_with fail
  generalize ((w.alloc (.cells #[.int .i64 pc, .int .i64 ln, .slice q ops.length c, .int .i64 en, .int .i64 x, .int .i64 y, .int .i64 k] 28)).alloc (.cells #[.int .i64 0, .int .i64 0, .slice none 0 0, .int .i64 0, .int .i64 0, .int .i64 0, .int .i64 0] 28)) = W0 at RA RZ BW HR ⊢
  have LZ0 : Hid (w.heap.size + 1 < W0.heap.size) := RZ.out.lt
  refine (specIrOk (⟨pc, ln, ops, en, x, y, k⟩ : Bk) _ _ ⟨q, c, B, rfl, HR.out⟩).mono ?_
  rintro e u1 ⟨rfl, hb⟩
  replace RA := hide (RA.out.below hb)
  replace RZ := hide (RZ.out.below hb)
  replace HR := hide (HR.out.below hb)
  replace BW := hide (BW.out.trans (hb.mono BW.out.size))
  clear hb
  obtain ⟨bo, eo⟩ : ∃ b, okB (⟨pc, ln, ops, en, x, y, k⟩ : Bk) = b := ⟨_, rfl⟩
  rw [eo] at NO YES ⊢
  have EO := hide eo
  clear eo
  cases bo with
  | false =>
    obtain rfl := NO.out rfl
    clear NO YES EO
    go_wp2_with (refine lay7 rfl rfl _ _ rfl (w.heap.size + 1) _ _ _ _ _ _ _ RZ.out rfl _ _ _ _ _ _ _ _ _ rfl ?_; intro p1 RB TB; refine Hid.out ?_)
    replace BW := hide (BW.out.trans (TB.out.below (by omega) BW.out.size))
    have FIN := hide (nil_ow p1 (New w p1))
    clear TB RZ RA HR
    refine hide ?_
    have y0 := RB.out.cell 0 _ rfl
    have y1 := RB.out.cell 1 _ rfl
    have y2 := RB.out.cell 2 _ rfl
    have y3 := RB.out.cell 3 _ rfl
    have y4 := RB.out.cell 4 _ rfl
    have y5 := RB.out.cell 5 _ rfl
    have y6 := RB.out.cell 6 _ rfl
    go_wp2
    exact bodyPost_ret (v := .agg #[.int .i64 0, .int .i64 0, .slice none 0 0, .int .i64 0, .int .i64 0, .int .i64 0, .int .i64 0]) (by simp [results, Tryd.results19, go_sem, y0, y1, y2, y3, y4, y5, y6]) rfl ⟨_, rfl, FIN.out, BW.out⟩
  | true =>
  replace YES := hide (YES.out rfl)
  have LU : Hid (w.heap.size + 1 < u1.heap.size) := RZ.out.lt
  clear NO
  have UB : Hid (usedB (⟨pc, ln, ops, en, x, y, k⟩ : Bk) = usedL (⟨pc, ln, ops, en, x, y, k⟩ : Bk)) := show _ = _ by unfold usedB; rw [if_pos EO.out]
  have UL : Hid ((usedL (⟨pc, ln, ops, en, x, y, k⟩ : Bk)).length = ops.length) := show _ = _ by unfold usedL; rw [usedD_len, used0_len]
  go_wp2_with fail
  refine (wpIn_wide (n := 0)).1 ?_
  have bA : Below u1.heap.size u1 u1.drew := (Below.refl _ _).drew
  replace RA := hide (RA.out.below bA)
  replace RZ := hide (RZ.out.below bA)
  replace HR := hide (HR.out.below bA)
  replace BW := hide (BW.out.trans (bA.mono BW.out.size))
  clear bA
  refine PhaseN.region (S := fun v => Rec w.heap.size [.int .i64 pc, .int .i64 ln, .slice q ops.length c, .int .i64 en, .int .i64 x, .int .i64 y, .int .i64 k] v ∧ True) (fun i => [0, 1, 2, 3].contains i) (by kernel_rfl) ?_
  generalize u1.drew = d1 at RA RZ HR BW ⊢
  have hHeld : Rec w.heap.size [.int .i64 pc, .int .i64 ln, .slice q ops.length c, .int .i64 en, .int .i64 x, .int .i64 y, .int .i64 k] d1 ∧ True := ⟨RA.out, trivial⟩
  refine PhaseN.takeD (i := 0) (v := ?_) [0, 3, 4] 7 rfl (by rfl) (by kernel_rfl) (by kernel_rfl) (by kernel_rfl) (by kernel_rfl) (by kernel_rfl) (fun _ _ _ h => h) (Or.inl ⟨by kernel_rfl, ?_⟩) hHeld ?_
  rotate_left
  · intro w' hSw
    (try dsimp only at hSw)
    have z0 := hSw.1.cell 0 _ rfl; have z1 := hSw.1.cell 1 _ rfl; have z2 := hSw.1.cell 2 _ rfl; have z3 := hSw.1.cell 3 _ rfl; have z4 := hSw.1.cell 4 _ rfl; have z5 := hSw.1.cell 5 _ rfl; have z6 := hSw.1.cell 6 _ rfl
    go_simp
    first | done | with_reducible rfl
  try simp only [Act.put, List.setIfInBounds_toArray, List.set]
  refine PhaseN.takeD (i := 1) (v := ?_) [1, 2, 3, 4] 8 rfl (by rfl) (by kernel_rfl) (by kernel_rfl) (by kernel_rfl) (by kernel_rfl) (by kernel_rfl) (fun _ _ _ h => h) (Or.inl ⟨by kernel_rfl, ?_⟩) hHeld ?_
  rotate_left
  · intro w' hSw
    (try dsimp only at hSw)
    have z0 := hSw.1.cell 0 _ rfl; have z1 := hSw.1.cell 1 _ rfl; have z2 := hSw.1.cell 2 _ rfl; have z3 := hSw.1.cell 3 _ rfl; have z4 := hSw.1.cell 4 _ rfl; have z5 := hSw.1.cell 5 _ rfl; have z6 := hSw.1.cell 6 _ rfl
    go_simp
    first | done | with_reducible rfl
  try simp only [Act.put, List.setIfInBounds_toArray, List.set]
  refine PhaseN.one (i := 2) (by kernel_rfl) rfl (by kernel_rfl) (fun K hK => ?_)
  unfold Oper.wpIn
  refine ⟨fun _ _ => trivial, ?_⟩
  go_simp
  refine ⟨rfl, (callsIn_wide.2 (specUsed (⟨pc, ln, ops, en, x, y, k⟩ : Bk) _ _ ⟨q, c, B, rfl, HR.out⟩)).mono ?_⟩
  rintro e d2 ⟨gk, ck, rfl, BN, gl, hb⟩
  rw [UB.out] at BN ⊢
  rw [UL.out] at BN ⊢
  have LD : Hid (w.heap.size + 1 < d1.heap.size) := RZ.out.lt
  replace RA := hide (RA.out.below hb)
  replace RZ := hide (RZ.out.below hb)
  replace HR := hide (HR.out.below hb)
  replace BW := hide (BW.out.trans (hb.mono BW.out.size))
  have BNH := hide BN
  clear hb hHeld BN
  have hHeld : Rec w.heap.size [.int .i64 pc, .int .i64 ln, .slice q ops.length c, .int .i64 en, .int .i64 x, .int .i64 y, .int .i64 k] d2 ∧ True := ⟨RA.out, trivial⟩
  refine hK _ _ (fun _ _ => hHeld) ?_
  clear hK K
  try simp only [Act.put, List.setIfInBounds_toArray, List.set]
  have DR := l10Drop (⟨pc, ln, ops, en, x, y, k⟩ : Bk) (usedL (⟨pc, ln, ops, en, x, y, k⟩ : Bk)) q c B gk ck d2 HR.out BNH.out EO.out
  rw [← YES.out] at DR
  simp only [] at DR
  refine PhaseN.one (i := 3) (by kernel_rfl) rfl (by kernel_rfl) (fun K hK => ?_)
  unfold Oper.wpIn
  refine ⟨fun _ _ => trivial, ?_⟩
  go_simp
  refine ⟨rfl, (callsIn_wide.2 (DR)).mono ?_⟩
  rintro e d3 ⟨cs', rfl, OW, hb⟩
  have LV : Hid (w.heap.size + 1 < d2.heap.size) := RZ.out.lt
  replace RA := hide (RA.out.below hb)
  replace RZ := hide (RZ.out.below hb)
  replace BW := hide (BW.out.trans (hb.mono BW.out.size))
  clear hb hHeld DR
  have hHeld : Rec w.heap.size [.int .i64 pc, .int .i64 ln, .slice q ops.length c, .int .i64 en, .int .i64 x, .int .i64 y, .int .i64 k] d3 ∧ True := ⟨RA.out, trivial⟩
  refine hK _ _ (fun _ _ => hHeld) ?_
  clear hK K hHeld
  obtain ⟨Bw2, ⟨qa, ca, ecs, WR2⟩, hA⟩ := OW
  subst ecs
  have WR3 := hide WR2
  have HA := hide hA
  clear WR2 hA
  unfold bv
  try simp only [Act.put, List.setIfInBounds_toArray, List.set]
  have z0 := RZ.out.cell 0 _ rfl
  have z1 := RZ.out.cell 1 _ rfl
  have z2 := RZ.out.cell 2 _ rfl
  have z3 := RZ.out.cell 3 _ rfl
  have z4 := RZ.out.cell 4 _ rfl
  have z5 := RZ.out.cell 5 _ rfl
  have z6 := RZ.out.cell 6 _ rfl
  have s0 := RZ.out.soft 0
  have s1 := RZ.out.soft 1
  have s2 := RZ.out.soft 2
  have s3 := RZ.out.soft 3
  have s4 := RZ.out.soft 4
  have s5 := RZ.out.soft 5
  have s6 := RZ.out.soft 6
  refine PhaseN.one (i := 4) (by kernel_rfl) rfl (by kernel_rfl) (fun K hK => ?_)
  unfold Oper.wpIn
  refine ⟨fun _ _ => trivial, ?_⟩
  go_simp
  obtain ⟨R7, T7⟩ := rec_seven RZ.out (.int .i64 (bkOf (toT R)).pc) (.int .i64 (bkOf (toT R)).ln) (.slice qa (bkOf (toT R)).ops.length ca) (.int .i64 (bkOf (toT R)).en) (.int .i64 (bkOf (toT R)).x) (.int .i64 (bkOf (toT R)).y) (.int .i64 (bkOf (toT R)).k)
  refine hK _ _ (fun h => absurd h (by decide)) ?_
  clear hK K z0 z1 z2 z3 z4 z5 z6 s0 s1 s2 s3 s4 s5 s6
  try simp only [Act.put, List.setIfInBounds_toArray, List.set]
  generalize (((((((d3.setCell ⟨w.heap.size + 1, 0, none⟩ (.int .i64 (bkOf (toT R)).pc)).setCell ⟨w.heap.size + 1, 1, none⟩ (.int .i64 (bkOf (toT R)).ln)).setCell ⟨w.heap.size + 1, 2, none⟩ (.slice qa (bkOf (toT R)).ops.length ca)).setCell ⟨w.heap.size + 1, 3, none⟩ (.int .i64 (bkOf (toT R)).en)).setCell ⟨w.heap.size + 1, 4, none⟩ (.int .i64 (bkOf (toT R)).x)).setCell ⟨w.heap.size + 1, 5, none⟩ (.int .i64 (bkOf (toT R)).y)).setCell ⟨w.heap.size + 1, 6, none⟩ (.int .i64 (bkOf (toT R)).k)) = p1 at R7 T7 ⊢
  have R1 := hide R7
  have TB := hide T7
  replace BW := hide (BW.out.trans (TB.out.below (by omega) BW.out.size))
  clear R7 T7
  have FIN : Hid (blkR.ow p1 (New w p1) (bv (bkOf (toT R)) (.slice qa (bkOf (toT R)).ops.length ca)) (toT R)) := by
    by_cases en0 : (bkOf (toT R)).ops = []
    · exact ⟨p1.heap.size, ⟨qa, ca, rfl, by
        obtain ⟨z1, z2, z3, z4, z5, z6, z7, z8⟩ := WR3.out
        exact ⟨z1, z2, z3, z4, z5, z6, z7, Or.inl en0⟩⟩, Or.inl en0⟩
    · have hB := HA.out.resolve_left en0
      have h1 := hB.1
      have h2 := hB.2
      have h3 := LV.out
      exact ⟨Bw2, ⟨qa, ca, rfl, WR3.out.turn TB.out (by omega)⟩, Or.inr ⟨by omega, Nat.lt_of_lt_of_le h2 TB.out.size⟩⟩
  clear TB RZ
  refine PhaseN.done (by kernel_rfl) ?_ _
  have y0 := R1.out.cell 0 _ rfl
  have y1 := R1.out.cell 1 _ rfl
  have y2 := R1.out.cell 2 _ rfl
  have y3 := R1.out.cell 3 _ rfl
  have y4 := R1.out.cell 4 _ rfl
  have y5 := R1.out.cell 5 _ rfl
  have y6 := R1.out.cell 6 _ rfl
  go_wp2
  exact bodyPost_ret (v := .agg (bv (bkOf (toT R)) (.slice qa (bkOf (toT R)).ops.length ca)).toArray) (by simp [results, Tryd.results19, go_sem, y0, y1, y2, y3, y4, y5, y6, bv]) rfl ⟨_, rfl, FIN.out, BW.out⟩
set_option maxRecDepth 8000 in
set_option maxHeartbeats 16000000 in
theorem specAll (b : Bk) (cs : List Value) (w : World) (h : RBk w cs b) :
    Calls Tryd.prog 21 #[.agg cs.toArray] w fun e w' => ∃ cs', e = .returned (.agg cs'.toArray) ∧ blkR.ow w' (New w w') cs' (toT (allB b)) ∧ Below w.heap.size w w' := by
  obtain ⟨q, c, B, rfl, hr⟩ := h
  obtain ⟨R, eR⟩ : ∃ R, allB b = R := ⟨_, rfl⟩
  rw [eR]
  have ER := hide eR
  clear eR
  obtain ⟨pc, ln, ops, en, x, y, k⟩ := b
  simp only [bv] at *
  obtain ⟨r1, r2, b0⟩ := boxes w (.int .i64 pc) (.int .i64 ln) (.slice q ops.length c) (.int .i64 en) (.int .i64 x) (.int .i64 y) (.int .i64 k)
  have RZ := hide r2
  have BW := hide b0
  have HR := hide (hr.below b0)
  clear r1 r2 b0 hr
  go_enter Tryd.func21, Tryd.ntmps21
  go_wp2_with fail
  generalize ((w.alloc (.cells #[.int .i64 pc, .int .i64 ln, .slice q ops.length c, .int .i64 en, .int .i64 x, .int .i64 y, .int .i64 k] 28)).alloc (.cells #[.int .i64 0, .int .i64 0, .slice none 0 0, .int .i64 0, .int .i64 0, .int .i64 0, .int .i64 0] 28)) = u0 at RZ BW HR ⊢
  refine (specCopy ((⟨pc, ln, ops, en, x, y, k⟩ : Bk)) _ _ ⟨q, c, B, rfl, HR.out⟩).mono ?_
  rintro e u1 ⟨c1, rfl, O1, hb1⟩
  replace RZ := hide (RZ.out.below hb1)
  replace BW := hide (BW.out.trans (hb1.mono BW.out.size))
  go_wp2_with fail
  refine (specConst (copyB ((⟨pc, ln, ops, en, x, y, k⟩ : Bk))) _ _ (show RBk _ c1 _ from blkR.od O1)).mono ?_
  rintro e u2 ⟨c2, rfl, O2, hb2⟩
  replace RZ := hide (RZ.out.below hb2)
  replace BW := hide (BW.out.trans (hb2.mono BW.out.size))
  go_wp2_with fail
  refine (specDead (constB (copyB ((⟨pc, ln, ops, en, x, y, k⟩ : Bk)))) _ _ (show RBk _ c2 _ from blkR.od O2)).mono ?_
  rintro e u3 ⟨c3, rfl, O3, hb3⟩
  replace RZ := hide (RZ.out.below hb3)
  replace BW := hide (BW.out.trans (hb3.mono BW.out.size))
  go_wp2_with fail
  refine (specSets (deadB (constB (copyB ((⟨pc, ln, ops, en, x, y, k⟩ : Bk))))) _ _ (show RBk _ c3 _ from blkR.od O3)).mono ?_
  rintro e u4 ⟨c4, rfl, O4, hb4⟩
  replace RZ := hide (RZ.out.below hb4)
  replace BW := hide (BW.out.trans (hb4.mono BW.out.size))
  go_wp2_with fail
  refine (specDead (setsB (deadB (constB (copyB ((⟨pc, ln, ops, en, x, y, k⟩ : Bk)))))) _ _ (show RBk _ c4 _ from blkR.od O4)).mono ?_
  rintro e u5 ⟨c5, rfl, O5, hb5⟩
  have LV : Hid (w.heap.size + 1 < u4.heap.size) := RZ.out.lt
  replace RZ := hide (RZ.out.below hb5)
  replace BW := hide (BW.out.trans (hb5.mono BW.out.size))
  have E5 : (deadB (setsB (deadB (constB (copyB ((⟨pc, ln, ops, en, x, y, k⟩ : Bk))))))) = R := ER.out
  rw [E5] at O5
  clear E5 O1 O2 O3 O4 hb1 hb2 hb3 hb4 hb5
  have OW := O5
  clear O5
  obtain ⟨Bw2, ⟨qa, ca, ecs, WR2⟩, hA⟩ := OW
  subst ecs
  have WR3 := hide WR2
  have HA := hide hA
  clear WR2 hA
  unfold bv
  go_wp2_with (refine lay7 rfl rfl _ _ rfl (w.heap.size + 1) _ _ _ _ _ _ _ RZ.out rfl _ _ _ _ _ _ _ _ _ rfl ?_; intro p1 R1 TB; refine Hid.out ?_)
  replace BW := hide (BW.out.trans (TB.out.below (by omega) BW.out.size))
  have FIN : Hid (blkR.ow p1 (New w p1) (bv (bkOf (toT R)) (.slice qa (bkOf (toT R)).ops.length ca)) (toT R)) := by
    by_cases en0 : (bkOf (toT R)).ops = []
    · exact ⟨p1.heap.size, ⟨qa, ca, rfl, by
        obtain ⟨z1, z2, z3, z4, z5, z6, z7, z8⟩ := WR3.out
        exact ⟨z1, z2, z3, z4, z5, z6, z7, Or.inl en0⟩⟩, Or.inl en0⟩
    · have hB := HA.out.resolve_left en0
      have h1 := hB.1
      have h2 := hB.2
      have h3 := LV.out
      exact ⟨Bw2, ⟨qa, ca, rfl, WR3.out.turn TB.out (by omega)⟩, Or.inr ⟨by omega, Nat.lt_of_lt_of_le h2 TB.out.size⟩⟩
  clear TB RZ
  refine hide ?_
  have y0 := R1.out.cell 0 _ rfl
  have y1 := R1.out.cell 1 _ rfl
  have y2 := R1.out.cell 2 _ rfl
  have y3 := R1.out.cell 3 _ rfl
  have y4 := R1.out.cell 4 _ rfl
  have y5 := R1.out.cell 5 _ rfl
  have y6 := R1.out.cell 6 _ rfl
  go_wp2
  exact bodyPost_ret (v := .agg (bv (bkOf (toT R)) (.slice qa (bkOf (toT R)).ops.length ca)).toArray) (by simp [results, Tryd.results21, go_sem, y0, y1, y2, y3, y4, y5, y6, bv]) rfl ⟨_, rfl, FIN.out, BW.out⟩
end Go.Proofs.YtflhehofgplcoaaDoor.Op
