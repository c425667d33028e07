/-
  Our own hand, the specification's OptSets.
-/
import Derived.Test.YtflhehofgplcoaaDoorOsM
namespace Go.Proofs.YtflhehofgplcoaaDoor.Op
set_option linter.unusedVariables false
set_option linter.unusedSimpArgs false
open Go.ChangeShapes Go.WideShapes Go.ChangeAt Go.RowKit IntS Flat Irk
open Ir Dt
open Mch (Rec)
theorem sets_take {ops : List Opn} {j : Nat} (h : j < ops.length) : (setsK ops).take (j + 1) = (setsK ops).take j ++ [setK ops j] := by
  rw [List.take_add_one]
  congr 1
  unfold setsK
  rw [List.getElem?_map, List.getElem?_range h]
  rfl
theorem sets_len (ops : List Opn) : (setsK ops).length = ops.length := by unfold setsK; simp

set_option maxRecDepth 8000 in
set_option maxHeartbeats 16000000 in
theorem specSets (b : Bk) (cs : List Value) (w : World) (h : RBk w cs b) :
    Calls Tryd.prog 8 #[.agg cs.toArray] w fun e w' => ∃ cs', e = .returned (.agg cs'.toArray) ∧ blkR.ow w' (New w w') cs' (toT (setsB b)) ∧ Below w.heap.size w w' := by
  obtain ⟨q, c, B, rfl, hr⟩ := h
  obtain ⟨pc, ln, ops, en, x, y, k⟩ := b
  simp only [bv] at *
  obtain ⟨r1, r2, b0⟩ := boxes w (.int .i64 pc) (.int .i64 ln) (.slice q ops.length c) (.int .i64 en) (.int .i64 x) (.int .i64 y) (.int .i64 k)
  have RA := hide r1
  have RZ := hide r2
  have BW := hide b0
  have HR := hide (hr.below b0)
  have NO : Hid (okB (⟨pc, ln, ops, en, x, y, k⟩ : Bk) = false → setsB (⟨pc, ln, ops, en, x, y, k⟩ : Bk) = nilB) := fun e => by show setsB _ = _; unfold setsB; rw [e]; rfl
  have YES : Hid (okB (⟨pc, ln, ops, en, x, y, k⟩ : Bk) = true → setsB (⟨pc, ln, ops, en, x, y, k⟩ : Bk) = dropB (⟨pc, ln, ops, en, x, y, k⟩ : Bk) (setsK ops)) := fun e => by show setsB _ = _; unfold setsB; rw [if_pos e]
  obtain ⟨R, eR⟩ : ∃ R, setsB (⟨pc, ln, ops, en, x, y, k⟩ : Bk) = R := ⟨_, rfl⟩
  rw [eR] at NO YES ⊢
  clear r1 r2 b0 hr eR
  go_enter Tryd.func8, Tryd.ntmps8
  go_wp2_with fail
  generalize ((w.alloc (.cells #[.int .i64 pc, .int .i64 ln, .slice q ops.length c, .int .i64 en, .int .i64 x, .int .i64 y, .int .i64 k] 28)).alloc (.cells #[.int .i64 0, .int .i64 0, .slice none 0 0, .int .i64 0, .int .i64 0, .int .i64 0, .int .i64 0] 28)) = W0 at RA RZ BW HR ⊢
  have LZ0 : Hid (w.heap.size + 1 < W0.heap.size) := RZ.out.lt
  refine (specIrOk (⟨pc, ln, ops, en, x, y, k⟩ : Bk) _ _ ⟨q, c, B, rfl, HR.out⟩).mono ?_
  rintro e u1 ⟨rfl, hb⟩
  replace RA := hide (RA.out.below hb)
  replace RZ := hide (RZ.out.below hb)
  replace HR := hide (HR.out.below hb)
  replace BW := hide (BW.out.trans (hb.mono BW.out.size))
  clear hb
  obtain ⟨bo, eo⟩ : ∃ b, okB (⟨pc, ln, ops, en, x, y, k⟩ : Bk) = b := ⟨_, rfl⟩
  rw [eo] at NO YES ⊢
  have EO := hide eo
  clear eo
  cases bo with
  | false =>
    obtain rfl := NO.out rfl
    clear NO YES EO
    go_wp2_with (refine lay7 rfl rfl _ _ rfl (w.heap.size + 1) _ _ _ _ _ _ _ RZ.out rfl _ _ _ _ _ _ _ _ _ rfl ?_; intro p1 RB TB; refine Hid.out ?_)
    replace BW := hide (BW.out.trans (TB.out.below (by omega) BW.out.size))
    have FIN := hide (nil_ow p1 (New w p1))
    clear TB RZ RA HR
    refine hide ?_
    have y0 := RB.out.cell 0 _ rfl
    have y1 := RB.out.cell 1 _ rfl
    have y2 := RB.out.cell 2 _ rfl
    have y3 := RB.out.cell 3 _ rfl
    have y4 := RB.out.cell 4 _ rfl
    have y5 := RB.out.cell 5 _ rfl
    have y6 := RB.out.cell 6 _ rfl
    go_wp2
    exact bodyPost_ret (v := .agg #[.int .i64 0, .int .i64 0, .slice none 0 0, .int .i64 0, .int .i64 0, .int .i64 0, .int .i64 0]) (by simp [results, Tryd.results8, go_sem, y0, y1, y2, y3, y4, y5, y6]) rfl ⟨_, rfl, FIN.out, BW.out⟩
  | true =>
  replace YES := hide (YES.out rfl)
  have LU : Hid (w.heap.size + 1 < u1.heap.size) := RZ.out.lt
  clear NO
  obtain ⟨h1, h2, h3, h4, h5⟩ := ok_parts EO.out
  simp only [] at h1 h2 h3 h4 h5
  have bE : Below u1.heap.size u1 (u1.alloc (.cells #[] 4)) := (Below.refl _ _).alloc (Nat.le_refl _) _
  have OL := hide (OwnL.empty (w := u1.alloc (.cells #[] 4)) (g := u1.heap.size) (heap_last rfl))
  have HR0 := HR
  have BU : Hid (Below u1.heap.size u1 (u1.alloc (.cells #[] 4))) := bE
  have RA0 := RA
  have RZ0 := RZ
  have BW0 := BW
  replace RA := hide (RA.out.below bE)
  clear bE HR h4 h5
  go_wp2
  generalize u1.alloc (.cells #[] 4) = V1 at OL BU RA ⊢
  go_loopw [3, 4] (fun s i wr => ∃ (j gk ck : Nat) (bs : List Bool), j ≤ ops.length ∧ i = .int .i64 j ∧ s = .slice (some ⟨gk, 0, none⟩) bs.length ck ∧ Hid (bs = (setsK ops).take j) ∧ Hid (OwnL wr u1.heap.size (.slice (some ⟨gk, 0, none⟩) bs.length ck) bs) ∧ Hid (Below u1.heap.size u1 wr)) (fun _ i _ => ops.length - (intOf i).toNat)
  case atStart => exact ⟨0, u1.heap.size, 0, [], by omega, rfl, rfl, rfl, OL, BU⟩
  case round =>
    clear OL BU RA
    obtain ⟨j, gk, ck, bs, hj, rfl, rfl, EB, OL, BU⟩ := hrel
    have RA := hide (RA0.out.below BU.out)
    have HR := hide (HR0.out.below BU.out)
    have x2 := RA.out.cell 2 _ rfl
    have LB : Hid (bs.length = j) := show _ = _ by rw [EB.out, List.length_take, sets_len]; omega
    by_cases hlt : j < ops.length
    · obtain ⟨o, et⟩ : ∃ o, ops[j]? = some o := ⟨_, List.getElem?_eq_getElem hlt⟩
      obtain ⟨qa, qc, qo, qe, q2, q3, -, q4⟩ := HR.out.ex
      cases qe
      unfold maxLen at q3
      obtain ⟨rfl, q5⟩ := q4.resolve_left (fun e => by rw [e] at hlt; simp at hlt)
      obtain ⟨c0, -⟩ := q5 j o et
      have SK : Hid (setK ops j = (decide (o.kd ≠ 8) || !lostR o.k (ops.drop (j + 1)))) := show _ = _ by unfold setK; rw [et]
      have ST := hide (sets_take hlt)
      have ET := hide et
      have lk : ((j : Nat) : Int) < (ops.length : Nat) := by omega
      clear q5 q4 et
      by_cases e8 : o.kd = 8
      · rw [e8] at c0
        obtain ⟨L, eL⟩ : ∃ z, lostR o.k (ops.drop (j + 1)) = z := ⟨_, rfl⟩
        have SV : Hid (setK ops j = !L) := show _ = _ by rw [SK.out, e8, eL]; simp
        have LC := hide (l10Lost ops B _ j o wr HR.out ET.out (by omega))
        rw [eL] at LC
        clear eL e8 SK
        go_wp2_with fail
        refine LC.out.mono ?_
        rintro e w0 ⟨rfl, hb0⟩
        clear c0 LC x2 RA HR
        have OL0 := OL.out.below hb0
        have BU0 := BU.out.trans (hb0.mono BU.out.size)
        have gkl := (OL.out.form).1
        clear hb0 OL BU
        have bP : Below w0.heap.size w0 (w0.alloc (.cells #[.bool (!L)] 4)) := (Below.refl _ _).alloc (Nat.le_refl _) _
        have NB := (Rec.new w0 [.bool (!L)] 4).cell 0 _ rfl
        have LO1 : u1.heap.size ≤ (w0.alloc (.cells #[.bool (!L)] 4)).heap.size := Nat.le_trans BU0.size bP.size
        obtain ⟨g1, c1, w1, hrun, O1, G1, L1, gr⟩ := run_pushL (ty := 34) (OL0.below bP) (by have := LB.out; omega) LO1 w0.heap.size (!L) NB
        have T1 : Turn gk _ w1 := Turn.of_grown gr
        have BU1 := BU0.trans (bP.mono BU0.size)
        have BU2 := hide (BU1.trans (T1.below gkl BU1.size))
        have OL2 := hide O1
        have EB2 : Hid (bs ++ [!L] = (setsK ops).take (j + 1)) := show _ = _ by rw [ST.out, SV.out, EB.out]
        clear bP NB LO1 O1 G1 L1 gr T1 BU1 BU0 OL0 gkl
        go_wp2_with (at_builtin; refine push_list rfl _ _ rfl rfl rfl hrun ?_; refine Hid.out ?_)
        clear hrun
        refine hide ?_
        go_wp2
        exact ⟨⟨j + 1, g1, c1, bs ++ [!L], by omega, by go_num, by simp, EB2, OL2, BU2⟩, by simp [intOf]; omega⟩
      · have n8 : (o.kd != 8) = true := bne_iff_ne.2 e8
        have SV : Hid (setK ops j = true) := show _ = _ by rw [SK.out, decide_eq_true e8]; rfl
        have bP : Below wr.heap.size wr (wr.alloc (.cells #[.bool true] 4)) := (Below.refl _ _).alloc (Nat.le_refl _) _
        have NB := (Rec.new wr [.bool true] 4).cell 0 _ rfl
        have LO1 : u1.heap.size ≤ (wr.alloc (.cells #[.bool true] 4)).heap.size := Nat.le_trans BU.out.size bP.size
        obtain ⟨g1, c1, w1, hrun, O1, G1, L1, gr⟩ := run_pushL (ty := 34) (OL.out.below bP) (by have := LB.out; omega) LO1 wr.heap.size true NB
        have T1 : Turn gk _ w1 := Turn.of_grown gr
        have BU1 := BU.out.trans (bP.mono BU.out.size)
        have BU2 := hide (BU1.trans (T1.below (OL.out.form).1 BU1.size))
        have OL2 := hide O1
        have EB2 : Hid (bs ++ [true] = (setsK ops).take (j + 1)) := show _ = _ by rw [ST.out, SV.out, EB.out]
        clear bP NB LO1 O1 G1 L1 gr T1 BU1 OL BU e8
        go_wp2_with (at_builtin; refine push_list rfl _ _ rfl rfl rfl hrun ?_; refine Hid.out ?_)
        clear hrun
        refine hide ?_
        go_wp2
        exact ⟨⟨j + 1, g1, c1, bs ++ [true], by omega, by go_num, by simp, EB2, OL2, BU2⟩, by simp [intOf]; omega⟩
    · have lk : ¬ ((j : Nat) : Int) < (ops.length : Nat) := by omega
      have ej : j = ops.length := by omega
      have EB2 : bs = setsK ops := by rw [EB.out, ej, ← sets_len, List.take_length]
      have BWk := (OL.out.form).2
      have gkl := (OL.out.form).1
      rw [LB.out, ej, EB2] at BWk
      have DR := hide (l10Drop (⟨pc, ln, ops, en, x, y, k⟩ : Bk) (setsK ops) q c B gk ck wr HR.out BWk EO.out)
      rw [← YES.out] at DR
      simp only [] at DR
      have RZ := hide (RZ0.out.below BU.out)
      have BW := hide (BW0.out.trans (BU.out.mono BW0.out.size))
      have LV : Hid (w.heap.size + 1 < wr.heap.size) := RZ.out.lt
      have z0 := RA.out.cell 0 _ rfl
      have z1 := RA.out.cell 1 _ rfl
      have z2 := RA.out.cell 2 _ rfl
      have z3 := RA.out.cell 3 _ rfl
      have z4 := RA.out.cell 4 _ rfl
      have z5 := RA.out.cell 5 _ rfl
      have z6 := RA.out.cell 6 _ rfl
      have sb : bs.length = ops.length := by rw [LB.out]; exact ej
      clear BWk gkl EB2 OL EB
      go_wp2_with fail
      refine DR.out.mono ?_
      rintro e u4 ⟨cs', rfl, OW, hb⟩
      clear z0 z1 z2 z3 z4 z5 z6 DR x2
      replace RZ := hide (RZ.out.below hb)
      replace BW := hide (BW.out.trans (hb.mono BW.out.size))
      clear hb RA
      obtain ⟨Bw2, ⟨qa, ca, ecs, WR2⟩, hA⟩ := OW
      subst ecs
      have WR3 := hide WR2
      have HA := hide hA
      clear WR2 hA
      unfold bv
      go_wp2_with (refine lay7 rfl rfl _ _ rfl (w.heap.size + 1) _ _ _ _ _ _ _ RZ.out rfl _ _ _ _ _ _ _ _ _ rfl ?_; intro p1 R1 TB; refine Hid.out ?_)
      replace BW := hide (BW.out.trans (TB.out.below (by omega) BW.out.size))
      have FIN : Hid (blkR.ow p1 (New w p1) (bv (bkOf (toT R)) (.slice qa (bkOf (toT R)).ops.length ca)) (toT R)) := by
        by_cases en0 : (bkOf (toT R)).ops = []
        · exact ⟨p1.heap.size, ⟨qa, ca, rfl, by
            obtain ⟨z1, z2, z3, z4, z5, z6, z7, z8⟩ := WR3.out
            exact ⟨z1, z2, z3, z4, z5, z6, z7, Or.inl en0⟩⟩, Or.inl en0⟩
        · have hB := HA.out.resolve_left en0
          have h1 := hB.1
          have h2 := hB.2
          have h3 := LV.out
          exact ⟨Bw2, ⟨qa, ca, rfl, WR3.out.turn TB.out (by omega)⟩, Or.inr ⟨by omega, Nat.lt_of_lt_of_le h2 TB.out.size⟩⟩
      clear TB RZ
      refine hide ?_
      have y0 := R1.out.cell 0 _ rfl
      have y1 := R1.out.cell 1 _ rfl
      have y2 := R1.out.cell 2 _ rfl
      have y3 := R1.out.cell 3 _ rfl
      have y4 := R1.out.cell 4 _ rfl
      have y5 := R1.out.cell 5 _ rfl
      have y6 := R1.out.cell 6 _ rfl
      go_wp2
      exact bodyPost_ret (v := .agg (bv (bkOf (toT R)) (.slice qa (bkOf (toT R)).ops.length ca)).toArray) (by simp [results, Tryd.results8, go_sem, y0, y1, y2, y3, y4, y5, y6, bv]) rfl ⟨_, rfl, FIN.out, BW.out⟩
end Go.Proofs.YtflhehofgplcoaaDoor.Op
