/-
  Our own hand, the specification's OptUsed.
-/
import Derived.Test.YtflhehofgplcoaaDoorOsN
namespace Go.Proofs.YtflhehofgplcoaaDoor.Op
set_option linter.unusedVariables false
set_option linter.unusedSimpArgs false
open Go.ChangeShapes Go.WideShapes Go.ChangeAt Go.RowKit IntS Flat Irk
open Ir Dt
open Mch (Rec)
theorem Bw.set {w : World} {g n cap : Nat} {bs : List Bool} (h : Bw w g n cap bs) {i : Nat} (hi : i < n) (b : Bool) : Bw (w.setCell ⟨g, i, none⟩ (.bool b)) g n cap (bs.set i b) := by
  have hl := h.len
  refine ⟨by rw [List.length_set]; exact hl, h.le, h.mx, by rw [Ir.setCell_size]; exact h.lt, fun j c hc => ?_⟩
  obtain ⟨c0, e0⟩ : ∃ c, bs[i]? = some c := ⟨_, List.getElem?_eq_getElem (by omega)⟩
  by_cases e : i = j
  · subst e
    rw [List.getElem?_set_self (by omega)] at hc
    obtain rfl := Option.some.inj hc
    exact ⟨World.cell?_setCell_same _ _ _ (by rw [(h.at_ i c0 e0).1]), by rw [World.frozen?_setCell]; exact (h.at_ i c0 e0).2⟩
  · rw [List.getElem?_set_ne e] at hc
    exact ⟨by rw [World.cell?_setCell_other _ _ _ _ (Ir.off_ne (by omega))]; exact (h.at_ j c hc).1, by rw [World.frozen?_setCell]; exact (h.at_ j c hc).2⟩
theorem rec_low {Z n : Nat} {cs : List Value} {u v : World} (h : Rec Z cs u) (hb : Below n u v) (hZ : Z < n) : Rec Z cs v := by
  have eb : v.heap[Z]? = u.heap[Z]? := hb.block Z hZ
  exact ⟨Nat.lt_of_lt_of_le h.lt hb.size, fun i x hx => (World.cell?_of_block (w := u) (a := ⟨Z, i, none⟩) eb).trans (h.cell i x hx), fun i => (World.frozen?_of_block (w := u) (a := ⟨Z, i, none⟩) eb).trans (h.soft i)⟩
def kdB (ops : List Opn) : List Bool := ops.map (fun o => decide (4 ≤ o.kd))
theorem kd_take {ops : List Opn} {j : Nat} {o : Opn} (h : ops[j]? = some o) : (kdB ops).take (j + 1) = (kdB ops).take j ++ [decide (4 ≤ o.kd)] := by
  rw [List.take_add_one]
  congr 1
  unfold kdB
  rw [List.getElem?_map, h]
  rfl
set_option maxRecDepth 8000 in
set_option maxHeartbeats 16000000 in
theorem specUsed (b : Bk) (cs : List Value) (w : World) (h : RBk w cs b) :
    Calls Tryd.prog 14 #[.agg cs.toArray] w fun e w' => ∃ g cap, e = .returned (.slice (some ⟨g, 0, none⟩) (usedB b).length cap) ∧ Bw w' g (usedB b).length cap (usedB b) ∧ w.heap.size ≤ g ∧ Below w.heap.size w w' := by
  obtain ⟨q, c, B, rfl, hr⟩ := h
  obtain ⟨pc, ln, ops, en, x, y, k⟩ := b
  simp only [bv] at *
  have r1 := (Rec.new w [.int .i64 pc, .int .i64 ln, .slice q ops.length c, .int .i64 en, .int .i64 x, .int .i64 y, .int .i64 k] 28).alloc (.cells #[] 4)
  have s1 : (w.alloc (.cells #[.int .i64 pc, .int .i64 ln, .slice q ops.length c, .int .i64 en, .int .i64 x, .int .i64 y, .int .i64 k] 28)).heap.size = w.heap.size + 1 := by simp
  have b1 : Below w.heap.size w ((w.alloc (.cells #[.int .i64 pc, .int .i64 ln, .slice q ops.length c, .int .i64 en, .int .i64 x, .int .i64 y, .int .i64 k] 28)).alloc (.cells #[] 4)) := ((Below.refl _ _).alloc (Nat.le_refl _) _).alloc (by simp) _
  have OL := hide (OwnL.empty (w := ((w.alloc (.cells #[.int .i64 pc, .int .i64 ln, .slice q ops.length c, .int .i64 en, .int .i64 x, .int .i64 y, .int .i64 k] 28)).alloc (.cells #[] 4))) (g := w.heap.size + 1) (heap_last s1))
  have RA := hide r1
  have HR := hide (hr.below b1)
  have HRW := hide hr
  have BW := hide b1
  have NO : Hid (okB (⟨pc, ln, ops, en, x, y, k⟩ : Bk) = false → usedB (⟨pc, ln, ops, en, x, y, k⟩ : Bk) = []) := fun e => by show usedB _ = _; unfold usedB; rw [e]; rfl
  have YES : Hid (okB (⟨pc, ln, ops, en, x, y, k⟩ : Bk) = true → usedB (⟨pc, ln, ops, en, x, y, k⟩ : Bk) = usedD ops ops.length (used0 (⟨pc, ln, ops, en, x, y, k⟩ : Bk))) := fun e => by show usedB _ = _; unfold usedB; rw [if_pos e]; rfl
  obtain ⟨L, eL⟩ : ∃ L, usedB (⟨pc, ln, ops, en, x, y, k⟩ : Bk) = L := ⟨_, rfl⟩
  rw [eL] at NO YES ⊢
  clear r1 s1 b1 hr eL
  go_enter Tryd.func14, Tryd.ntmps14
  go_wp2_with fail
  generalize ((w.alloc (.cells #[.int .i64 pc, .int .i64 ln, .slice q ops.length c, .int .i64 en, .int .i64 x, .int .i64 y, .int .i64 k] 28)).alloc (.cells #[] 4)) = W1 at OL RA HR BW ⊢
  refine (specIrOk (⟨pc, ln, ops, en, x, y, k⟩ : Bk) _ _ ⟨q, c, B, rfl, HR.out⟩).mono ?_
  rintro e u1 ⟨rfl, hb⟩
  replace RA := hide (RA.out.below hb)
  replace HR := hide (HR.out.below hb)
  replace OL := hide (OL.out.below hb)
  replace BW := hide (BW.out.trans (hb.mono BW.out.size))
  clear hb
  obtain ⟨bo, eo⟩ : ∃ b, okB (⟨pc, ln, ops, en, x, y, k⟩ : Bk) = b := ⟨_, rfl⟩
  rw [eo] at NO YES ⊢
  have EO := hide eo
  clear eo
  cases bo with
  | false =>
    obtain rfl := NO.out rfl
    have OB := hide (OL.out.form).2
    clear NO YES EO OL RA HR
    go_wp2
    exact bodyPost_ret (v := .slice (some ⟨w.heap.size + 1, 0, none⟩) 0 0) (by simp [results, Tryd.results14, go_sem]) rfl ⟨w.heap.size + 1, 0, rfl, OB.out, by omega, BW.out⟩
  | true =>
  replace YES := hide (YES.out rfl)
  obtain ⟨h1, h2, h3, h4, h5⟩ := ok_parts EO.out
  simp only [] at h1 h2 h3 h4 h5
  have OPS := hide h4
  have END := hide h5
  have LU : Hid (w.heap.size + 1 ≤ u1.heap.size) := Nat.le_of_lt (OL.out.form).2.lt
  have RA0 := RA
  have HR0 := HR
  have BW0 := BW
  clear NO h4 h5
  have BU : Hid (Below (w.heap.size + 1) u1 u1) := Below.refl _ _
  go_wp2
  go_loopw [3, 4] (fun s i wr => ∃ (j gk ck : Nat) (bs : List Bool), j ≤ ops.length ∧ i = .int .i64 j ∧ s = .slice (some ⟨gk, 0, none⟩) bs.length ck ∧ Hid (bs = (kdB ops).take j) ∧ Hid (OwnL wr (w.heap.size + 1) (.slice (some ⟨gk, 0, none⟩) bs.length ck) bs) ∧ Hid (Below (w.heap.size + 1) u1 wr)) (fun _ i _ => ops.length - (intOf i).toNat)
  case atStart => exact ⟨0, w.heap.size + 1, 0, [], by omega, rfl, rfl, rfl, OL, BU⟩
  case round =>
    clear OL BU RA HR BW
    obtain ⟨j, gk, ck, bs, hj, rfl, rfl, EB, OL, BU⟩ := hrel
    have RA := hide (rec_low RA0.out BU.out (by omega))
    have BWR := hide (BW0.out.trans (BU.out.mono (show w.heap.size ≤ w.heap.size + 1 by omega)))
    have HR := hide (HRW.out.below BWR.out)
    have x2 := RA.out.cell 2 _ rfl
    have LB : Hid (bs.length = j) := show _ = _ by rw [EB.out, List.length_take]; unfold kdB; rw [List.length_map]; omega
    by_cases hlt : j < ops.length
    · obtain ⟨o, et⟩ : ∃ o, ops[j]? = some o := ⟨_, List.getElem?_eq_getElem hlt⟩
      obtain ⟨qa, qc, qo, qe, q2, q3, -, q4⟩ := HR.out.ex
      cases qe
      unfold maxLen at q3
      obtain ⟨rfl, q5⟩ := q4.resolve_left (fun e => by rw [e] at hlt; simp at hlt)
      obtain ⟨c0, -⟩ := q5 j o et
      have KT := hide (kd_take et)
      have lk : ((j : Nat) : Int) < (ops.length : Nat) := by omega
      obtain ⟨kd, ox, oy, ok, ot⟩ := o
      simp only [] at c0 KT
      clear q5 q4 et
      have bP : Below wr.heap.size wr (wr.alloc (.cells #[.bool (decide (4 ≤ kd))] 4)) := (Below.refl _ _).alloc (Nat.le_refl _) _
      have NB := (Rec.new wr [.bool (decide (4 ≤ kd))] 4).cell 0 _ rfl
      have LO1 : w.heap.size + 1 ≤ (wr.alloc (.cells #[.bool (decide (4 ≤ kd))] 4)).heap.size := Nat.le_trans (Nat.le_trans LU.out BU.out.size) bP.size
      obtain ⟨g1, c1, w1, hrun, O1, G1, L1, gr⟩ := run_pushL (ty := 34) (OL.out.below bP) (by have := LB.out; omega) LO1 wr.heap.size (decide (4 ≤ kd)) NB
      have T1 : Turn gk _ w1 := Turn.of_grown gr
      have BU1 := BU.out.trans (bP.mono (Nat.le_trans LU.out BU.out.size))
      have BU2 := hide (BU1.trans (T1.below (OL.out.form).1 (Nat.le_trans LU.out BU1.size)))
      have OL2 := hide O1
      have EB2 : Hid (bs ++ [decide (4 ≤ kd)] = (kdB ops).take (j + 1)) := show _ = _ by rw [KT.out, EB.out]
      clear bP NB LO1 O1 G1 L1 gr T1 BU1 OL BU
      go_wp2_with (at_builtin; refine push_list rfl _ _ rfl rfl rfl hrun ?_; refine Hid.out ?_)
      clear hrun
      refine hide ?_
      go_wp2
      exact ⟨⟨j + 1, g1, c1, bs ++ [decide (4 ≤ kd)], by omega, by go_num, by simp, EB2, OL2, BU2⟩, by simp [intOf]; omega⟩
    · have lk : ¬ ((j : Nat) : Int) < (ops.length : Nat) := by omega
      have ej : j = ops.length := by omega
      have LBn : bs.length = ops.length := by rw [LB.out]; exact ej
      have EB2 : bs = kdB ops := by rw [EB.out, ej]; unfold kdB; rw [← List.length_map (f := fun o : Opn => decide (4 ≤ o.kd)), List.take_length]
      obtain ⟨gkl, BK0⟩ := OL.out.form
      rw [LBn, EB2] at BK0
      have BK1 := hide BK0
      have GK : Hid (w.heap.size + 1 ≤ gk) := gkl
      have KM := BK0.mx
      have KL := BK0.le
      unfold maxLen at KM
      rw [LBn]
      obtain ⟨e1, e2, _, e4, _⟩ := end_parts END.out
      have E2 : Hid (en ≠ 1 → ∃ m : Nat, x = m ∧ m < ops.length) := fun h => by obtain ⟨m, _, e, l, _⟩ := val_get (e2 h); exact ⟨m, e, l⟩
      have E4 : Hid (en = 3 ∨ en = 4 → ∃ m : Nat, y = m ∧ m < ops.length) := fun h => by obtain ⟨m, _, e, l, _⟩ := val_get (e4 h); exact ⟨m, e, l⟩
      clear OL EB EB2 BK0 gkl LB LBn e2 e4 BWR HR RA x2 hj hlt lk
      -- the second loop, from any marks on
      have REST : Hid (∀ (us : List Bool) (v : World), Bw v gk ops.length ck us → Below (w.heap.size + 1) u1 v → L = usedD ops ops.length us → True) := fun _ _ _ _ _ => trivial
      have R0 := hide (rec_low RA0.out BU.out (by omega))
      have z3 := R0.out.cell 3 _ rfl
      have z4 := R0.out.cell 4 _ rfl
      have z5 := R0.out.cell 5 _ rfl
      have z2 := R0.out.cell 2 _ rfl
      clear REST
      have ce : en = 1 ∨ en = 2 ∨ en = 3 ∨ en = 4 := by omega
      rcases ce with rfl | rfl | rfl | rfl
      · have US : Hid (L = usedD ops ops.length (kdB ops)) := show _ = _ by
          rw [YES.out]
          congr 1
        have TN : Turn gk wr wr := Turn.refl gk wr
        have BN := hide BK1.out
        have BB := hide (BU.out.trans (TN.below (n := w.heap.size + 1) GK.out (by have := LU.out; have := BU.out.size; omega)))
        have RN := hide (rec_low RA0.out BB.out (by omega))
        have y2 := RN.out.cell 2 _ rfl
        clear TN BK1
        have n48 : ops.length ≤ 48 := h3
        go_wp2
        generalize wr = V0 at BN BB RN ⊢
        generalize (kdB ops) = us0 at US BN
        clear RN y2 z2 z3 z4 z5 R0 BU
        go_loopw [5] (fun i wv => ∃ (m : Nat) (us : List Bool), m ≤ ops.length ∧ i = .int .i64 ((m : Int) - 1) ∧ Hid (L = usedD ops m us) ∧ Hid (Bw wv gk ops.length ck us) ∧ Hid (Below (w.heap.size + 1) u1 wv)) (fun i _ => (intOf i + 1).toNat)
        case atStart => exact ⟨ops.length, us0, Nat.le_refl _, by simp, US, BN, BB⟩
        case round =>
          clear US BN BB
          rename_i wq wr
          obtain ⟨m, us, hm, rfl, US, BN, BB⟩ := hrel
          have LV : Hid (w.heap.size + 1 ≤ wr.heap.size) := Nat.le_trans LU.out BB.out.size
          have BWR := hide (BW0.out.trans (BB.out.mono (show w.heap.size ≤ w.heap.size + 1 by omega)))
          have RA := hide (rec_low RA0.out BB.out (by omega))
          have x2 := RA.out.cell 2 _ rfl
          by_cases hm0 : 0 < m
          · obtain ⟨t, rfl⟩ : ∃ t, m = t + 1 := ⟨m - 1, by omega⟩
            have et1 : (((t + 1 : Nat) : Int) - 1) = (t : Int) := by omega
            rw [et1]
            obtain ⟨o, et⟩ : ∃ o, ops[t]? = some o := ⟨_, List.getElem?_eq_getElem (by omega)⟩
            obtain ⟨ub, eu⟩ : ∃ u, us[t]? = some u := ⟨_, List.getElem?_eq_getElem (by rw [BN.out.len]; omega)⟩
            obtain ⟨qa, qc, qo, qe, q2, q3, -, q4⟩ := (HRW.out.below BWR.out).ex
            cases qe
            unfold maxLen at q3
            obtain ⟨rfl, q5⟩ := q4.resolve_left (fun e => by rw [e] at et; simp at et)
            obtain ⟨c0, c1, c2, c3, c4⟩ := q5 t o et
            have OP := op_parts (OPS.out t o et)
            have UN : usedD ops (t + 1) us = usedD ops t (usedO ops t us) := rfl
            have UO : usedO ops t us = if ub = true then markU us o else us := by
              unfold usedO
              rw [et]
              simp only []
              rw [List.getD_eq_getElem?_getD, eu]
              rfl
            rw [UN, UO] at US
            have lk : ((t : Nat) : Int) < (ops.length : Nat) := by omega
            obtain ⟨kd, ox, oy, ok, ot⟩ := o
            simp only [] at c0 c1 c2 c3 c4 US
            have bo : Below wr.heap.size wr (wr.alloc (.cells #[.int .i64 kd, .int .i64 ox, .int .i64 oy, .int .i64 ok, .int .i64 ot] 41)) := (Below.refl _ _).alloc (Nat.le_refl _) _
            have RO := hide (Rec.new wr [.int .i64 kd, .int .i64 ox, .int .i64 oy, .int .i64 ok, .int .i64 ot] 41)
            have BN1 := hide (BN.out.below bo)
            have BB1 := hide (BB.out.trans (bo.mono LV.out))
            have cu := (BN1.out.at_ t ub eu).1
            have GO : Hid (gk < wr.heap.size) := BN.out.lt
            have LV1 := hide (Nat.le_trans LV.out bo.size)
            clear bo UN UO q4 q5 eu BN BB
            cases ub with
            | false =>
              simp only [Bool.false_eq_true, if_false] at US
              go_wp2
              exact ⟨⟨t, us, by omega, by go_num, US, BN1, BB1⟩, by first | (simp [intOf]; done) | (simp [intOf]; omega)⟩
            | true =>
              simp only [if_true] at US
              have kr := OP.1
              simp only [] at kr
              have ck8 : kd = 1 ∨ kd = 2 ∨ kd = 3 ∨ kd = 4 ∨ kd = 5 ∨ kd = 6 ∨ kd = 7 ∨ kd = 8 := by omega
              rcases ck8 with rfl | rfl | rfl | rfl | rfl | rfl | rfl | rfl
              · clear OP kr
                go_wp2_with fail
                clear c0 c1 c2 c3 c4 cu x2
                obtain ⟨ob, eob⟩ : ∃ z, wr.heap.size = z := ⟨_, rfl⟩
                rw [eob] at RO GO ⊢
                generalize wr.alloc (.cells #[.int .i64 1, .int .i64 ox, .int .i64 oy, .int .i64 ok, .int .i64 ot] 41) = w1 at RO BN1 BB1 LV1 ⊢
                clear eob
                refine (l1In 1 3 5 _).mono ?_
                rintro e w2 ⟨rfl, rfl⟩
                rw [show inI 1 3 5 = false from rfl]
                have o0 := RO.out.cell 0 _ rfl
                have o1 := RO.out.cell 1 _ rfl
                have o2 := RO.out.cell 2 _ rfl
                have BNf := BN1
                have BBf := BB1
                have USf : Hid (L = usedD ops t us) := show _ = _ by rw [US.out]; congr 1
                clear BN1 BB1 RO US
                go_wp2
                exact ⟨⟨t, us, by omega, by go_num, USf, BNf, BBf⟩, by first | (simp [intOf]; done) | (simp [intOf]; omega)⟩
              · clear OP kr
                go_wp2_with fail
                clear c0 c1 c2 c3 c4 cu x2
                obtain ⟨ob, eob⟩ : ∃ z, wr.heap.size = z := ⟨_, rfl⟩
                rw [eob] at RO GO ⊢
                generalize wr.alloc (.cells #[.int .i64 2, .int .i64 ox, .int .i64 oy, .int .i64 ok, .int .i64 ot] 41) = w1 at RO BN1 BB1 LV1 ⊢
                clear eob
                refine (l1In 2 3 5 _).mono ?_
                rintro e w2 ⟨rfl, rfl⟩
                rw [show inI 2 3 5 = false from rfl]
                have o0 := RO.out.cell 0 _ rfl
                have o1 := RO.out.cell 1 _ rfl
                have o2 := RO.out.cell 2 _ rfl
                have BNf := BN1
                have BBf := BB1
                have USf : Hid (L = usedD ops t us) := show _ = _ by rw [US.out]; congr 1
                clear BN1 BB1 RO US
                go_wp2
                exact ⟨⟨t, us, by omega, by go_num, USf, BNf, BBf⟩, by first | (simp [intOf]; done) | (simp [intOf]; omega)⟩
              · obtain ⟨mx, _, ex, lx, _⟩ := val_take (OP.2.1 (show mvX 3 = true from rfl))
                simp only [] at ex
                subst ex
                obtain ⟨my, _, ey, ly, _⟩ := val_take (OP.2.2.2.1 (show mvY 3 = true from rfl))
                simp only [] at ey
                subst ey
                clear OP kr
                go_wp2_with fail
                clear c0 c1 c2 c3 c4 cu x2
                obtain ⟨ob, eob⟩ : ∃ z, wr.heap.size = z := ⟨_, rfl⟩
                rw [eob] at RO GO ⊢
                generalize wr.alloc (.cells #[.int .i64 3, .int .i64 (mx : Int), .int .i64 (my : Int), .int .i64 ok, .int .i64 ot] 41) = w1 at RO BN1 BB1 LV1 ⊢
                clear eob
                refine (l1In 3 3 5 _).mono ?_
                rintro e w2 ⟨rfl, rfl⟩
                rw [show inI 3 3 5 = true from rfl]
                have o0 := RO.out.cell 0 _ rfl
                have o1 := RO.out.cell 1 _ rfl
                have o2 := RO.out.cell 2 _ rfl
                obtain ⟨vx, hx⟩ : ∃ v, us[mx]? = some v := ⟨_, List.getElem?_eq_getElem (by rw [BN1.out.len]; omega)⟩
                have cx := (BN1.out.at_ mx vx hx).1
                have fx := (BN1.out.at_ mx vx hx).2
                have lx2 : ((mx : Nat) : Int) < (ops.length : Nat) := by omega
                have tX := (Turn.refl gk w2).setCell (p := ⟨gk, mx, none⟩) rfl (.bool true)
                have RX := RO.out.turn tX (by have := GO.out; omega)
                have p0 := RX.cell 0 _ rfl
                have p2 := RX.cell 2 _ rfl
                have BNx := BN1.out.set (i := mx) (by omega) true
                have BBx := BB1.out.trans (tX.below (n := w.heap.size + 1) GK.out LV1.out)
                obtain ⟨vy, hy⟩ : ∃ v, (us.set mx true)[my]? = some v := ⟨_, List.getElem?_eq_getElem (by rw [BNx.len]; omega)⟩
                have cy := (BNx.at_ my vy hy).1
                have fy := (BNx.at_ my vy hy).2
                have ly2 : ((my : Nat) : Int) < (ops.length : Nat) := by omega
                have tY := (Turn.refl gk (w2.setCell ⟨gk, mx, none⟩ (.bool true))).setCell (p := ⟨gk, my, none⟩) rfl (.bool true)
                have BNf := hide (BNx.set (i := my) (by omega) true)
                have BBf := hide (BBx.trans (tY.below (n := w.heap.size + 1) GK.out (Nat.le_trans LV1.out tX.size)))
                have USf : Hid (L = usedD ops t ((us.set mx true).set my true)) := show _ = _ by rw [US.out]; congr 1
                clear tY
                clear tX RX BNx BBx
                clear BN1 BB1 RO US
                go_wp2
                exact ⟨⟨t, ((us.set mx true).set my true), by omega, by go_num, USf, BNf, BBf⟩, by first | (simp [intOf]; done) | (simp [intOf]; omega)⟩
              · obtain ⟨mx, _, ex, lx, _⟩ := val_take (OP.2.1 (show mvX 4 = true from rfl))
                simp only [] at ex
                subst ex
                clear OP kr
                go_wp2_with fail
                clear c0 c1 c2 c3 c4 cu x2
                obtain ⟨ob, eob⟩ : ∃ z, wr.heap.size = z := ⟨_, rfl⟩
                rw [eob] at RO GO ⊢
                generalize wr.alloc (.cells #[.int .i64 4, .int .i64 (mx : Int), .int .i64 oy, .int .i64 ok, .int .i64 ot] 41) = w1 at RO BN1 BB1 LV1 ⊢
                clear eob
                refine (l1In 4 3 5 _).mono ?_
                rintro e w2 ⟨rfl, rfl⟩
                rw [show inI 4 3 5 = true from rfl]
                have o0 := RO.out.cell 0 _ rfl
                have o1 := RO.out.cell 1 _ rfl
                have o2 := RO.out.cell 2 _ rfl
                obtain ⟨vx, hx⟩ : ∃ v, us[mx]? = some v := ⟨_, List.getElem?_eq_getElem (by rw [BN1.out.len]; omega)⟩
                have cx := (BN1.out.at_ mx vx hx).1
                have fx := (BN1.out.at_ mx vx hx).2
                have lx2 : ((mx : Nat) : Int) < (ops.length : Nat) := by omega
                have tX := (Turn.refl gk w2).setCell (p := ⟨gk, mx, none⟩) rfl (.bool true)
                have RX := RO.out.turn tX (by have := GO.out; omega)
                have p0 := RX.cell 0 _ rfl
                have p2 := RX.cell 2 _ rfl
                have BNx := BN1.out.set (i := mx) (by omega) true
                have BBx := BB1.out.trans (tX.below (n := w.heap.size + 1) GK.out LV1.out)
                have BNf := hide BNx
                have BBf := hide BBx
                have USf : Hid (L = usedD ops t (us.set mx true)) := show _ = _ by rw [US.out]; congr 1
                clear tX RX BNx BBx
                clear BN1 BB1 RO US
                go_wp2
                exact ⟨⟨t, (us.set mx true), by omega, by go_num, USf, BNf, BBf⟩, by first | (simp [intOf]; done) | (simp [intOf]; omega)⟩
              · obtain ⟨mx, _, ex, lx, _⟩ := val_take (OP.2.1 (show mvX 5 = true from rfl))
                simp only [] at ex
                subst ex
                obtain ⟨my, _, ey, ly, _⟩ := val_take (OP.2.2.2.1 (show mvY 5 = true from rfl))
                simp only [] at ey
                subst ey
                clear OP kr
                go_wp2_with fail
                clear c0 c1 c2 c3 c4 cu x2
                obtain ⟨ob, eob⟩ : ∃ z, wr.heap.size = z := ⟨_, rfl⟩
                rw [eob] at RO GO ⊢
                generalize wr.alloc (.cells #[.int .i64 5, .int .i64 (mx : Int), .int .i64 (my : Int), .int .i64 ok, .int .i64 ot] 41) = w1 at RO BN1 BB1 LV1 ⊢
                clear eob
                refine (l1In 5 3 5 _).mono ?_
                rintro e w2 ⟨rfl, rfl⟩
                rw [show inI 5 3 5 = true from rfl]
                have o0 := RO.out.cell 0 _ rfl
                have o1 := RO.out.cell 1 _ rfl
                have o2 := RO.out.cell 2 _ rfl
                obtain ⟨vx, hx⟩ : ∃ v, us[mx]? = some v := ⟨_, List.getElem?_eq_getElem (by rw [BN1.out.len]; omega)⟩
                have cx := (BN1.out.at_ mx vx hx).1
                have fx := (BN1.out.at_ mx vx hx).2
                have lx2 : ((mx : Nat) : Int) < (ops.length : Nat) := by omega
                have tX := (Turn.refl gk w2).setCell (p := ⟨gk, mx, none⟩) rfl (.bool true)
                have RX := RO.out.turn tX (by have := GO.out; omega)
                have p0 := RX.cell 0 _ rfl
                have p2 := RX.cell 2 _ rfl
                have BNx := BN1.out.set (i := mx) (by omega) true
                have BBx := BB1.out.trans (tX.below (n := w.heap.size + 1) GK.out LV1.out)
                obtain ⟨vy, hy⟩ : ∃ v, (us.set mx true)[my]? = some v := ⟨_, List.getElem?_eq_getElem (by rw [BNx.len]; omega)⟩
                have cy := (BNx.at_ my vy hy).1
                have fy := (BNx.at_ my vy hy).2
                have ly2 : ((my : Nat) : Int) < (ops.length : Nat) := by omega
                have tY := (Turn.refl gk (w2.setCell ⟨gk, mx, none⟩ (.bool true))).setCell (p := ⟨gk, my, none⟩) rfl (.bool true)
                have BNf := hide (BNx.set (i := my) (by omega) true)
                have BBf := hide (BBx.trans (tY.below (n := w.heap.size + 1) GK.out (Nat.le_trans LV1.out tX.size)))
                have USf : Hid (L = usedD ops t ((us.set mx true).set my true)) := show _ = _ by rw [US.out]; congr 1
                clear tY
                clear tX RX BNx BBx
                clear BN1 BB1 RO US
                go_wp2
                exact ⟨⟨t, ((us.set mx true).set my true), by omega, by go_num, USf, BNf, BBf⟩, by first | (simp [intOf]; done) | (simp [intOf]; omega)⟩
              · clear OP kr
                go_wp2_with fail
                clear c0 c1 c2 c3 c4 cu x2
                obtain ⟨ob, eob⟩ : ∃ z, wr.heap.size = z := ⟨_, rfl⟩
                rw [eob] at RO GO ⊢
                generalize wr.alloc (.cells #[.int .i64 6, .int .i64 ox, .int .i64 oy, .int .i64 ok, .int .i64 ot] 41) = w1 at RO BN1 BB1 LV1 ⊢
                clear eob
                refine (l1In 6 3 5 _).mono ?_
                rintro e w2 ⟨rfl, rfl⟩
                rw [show inI 6 3 5 = false from rfl]
                have o0 := RO.out.cell 0 _ rfl
                have o1 := RO.out.cell 1 _ rfl
                have o2 := RO.out.cell 2 _ rfl
                have BNf := BN1
                have BBf := BB1
                have USf : Hid (L = usedD ops t us) := show _ = _ by rw [US.out]; congr 1
                clear BN1 BB1 RO US
                go_wp2
                exact ⟨⟨t, us, by omega, by go_num, USf, BNf, BBf⟩, by first | (simp [intOf]; done) | (simp [intOf]; omega)⟩
              · obtain ⟨mx, _, ex, lx, _⟩ := val_take (OP.2.1 (show mvX 7 = true from rfl))
                simp only [] at ex
                subst ex
                clear OP kr
                go_wp2_with fail
                clear c0 c1 c2 c3 c4 cu x2
                obtain ⟨ob, eob⟩ : ∃ z, wr.heap.size = z := ⟨_, rfl⟩
                rw [eob] at RO GO ⊢
                generalize wr.alloc (.cells #[.int .i64 7, .int .i64 (mx : Int), .int .i64 oy, .int .i64 ok, .int .i64 ot] 41) = w1 at RO BN1 BB1 LV1 ⊢
                clear eob
                refine (l1In 7 3 5 _).mono ?_
                rintro e w2 ⟨rfl, rfl⟩
                rw [show inI 7 3 5 = false from rfl]
                have o0 := RO.out.cell 0 _ rfl
                have o1 := RO.out.cell 1 _ rfl
                have o2 := RO.out.cell 2 _ rfl
                obtain ⟨vx, hx⟩ : ∃ v, us[mx]? = some v := ⟨_, List.getElem?_eq_getElem (by rw [BN1.out.len]; omega)⟩
                have cx := (BN1.out.at_ mx vx hx).1
                have fx := (BN1.out.at_ mx vx hx).2
                have lx2 : ((mx : Nat) : Int) < (ops.length : Nat) := by omega
                have tX := (Turn.refl gk w2).setCell (p := ⟨gk, mx, none⟩) rfl (.bool true)
                have RX := RO.out.turn tX (by have := GO.out; omega)
                have p0 := RX.cell 0 _ rfl
                have p2 := RX.cell 2 _ rfl
                have BNx := BN1.out.set (i := mx) (by omega) true
                have BBx := BB1.out.trans (tX.below (n := w.heap.size + 1) GK.out LV1.out)
                have BNf := hide BNx
                have BBf := hide BBx
                have USf : Hid (L = usedD ops t (us.set mx true)) := show _ = _ by rw [US.out]; congr 1
                clear tX RX BNx BBx
                clear BN1 BB1 RO US
                go_wp2
                exact ⟨⟨t, (us.set mx true), by omega, by go_num, USf, BNf, BBf⟩, by first | (simp [intOf]; done) | (simp [intOf]; omega)⟩
              · obtain ⟨mx, _, ex, lx, _⟩ := val_take (OP.2.1 (show mvX 8 = true from rfl))
                simp only [] at ex
                subst ex
                clear OP kr
                go_wp2_with fail
                clear c0 c1 c2 c3 c4 cu x2
                obtain ⟨ob, eob⟩ : ∃ z, wr.heap.size = z := ⟨_, rfl⟩
                rw [eob] at RO GO ⊢
                generalize wr.alloc (.cells #[.int .i64 8, .int .i64 (mx : Int), .int .i64 oy, .int .i64 ok, .int .i64 ot] 41) = w1 at RO BN1 BB1 LV1 ⊢
                clear eob
                refine (l1In 8 3 5 _).mono ?_
                rintro e w2 ⟨rfl, rfl⟩
                rw [show inI 8 3 5 = false from rfl]
                have o0 := RO.out.cell 0 _ rfl
                have o1 := RO.out.cell 1 _ rfl
                have o2 := RO.out.cell 2 _ rfl
                obtain ⟨vx, hx⟩ : ∃ v, us[mx]? = some v := ⟨_, List.getElem?_eq_getElem (by rw [BN1.out.len]; omega)⟩
                have cx := (BN1.out.at_ mx vx hx).1
                have fx := (BN1.out.at_ mx vx hx).2
                have lx2 : ((mx : Nat) : Int) < (ops.length : Nat) := by omega
                have tX := (Turn.refl gk w2).setCell (p := ⟨gk, mx, none⟩) rfl (.bool true)
                have RX := RO.out.turn tX (by have := GO.out; omega)
                have p0 := RX.cell 0 _ rfl
                have p2 := RX.cell 2 _ rfl
                have BNx := BN1.out.set (i := mx) (by omega) true
                have BBx := BB1.out.trans (tX.below (n := w.heap.size + 1) GK.out LV1.out)
                have BNf := hide BNx
                have BBf := hide BBx
                have USf : Hid (L = usedD ops t (us.set mx true)) := show _ = _ by rw [US.out]; congr 1
                clear tX RX BNx BBx
                clear BN1 BB1 RO US
                go_wp2
                exact ⟨⟨t, (us.set mx true), by omega, by go_num, USf, BNf, BBf⟩, by first | (simp [intOf]; done) | (simp [intOf]; omega)⟩
          · obtain rfl : m = 0 := by omega
            have UL : Hid (L = us) := US
            obtain rfl := UL.out
            have LN := BN.out.len
            go_wp2
            exact bodyPost_ret (v := .slice (some ⟨gk, 0, none⟩) ops.length ck) (by simp [results, Tryd.results14, go_sem]) rfl ⟨gk, ck, by first | rfl | rw [LN], by first | exact BN.out | (rw [LN]; exact BN.out), by have := GK.out; omega, BWR.out⟩
      · obtain ⟨mx, rfl, lx⟩ := E2.out (by decide)
        obtain ⟨vx, hx⟩ : ∃ v, (kdB ops)[mx]? = some v := ⟨_, List.getElem?_eq_getElem (by unfold kdB; rw [List.length_map]; exact lx)⟩
        have cx := (BK1.out.at_ mx vx hx).1
        have fx := (BK1.out.at_ mx vx hx).2
        have lx2 : ((mx : Nat) : Int) < (ops.length : Nat) := by omega
        have tz := ((Turn.refl gk wr).setCell (p := ⟨gk, mx, none⟩) rfl (.bool true)).below (n := w.heap.size + 1) GK.out (by have := LU.out; have := BU.out.size; omega)
        have zz3 := (rec_low R0.out tz (by omega)).cell 3 _ rfl
        have US : Hid (L = usedD ops ops.length ((kdB ops).set mx true)) := show _ = _ by
          rw [YES.out]
          congr 1
        have TN : Turn gk wr (wr.setCell ⟨gk, mx, none⟩ (.bool true)) := (Turn.refl gk wr).setCell (p := ⟨gk, mx, none⟩) rfl _
        have BN := hide (BK1.out.set lx true)
        have BB := hide (BU.out.trans (TN.below (n := w.heap.size + 1) GK.out (by have := LU.out; have := BU.out.size; omega)))
        have RN := hide (rec_low RA0.out BB.out (by omega))
        have y2 := RN.out.cell 2 _ rfl
        clear TN BK1
        have n48 : ops.length ≤ 48 := h3
        go_wp2
        generalize (wr.setCell ⟨gk, mx, none⟩ (.bool true)) = V0 at BN BB RN ⊢
        generalize ((kdB ops).set mx true) = us0 at US BN
        clear RN y2 z2 z3 z4 z5 R0 BU
        go_loopw [5] (fun i wv => ∃ (m : Nat) (us : List Bool), m ≤ ops.length ∧ i = .int .i64 ((m : Int) - 1) ∧ Hid (L = usedD ops m us) ∧ Hid (Bw wv gk ops.length ck us) ∧ Hid (Below (w.heap.size + 1) u1 wv)) (fun i _ => (intOf i + 1).toNat)
        case atStart => exact ⟨ops.length, us0, Nat.le_refl _, by simp, US, BN, BB⟩
        case round =>
          clear US BN BB
          rename_i wq wr
          obtain ⟨m, us, hm, rfl, US, BN, BB⟩ := hrel
          have LV : Hid (w.heap.size + 1 ≤ wr.heap.size) := Nat.le_trans LU.out BB.out.size
          have BWR := hide (BW0.out.trans (BB.out.mono (show w.heap.size ≤ w.heap.size + 1 by omega)))
          have RA := hide (rec_low RA0.out BB.out (by omega))
          have x2 := RA.out.cell 2 _ rfl
          by_cases hm0 : 0 < m
          · obtain ⟨t, rfl⟩ : ∃ t, m = t + 1 := ⟨m - 1, by omega⟩
            have et1 : (((t + 1 : Nat) : Int) - 1) = (t : Int) := by omega
            rw [et1]
            obtain ⟨o, et⟩ : ∃ o, ops[t]? = some o := ⟨_, List.getElem?_eq_getElem (by omega)⟩
            obtain ⟨ub, eu⟩ : ∃ u, us[t]? = some u := ⟨_, List.getElem?_eq_getElem (by rw [BN.out.len]; omega)⟩
            obtain ⟨qa, qc, qo, qe, q2, q3, -, q4⟩ := (HRW.out.below BWR.out).ex
            cases qe
            unfold maxLen at q3
            obtain ⟨rfl, q5⟩ := q4.resolve_left (fun e => by rw [e] at et; simp at et)
            obtain ⟨c0, c1, c2, c3, c4⟩ := q5 t o et
            have OP := op_parts (OPS.out t o et)
            have UN : usedD ops (t + 1) us = usedD ops t (usedO ops t us) := rfl
            have UO : usedO ops t us = if ub = true then markU us o else us := by
              unfold usedO
              rw [et]
              simp only []
              rw [List.getD_eq_getElem?_getD, eu]
              rfl
            rw [UN, UO] at US
            have lk : ((t : Nat) : Int) < (ops.length : Nat) := by omega
            obtain ⟨kd, ox, oy, ok, ot⟩ := o
            simp only [] at c0 c1 c2 c3 c4 US
            have bo : Below wr.heap.size wr (wr.alloc (.cells #[.int .i64 kd, .int .i64 ox, .int .i64 oy, .int .i64 ok, .int .i64 ot] 41)) := (Below.refl _ _).alloc (Nat.le_refl _) _
            have RO := hide (Rec.new wr [.int .i64 kd, .int .i64 ox, .int .i64 oy, .int .i64 ok, .int .i64 ot] 41)
            have BN1 := hide (BN.out.below bo)
            have BB1 := hide (BB.out.trans (bo.mono LV.out))
            have cu := (BN1.out.at_ t ub eu).1
            have GO : Hid (gk < wr.heap.size) := BN.out.lt
            have LV1 := hide (Nat.le_trans LV.out bo.size)
            clear bo UN UO q4 q5 eu BN BB
            cases ub with
            | false =>
              simp only [Bool.false_eq_true, if_false] at US
              go_wp2
              exact ⟨⟨t, us, by omega, by go_num, US, BN1, BB1⟩, by first | (simp [intOf]; done) | (simp [intOf]; omega)⟩
            | true =>
              simp only [if_true] at US
              have kr := OP.1
              simp only [] at kr
              have ck8 : kd = 1 ∨ kd = 2 ∨ kd = 3 ∨ kd = 4 ∨ kd = 5 ∨ kd = 6 ∨ kd = 7 ∨ kd = 8 := by omega
              rcases ck8 with rfl | rfl | rfl | rfl | rfl | rfl | rfl | rfl
              · clear OP kr
                go_wp2_with fail
                clear c0 c1 c2 c3 c4 cu x2
                obtain ⟨ob, eob⟩ : ∃ z, wr.heap.size = z := ⟨_, rfl⟩
                rw [eob] at RO GO ⊢
                generalize wr.alloc (.cells #[.int .i64 1, .int .i64 ox, .int .i64 oy, .int .i64 ok, .int .i64 ot] 41) = w1 at RO BN1 BB1 LV1 ⊢
                clear eob
                refine (l1In 1 3 5 _).mono ?_
                rintro e w2 ⟨rfl, rfl⟩
                rw [show inI 1 3 5 = false from rfl]
                have o0 := RO.out.cell 0 _ rfl
                have o1 := RO.out.cell 1 _ rfl
                have o2 := RO.out.cell 2 _ rfl
                have BNf := BN1
                have BBf := BB1
                have USf : Hid (L = usedD ops t us) := show _ = _ by rw [US.out]; congr 1
                clear BN1 BB1 RO US
                go_wp2
                exact ⟨⟨t, us, by omega, by go_num, USf, BNf, BBf⟩, by first | (simp [intOf]; done) | (simp [intOf]; omega)⟩
              · clear OP kr
                go_wp2_with fail
                clear c0 c1 c2 c3 c4 cu x2
                obtain ⟨ob, eob⟩ : ∃ z, wr.heap.size = z := ⟨_, rfl⟩
                rw [eob] at RO GO ⊢
                generalize wr.alloc (.cells #[.int .i64 2, .int .i64 ox, .int .i64 oy, .int .i64 ok, .int .i64 ot] 41) = w1 at RO BN1 BB1 LV1 ⊢
                clear eob
                refine (l1In 2 3 5 _).mono ?_
                rintro e w2 ⟨rfl, rfl⟩
                rw [show inI 2 3 5 = false from rfl]
                have o0 := RO.out.cell 0 _ rfl
                have o1 := RO.out.cell 1 _ rfl
                have o2 := RO.out.cell 2 _ rfl
                have BNf := BN1
                have BBf := BB1
                have USf : Hid (L = usedD ops t us) := show _ = _ by rw [US.out]; congr 1
                clear BN1 BB1 RO US
                go_wp2
                exact ⟨⟨t, us, by omega, by go_num, USf, BNf, BBf⟩, by first | (simp [intOf]; done) | (simp [intOf]; omega)⟩
              · obtain ⟨mx, _, ex, lx, _⟩ := val_take (OP.2.1 (show mvX 3 = true from rfl))
                simp only [] at ex
                subst ex
                obtain ⟨my, _, ey, ly, _⟩ := val_take (OP.2.2.2.1 (show mvY 3 = true from rfl))
                simp only [] at ey
                subst ey
                clear OP kr
                go_wp2_with fail
                clear c0 c1 c2 c3 c4 cu x2
                obtain ⟨ob, eob⟩ : ∃ z, wr.heap.size = z := ⟨_, rfl⟩
                rw [eob] at RO GO ⊢
                generalize wr.alloc (.cells #[.int .i64 3, .int .i64 (mx : Int), .int .i64 (my : Int), .int .i64 ok, .int .i64 ot] 41) = w1 at RO BN1 BB1 LV1 ⊢
                clear eob
                refine (l1In 3 3 5 _).mono ?_
                rintro e w2 ⟨rfl, rfl⟩
                rw [show inI 3 3 5 = true from rfl]
                have o0 := RO.out.cell 0 _ rfl
                have o1 := RO.out.cell 1 _ rfl
                have o2 := RO.out.cell 2 _ rfl
                obtain ⟨vx, hx⟩ : ∃ v, us[mx]? = some v := ⟨_, List.getElem?_eq_getElem (by rw [BN1.out.len]; omega)⟩
                have cx := (BN1.out.at_ mx vx hx).1
                have fx := (BN1.out.at_ mx vx hx).2
                have lx2 : ((mx : Nat) : Int) < (ops.length : Nat) := by omega
                have tX := (Turn.refl gk w2).setCell (p := ⟨gk, mx, none⟩) rfl (.bool true)
                have RX := RO.out.turn tX (by have := GO.out; omega)
                have p0 := RX.cell 0 _ rfl
                have p2 := RX.cell 2 _ rfl
                have BNx := BN1.out.set (i := mx) (by omega) true
                have BBx := BB1.out.trans (tX.below (n := w.heap.size + 1) GK.out LV1.out)
                obtain ⟨vy, hy⟩ : ∃ v, (us.set mx true)[my]? = some v := ⟨_, List.getElem?_eq_getElem (by rw [BNx.len]; omega)⟩
                have cy := (BNx.at_ my vy hy).1
                have fy := (BNx.at_ my vy hy).2
                have ly2 : ((my : Nat) : Int) < (ops.length : Nat) := by omega
                have tY := (Turn.refl gk (w2.setCell ⟨gk, mx, none⟩ (.bool true))).setCell (p := ⟨gk, my, none⟩) rfl (.bool true)
                have BNf := hide (BNx.set (i := my) (by omega) true)
                have BBf := hide (BBx.trans (tY.below (n := w.heap.size + 1) GK.out (Nat.le_trans LV1.out tX.size)))
                have USf : Hid (L = usedD ops t ((us.set mx true).set my true)) := show _ = _ by rw [US.out]; congr 1
                clear tY
                clear tX RX BNx BBx
                clear BN1 BB1 RO US
                go_wp2
                exact ⟨⟨t, ((us.set mx true).set my true), by omega, by go_num, USf, BNf, BBf⟩, by first | (simp [intOf]; done) | (simp [intOf]; omega)⟩
              · obtain ⟨mx, _, ex, lx, _⟩ := val_take (OP.2.1 (show mvX 4 = true from rfl))
                simp only [] at ex
                subst ex
                clear OP kr
                go_wp2_with fail
                clear c0 c1 c2 c3 c4 cu x2
                obtain ⟨ob, eob⟩ : ∃ z, wr.heap.size = z := ⟨_, rfl⟩
                rw [eob] at RO GO ⊢
                generalize wr.alloc (.cells #[.int .i64 4, .int .i64 (mx : Int), .int .i64 oy, .int .i64 ok, .int .i64 ot] 41) = w1 at RO BN1 BB1 LV1 ⊢
                clear eob
                refine (l1In 4 3 5 _).mono ?_
                rintro e w2 ⟨rfl, rfl⟩
                rw [show inI 4 3 5 = true from rfl]
                have o0 := RO.out.cell 0 _ rfl
                have o1 := RO.out.cell 1 _ rfl
                have o2 := RO.out.cell 2 _ rfl
                obtain ⟨vx, hx⟩ : ∃ v, us[mx]? = some v := ⟨_, List.getElem?_eq_getElem (by rw [BN1.out.len]; omega)⟩
                have cx := (BN1.out.at_ mx vx hx).1
                have fx := (BN1.out.at_ mx vx hx).2
                have lx2 : ((mx : Nat) : Int) < (ops.length : Nat) := by omega
                have tX := (Turn.refl gk w2).setCell (p := ⟨gk, mx, none⟩) rfl (.bool true)
                have RX := RO.out.turn tX (by have := GO.out; omega)
                have p0 := RX.cell 0 _ rfl
                have p2 := RX.cell 2 _ rfl
                have BNx := BN1.out.set (i := mx) (by omega) true
                have BBx := BB1.out.trans (tX.below (n := w.heap.size + 1) GK.out LV1.out)
                have BNf := hide BNx
                have BBf := hide BBx
                have USf : Hid (L = usedD ops t (us.set mx true)) := show _ = _ by rw [US.out]; congr 1
                clear tX RX BNx BBx
                clear BN1 BB1 RO US
                go_wp2
                exact ⟨⟨t, (us.set mx true), by omega, by go_num, USf, BNf, BBf⟩, by first | (simp [intOf]; done) | (simp [intOf]; omega)⟩
              · obtain ⟨mx, _, ex, lx, _⟩ := val_take (OP.2.1 (show mvX 5 = true from rfl))
                simp only [] at ex
                subst ex
                obtain ⟨my, _, ey, ly, _⟩ := val_take (OP.2.2.2.1 (show mvY 5 = true from rfl))
                simp only [] at ey
                subst ey
                clear OP kr
                go_wp2_with fail
                clear c0 c1 c2 c3 c4 cu x2
                obtain ⟨ob, eob⟩ : ∃ z, wr.heap.size = z := ⟨_, rfl⟩
                rw [eob] at RO GO ⊢
                generalize wr.alloc (.cells #[.int .i64 5, .int .i64 (mx : Int), .int .i64 (my : Int), .int .i64 ok, .int .i64 ot] 41) = w1 at RO BN1 BB1 LV1 ⊢
                clear eob
                refine (l1In 5 3 5 _).mono ?_
                rintro e w2 ⟨rfl, rfl⟩
                rw [show inI 5 3 5 = true from rfl]
                have o0 := RO.out.cell 0 _ rfl
                have o1 := RO.out.cell 1 _ rfl
                have o2 := RO.out.cell 2 _ rfl
                obtain ⟨vx, hx⟩ : ∃ v, us[mx]? = some v := ⟨_, List.getElem?_eq_getElem (by rw [BN1.out.len]; omega)⟩
                have cx := (BN1.out.at_ mx vx hx).1
                have fx := (BN1.out.at_ mx vx hx).2
                have lx2 : ((mx : Nat) : Int) < (ops.length : Nat) := by omega
                have tX := (Turn.refl gk w2).setCell (p := ⟨gk, mx, none⟩) rfl (.bool true)
                have RX := RO.out.turn tX (by have := GO.out; omega)
                have p0 := RX.cell 0 _ rfl
                have p2 := RX.cell 2 _ rfl
                have BNx := BN1.out.set (i := mx) (by omega) true
                have BBx := BB1.out.trans (tX.below (n := w.heap.size + 1) GK.out LV1.out)
                obtain ⟨vy, hy⟩ : ∃ v, (us.set mx true)[my]? = some v := ⟨_, List.getElem?_eq_getElem (by rw [BNx.len]; omega)⟩
                have cy := (BNx.at_ my vy hy).1
                have fy := (BNx.at_ my vy hy).2
                have ly2 : ((my : Nat) : Int) < (ops.length : Nat) := by omega
                have tY := (Turn.refl gk (w2.setCell ⟨gk, mx, none⟩ (.bool true))).setCell (p := ⟨gk, my, none⟩) rfl (.bool true)
                have BNf := hide (BNx.set (i := my) (by omega) true)
                have BBf := hide (BBx.trans (tY.below (n := w.heap.size + 1) GK.out (Nat.le_trans LV1.out tX.size)))
                have USf : Hid (L = usedD ops t ((us.set mx true).set my true)) := show _ = _ by rw [US.out]; congr 1
                clear tY
                clear tX RX BNx BBx
                clear BN1 BB1 RO US
                go_wp2
                exact ⟨⟨t, ((us.set mx true).set my true), by omega, by go_num, USf, BNf, BBf⟩, by first | (simp [intOf]; done) | (simp [intOf]; omega)⟩
              · clear OP kr
                go_wp2_with fail
                clear c0 c1 c2 c3 c4 cu x2
                obtain ⟨ob, eob⟩ : ∃ z, wr.heap.size = z := ⟨_, rfl⟩
                rw [eob] at RO GO ⊢
                generalize wr.alloc (.cells #[.int .i64 6, .int .i64 ox, .int .i64 oy, .int .i64 ok, .int .i64 ot] 41) = w1 at RO BN1 BB1 LV1 ⊢
                clear eob
                refine (l1In 6 3 5 _).mono ?_
                rintro e w2 ⟨rfl, rfl⟩
                rw [show inI 6 3 5 = false from rfl]
                have o0 := RO.out.cell 0 _ rfl
                have o1 := RO.out.cell 1 _ rfl
                have o2 := RO.out.cell 2 _ rfl
                have BNf := BN1
                have BBf := BB1
                have USf : Hid (L = usedD ops t us) := show _ = _ by rw [US.out]; congr 1
                clear BN1 BB1 RO US
                go_wp2
                exact ⟨⟨t, us, by omega, by go_num, USf, BNf, BBf⟩, by first | (simp [intOf]; done) | (simp [intOf]; omega)⟩
              · obtain ⟨mx, _, ex, lx, _⟩ := val_take (OP.2.1 (show mvX 7 = true from rfl))
                simp only [] at ex
                subst ex
                clear OP kr
                go_wp2_with fail
                clear c0 c1 c2 c3 c4 cu x2
                obtain ⟨ob, eob⟩ : ∃ z, wr.heap.size = z := ⟨_, rfl⟩
                rw [eob] at RO GO ⊢
                generalize wr.alloc (.cells #[.int .i64 7, .int .i64 (mx : Int), .int .i64 oy, .int .i64 ok, .int .i64 ot] 41) = w1 at RO BN1 BB1 LV1 ⊢
                clear eob
                refine (l1In 7 3 5 _).mono ?_
                rintro e w2 ⟨rfl, rfl⟩
                rw [show inI 7 3 5 = false from rfl]
                have o0 := RO.out.cell 0 _ rfl
                have o1 := RO.out.cell 1 _ rfl
                have o2 := RO.out.cell 2 _ rfl
                obtain ⟨vx, hx⟩ : ∃ v, us[mx]? = some v := ⟨_, List.getElem?_eq_getElem (by rw [BN1.out.len]; omega)⟩
                have cx := (BN1.out.at_ mx vx hx).1
                have fx := (BN1.out.at_ mx vx hx).2
                have lx2 : ((mx : Nat) : Int) < (ops.length : Nat) := by omega
                have tX := (Turn.refl gk w2).setCell (p := ⟨gk, mx, none⟩) rfl (.bool true)
                have RX := RO.out.turn tX (by have := GO.out; omega)
                have p0 := RX.cell 0 _ rfl
                have p2 := RX.cell 2 _ rfl
                have BNx := BN1.out.set (i := mx) (by omega) true
                have BBx := BB1.out.trans (tX.below (n := w.heap.size + 1) GK.out LV1.out)
                have BNf := hide BNx
                have BBf := hide BBx
                have USf : Hid (L = usedD ops t (us.set mx true)) := show _ = _ by rw [US.out]; congr 1
                clear tX RX BNx BBx
                clear BN1 BB1 RO US
                go_wp2
                exact ⟨⟨t, (us.set mx true), by omega, by go_num, USf, BNf, BBf⟩, by first | (simp [intOf]; done) | (simp [intOf]; omega)⟩
              · obtain ⟨mx, _, ex, lx, _⟩ := val_take (OP.2.1 (show mvX 8 = true from rfl))
                simp only [] at ex
                subst ex
                clear OP kr
                go_wp2_with fail
                clear c0 c1 c2 c3 c4 cu x2
                obtain ⟨ob, eob⟩ : ∃ z, wr.heap.size = z := ⟨_, rfl⟩
                rw [eob] at RO GO ⊢
                generalize wr.alloc (.cells #[.int .i64 8, .int .i64 (mx : Int), .int .i64 oy, .int .i64 ok, .int .i64 ot] 41) = w1 at RO BN1 BB1 LV1 ⊢
                clear eob
                refine (l1In 8 3 5 _).mono ?_
                rintro e w2 ⟨rfl, rfl⟩
                rw [show inI 8 3 5 = false from rfl]
                have o0 := RO.out.cell 0 _ rfl
                have o1 := RO.out.cell 1 _ rfl
                have o2 := RO.out.cell 2 _ rfl
                obtain ⟨vx, hx⟩ : ∃ v, us[mx]? = some v := ⟨_, List.getElem?_eq_getElem (by rw [BN1.out.len]; omega)⟩
                have cx := (BN1.out.at_ mx vx hx).1
                have fx := (BN1.out.at_ mx vx hx).2
                have lx2 : ((mx : Nat) : Int) < (ops.length : Nat) := by omega
                have tX := (Turn.refl gk w2).setCell (p := ⟨gk, mx, none⟩) rfl (.bool true)
                have RX := RO.out.turn tX (by have := GO.out; omega)
                have p0 := RX.cell 0 _ rfl
                have p2 := RX.cell 2 _ rfl
                have BNx := BN1.out.set (i := mx) (by omega) true
                have BBx := BB1.out.trans (tX.below (n := w.heap.size + 1) GK.out LV1.out)
                have BNf := hide BNx
                have BBf := hide BBx
                have USf : Hid (L = usedD ops t (us.set mx true)) := show _ = _ by rw [US.out]; congr 1
                clear tX RX BNx BBx
                clear BN1 BB1 RO US
                go_wp2
                exact ⟨⟨t, (us.set mx true), by omega, by go_num, USf, BNf, BBf⟩, by first | (simp [intOf]; done) | (simp [intOf]; omega)⟩
          · obtain rfl : m = 0 := by omega
            have UL : Hid (L = us) := US
            obtain rfl := UL.out
            have LN := BN.out.len
            go_wp2
            exact bodyPost_ret (v := .slice (some ⟨gk, 0, none⟩) ops.length ck) (by simp [results, Tryd.results14, go_sem]) rfl ⟨gk, ck, by first | rfl | rw [LN], by first | exact BN.out | (rw [LN]; exact BN.out), by have := GK.out; omega, BWR.out⟩
      · obtain ⟨mx, rfl, lx⟩ := E2.out (by decide)
        obtain ⟨vx, hx⟩ : ∃ v, (kdB ops)[mx]? = some v := ⟨_, List.getElem?_eq_getElem (by unfold kdB; rw [List.length_map]; exact lx)⟩
        have cx := (BK1.out.at_ mx vx hx).1
        have fx := (BK1.out.at_ mx vx hx).2
        have lx2 : ((mx : Nat) : Int) < (ops.length : Nat) := by omega
        obtain ⟨my, rfl, ly⟩ := E4.out (by decide)
        obtain ⟨vy, hy⟩ : ∃ v, ((kdB ops).set mx true)[my]? = some v := ⟨_, List.getElem?_eq_getElem (by unfold kdB; rw [List.length_set, List.length_map]; exact ly)⟩
        have cy := ((BK1.out.set lx true).at_ my vy hy).1
        have fy := ((BK1.out.set lx true).at_ my vy hy).2
        have ly2 : ((my : Nat) : Int) < (ops.length : Nat) := by omega
        have tz := ((Turn.refl gk wr).setCell (p := ⟨gk, mx, none⟩) rfl (.bool true)).below (n := w.heap.size + 1) GK.out (by have := LU.out; have := BU.out.size; omega)
        have zz3 := (rec_low R0.out tz (by omega)).cell 3 _ rfl
        have zz5 := (rec_low R0.out tz (by omega)).cell 5 _ rfl
        have US : Hid (L = usedD ops ops.length (((kdB ops).set mx true).set my true)) := show _ = _ by
          rw [YES.out]
          congr 1
        have TN : Turn gk wr ((wr.setCell ⟨gk, mx, none⟩ (.bool true)).setCell ⟨gk, my, none⟩ (.bool true)) := ((Turn.refl gk wr).setCell (p := ⟨gk, mx, none⟩) rfl _).setCell (p := ⟨gk, my, none⟩) rfl _
        have BN := hide ((BK1.out.set lx true).set ly true)
        have BB := hide (BU.out.trans (TN.below (n := w.heap.size + 1) GK.out (by have := LU.out; have := BU.out.size; omega)))
        have RN := hide (rec_low RA0.out BB.out (by omega))
        have y2 := RN.out.cell 2 _ rfl
        clear TN BK1
        have n48 : ops.length ≤ 48 := h3
        go_wp2
        generalize ((wr.setCell ⟨gk, mx, none⟩ (.bool true)).setCell ⟨gk, my, none⟩ (.bool true)) = V0 at BN BB RN ⊢
        generalize (((kdB ops).set mx true).set my true) = us0 at US BN
        clear RN y2 z2 z3 z4 z5 R0 BU
        go_loopw [5] (fun i wv => ∃ (m : Nat) (us : List Bool), m ≤ ops.length ∧ i = .int .i64 ((m : Int) - 1) ∧ Hid (L = usedD ops m us) ∧ Hid (Bw wv gk ops.length ck us) ∧ Hid (Below (w.heap.size + 1) u1 wv)) (fun i _ => (intOf i + 1).toNat)
        case atStart => exact ⟨ops.length, us0, Nat.le_refl _, by simp, US, BN, BB⟩
        case round =>
          clear US BN BB
          rename_i wq wr
          obtain ⟨m, us, hm, rfl, US, BN, BB⟩ := hrel
          have LV : Hid (w.heap.size + 1 ≤ wr.heap.size) := Nat.le_trans LU.out BB.out.size
          have BWR := hide (BW0.out.trans (BB.out.mono (show w.heap.size ≤ w.heap.size + 1 by omega)))
          have RA := hide (rec_low RA0.out BB.out (by omega))
          have x2 := RA.out.cell 2 _ rfl
          by_cases hm0 : 0 < m
          · obtain ⟨t, rfl⟩ : ∃ t, m = t + 1 := ⟨m - 1, by omega⟩
            have et1 : (((t + 1 : Nat) : Int) - 1) = (t : Int) := by omega
            rw [et1]
            obtain ⟨o, et⟩ : ∃ o, ops[t]? = some o := ⟨_, List.getElem?_eq_getElem (by omega)⟩
            obtain ⟨ub, eu⟩ : ∃ u, us[t]? = some u := ⟨_, List.getElem?_eq_getElem (by rw [BN.out.len]; omega)⟩
            obtain ⟨qa, qc, qo, qe, q2, q3, -, q4⟩ := (HRW.out.below BWR.out).ex
            cases qe
            unfold maxLen at q3
            obtain ⟨rfl, q5⟩ := q4.resolve_left (fun e => by rw [e] at et; simp at et)
            obtain ⟨c0, c1, c2, c3, c4⟩ := q5 t o et
            have OP := op_parts (OPS.out t o et)
            have UN : usedD ops (t + 1) us = usedD ops t (usedO ops t us) := rfl
            have UO : usedO ops t us = if ub = true then markU us o else us := by
              unfold usedO
              rw [et]
              simp only []
              rw [List.getD_eq_getElem?_getD, eu]
              rfl
            rw [UN, UO] at US
            have lk : ((t : Nat) : Int) < (ops.length : Nat) := by omega
            obtain ⟨kd, ox, oy, ok, ot⟩ := o
            simp only [] at c0 c1 c2 c3 c4 US
            have bo : Below wr.heap.size wr (wr.alloc (.cells #[.int .i64 kd, .int .i64 ox, .int .i64 oy, .int .i64 ok, .int .i64 ot] 41)) := (Below.refl _ _).alloc (Nat.le_refl _) _
            have RO := hide (Rec.new wr [.int .i64 kd, .int .i64 ox, .int .i64 oy, .int .i64 ok, .int .i64 ot] 41)
            have BN1 := hide (BN.out.below bo)
            have BB1 := hide (BB.out.trans (bo.mono LV.out))
            have cu := (BN1.out.at_ t ub eu).1
            have GO : Hid (gk < wr.heap.size) := BN.out.lt
            have LV1 := hide (Nat.le_trans LV.out bo.size)
            clear bo UN UO q4 q5 eu BN BB
            cases ub with
            | false =>
              simp only [Bool.false_eq_true, if_false] at US
              go_wp2
              exact ⟨⟨t, us, by omega, by go_num, US, BN1, BB1⟩, by first | (simp [intOf]; done) | (simp [intOf]; omega)⟩
            | true =>
              simp only [if_true] at US
              have kr := OP.1
              simp only [] at kr
              have ck8 : kd = 1 ∨ kd = 2 ∨ kd = 3 ∨ kd = 4 ∨ kd = 5 ∨ kd = 6 ∨ kd = 7 ∨ kd = 8 := by omega
              rcases ck8 with rfl | rfl | rfl | rfl | rfl | rfl | rfl | rfl
              · clear OP kr
                go_wp2_with fail
                clear c0 c1 c2 c3 c4 cu x2
                obtain ⟨ob, eob⟩ : ∃ z, wr.heap.size = z := ⟨_, rfl⟩
                rw [eob] at RO GO ⊢
                generalize wr.alloc (.cells #[.int .i64 1, .int .i64 ox, .int .i64 oy, .int .i64 ok, .int .i64 ot] 41) = w1 at RO BN1 BB1 LV1 ⊢
                clear eob
                refine (l1In 1 3 5 _).mono ?_
                rintro e w2 ⟨rfl, rfl⟩
                rw [show inI 1 3 5 = false from rfl]
                have o0 := RO.out.cell 0 _ rfl
                have o1 := RO.out.cell 1 _ rfl
                have o2 := RO.out.cell 2 _ rfl
                have BNf := BN1
                have BBf := BB1
                have USf : Hid (L = usedD ops t us) := show _ = _ by rw [US.out]; congr 1
                clear BN1 BB1 RO US
                go_wp2
                exact ⟨⟨t, us, by omega, by go_num, USf, BNf, BBf⟩, by first | (simp [intOf]; done) | (simp [intOf]; omega)⟩
              · clear OP kr
                go_wp2_with fail
                clear c0 c1 c2 c3 c4 cu x2
                obtain ⟨ob, eob⟩ : ∃ z, wr.heap.size = z := ⟨_, rfl⟩
                rw [eob] at RO GO ⊢
                generalize wr.alloc (.cells #[.int .i64 2, .int .i64 ox, .int .i64 oy, .int .i64 ok, .int .i64 ot] 41) = w1 at RO BN1 BB1 LV1 ⊢
                clear eob
                refine (l1In 2 3 5 _).mono ?_
                rintro e w2 ⟨rfl, rfl⟩
                rw [show inI 2 3 5 = false from rfl]
                have o0 := RO.out.cell 0 _ rfl
                have o1 := RO.out.cell 1 _ rfl
                have o2 := RO.out.cell 2 _ rfl
                have BNf := BN1
                have BBf := BB1
                have USf : Hid (L = usedD ops t us) := show _ = _ by rw [US.out]; congr 1
                clear BN1 BB1 RO US
                go_wp2
                exact ⟨⟨t, us, by omega, by go_num, USf, BNf, BBf⟩, by first | (simp [intOf]; done) | (simp [intOf]; omega)⟩
              · obtain ⟨mx, _, ex, lx, _⟩ := val_take (OP.2.1 (show mvX 3 = true from rfl))
                simp only [] at ex
                subst ex
                obtain ⟨my, _, ey, ly, _⟩ := val_take (OP.2.2.2.1 (show mvY 3 = true from rfl))
                simp only [] at ey
                subst ey
                clear OP kr
                go_wp2_with fail
                clear c0 c1 c2 c3 c4 cu x2
                obtain ⟨ob, eob⟩ : ∃ z, wr.heap.size = z := ⟨_, rfl⟩
                rw [eob] at RO GO ⊢
                generalize wr.alloc (.cells #[.int .i64 3, .int .i64 (mx : Int), .int .i64 (my : Int), .int .i64 ok, .int .i64 ot] 41) = w1 at RO BN1 BB1 LV1 ⊢
                clear eob
                refine (l1In 3 3 5 _).mono ?_
                rintro e w2 ⟨rfl, rfl⟩
                rw [show inI 3 3 5 = true from rfl]
                have o0 := RO.out.cell 0 _ rfl
                have o1 := RO.out.cell 1 _ rfl
                have o2 := RO.out.cell 2 _ rfl
                obtain ⟨vx, hx⟩ : ∃ v, us[mx]? = some v := ⟨_, List.getElem?_eq_getElem (by rw [BN1.out.len]; omega)⟩
                have cx := (BN1.out.at_ mx vx hx).1
                have fx := (BN1.out.at_ mx vx hx).2
                have lx2 : ((mx : Nat) : Int) < (ops.length : Nat) := by omega
                have tX := (Turn.refl gk w2).setCell (p := ⟨gk, mx, none⟩) rfl (.bool true)
                have RX := RO.out.turn tX (by have := GO.out; omega)
                have p0 := RX.cell 0 _ rfl
                have p2 := RX.cell 2 _ rfl
                have BNx := BN1.out.set (i := mx) (by omega) true
                have BBx := BB1.out.trans (tX.below (n := w.heap.size + 1) GK.out LV1.out)
                obtain ⟨vy, hy⟩ : ∃ v, (us.set mx true)[my]? = some v := ⟨_, List.getElem?_eq_getElem (by rw [BNx.len]; omega)⟩
                have cy := (BNx.at_ my vy hy).1
                have fy := (BNx.at_ my vy hy).2
                have ly2 : ((my : Nat) : Int) < (ops.length : Nat) := by omega
                have tY := (Turn.refl gk (w2.setCell ⟨gk, mx, none⟩ (.bool true))).setCell (p := ⟨gk, my, none⟩) rfl (.bool true)
                have BNf := hide (BNx.set (i := my) (by omega) true)
                have BBf := hide (BBx.trans (tY.below (n := w.heap.size + 1) GK.out (Nat.le_trans LV1.out tX.size)))
                have USf : Hid (L = usedD ops t ((us.set mx true).set my true)) := show _ = _ by rw [US.out]; congr 1
                clear tY
                clear tX RX BNx BBx
                clear BN1 BB1 RO US
                go_wp2
                exact ⟨⟨t, ((us.set mx true).set my true), by omega, by go_num, USf, BNf, BBf⟩, by first | (simp [intOf]; done) | (simp [intOf]; omega)⟩
              · obtain ⟨mx, _, ex, lx, _⟩ := val_take (OP.2.1 (show mvX 4 = true from rfl))
                simp only [] at ex
                subst ex
                clear OP kr
                go_wp2_with fail
                clear c0 c1 c2 c3 c4 cu x2
                obtain ⟨ob, eob⟩ : ∃ z, wr.heap.size = z := ⟨_, rfl⟩
                rw [eob] at RO GO ⊢
                generalize wr.alloc (.cells #[.int .i64 4, .int .i64 (mx : Int), .int .i64 oy, .int .i64 ok, .int .i64 ot] 41) = w1 at RO BN1 BB1 LV1 ⊢
                clear eob
                refine (l1In 4 3 5 _).mono ?_
                rintro e w2 ⟨rfl, rfl⟩
                rw [show inI 4 3 5 = true from rfl]
                have o0 := RO.out.cell 0 _ rfl
                have o1 := RO.out.cell 1 _ rfl
                have o2 := RO.out.cell 2 _ rfl
                obtain ⟨vx, hx⟩ : ∃ v, us[mx]? = some v := ⟨_, List.getElem?_eq_getElem (by rw [BN1.out.len]; omega)⟩
                have cx := (BN1.out.at_ mx vx hx).1
                have fx := (BN1.out.at_ mx vx hx).2
                have lx2 : ((mx : Nat) : Int) < (ops.length : Nat) := by omega
                have tX := (Turn.refl gk w2).setCell (p := ⟨gk, mx, none⟩) rfl (.bool true)
                have RX := RO.out.turn tX (by have := GO.out; omega)
                have p0 := RX.cell 0 _ rfl
                have p2 := RX.cell 2 _ rfl
                have BNx := BN1.out.set (i := mx) (by omega) true
                have BBx := BB1.out.trans (tX.below (n := w.heap.size + 1) GK.out LV1.out)
                have BNf := hide BNx
                have BBf := hide BBx
                have USf : Hid (L = usedD ops t (us.set mx true)) := show _ = _ by rw [US.out]; congr 1
                clear tX RX BNx BBx
                clear BN1 BB1 RO US
                go_wp2
                exact ⟨⟨t, (us.set mx true), by omega, by go_num, USf, BNf, BBf⟩, by first | (simp [intOf]; done) | (simp [intOf]; omega)⟩
              · obtain ⟨mx, _, ex, lx, _⟩ := val_take (OP.2.1 (show mvX 5 = true from rfl))
                simp only [] at ex
                subst ex
                obtain ⟨my, _, ey, ly, _⟩ := val_take (OP.2.2.2.1 (show mvY 5 = true from rfl))
                simp only [] at ey
                subst ey
                clear OP kr
                go_wp2_with fail
                clear c0 c1 c2 c3 c4 cu x2
                obtain ⟨ob, eob⟩ : ∃ z, wr.heap.size = z := ⟨_, rfl⟩
                rw [eob] at RO GO ⊢
                generalize wr.alloc (.cells #[.int .i64 5, .int .i64 (mx : Int), .int .i64 (my : Int), .int .i64 ok, .int .i64 ot] 41) = w1 at RO BN1 BB1 LV1 ⊢
                clear eob
                refine (l1In 5 3 5 _).mono ?_
                rintro e w2 ⟨rfl, rfl⟩
                rw [show inI 5 3 5 = true from rfl]
                have o0 := RO.out.cell 0 _ rfl
                have o1 := RO.out.cell 1 _ rfl
                have o2 := RO.out.cell 2 _ rfl
                obtain ⟨vx, hx⟩ : ∃ v, us[mx]? = some v := ⟨_, List.getElem?_eq_getElem (by rw [BN1.out.len]; omega)⟩
                have cx := (BN1.out.at_ mx vx hx).1
                have fx := (BN1.out.at_ mx vx hx).2
                have lx2 : ((mx : Nat) : Int) < (ops.length : Nat) := by omega
                have tX := (Turn.refl gk w2).setCell (p := ⟨gk, mx, none⟩) rfl (.bool true)
                have RX := RO.out.turn tX (by have := GO.out; omega)
                have p0 := RX.cell 0 _ rfl
                have p2 := RX.cell 2 _ rfl
                have BNx := BN1.out.set (i := mx) (by omega) true
                have BBx := BB1.out.trans (tX.below (n := w.heap.size + 1) GK.out LV1.out)
                obtain ⟨vy, hy⟩ : ∃ v, (us.set mx true)[my]? = some v := ⟨_, List.getElem?_eq_getElem (by rw [BNx.len]; omega)⟩
                have cy := (BNx.at_ my vy hy).1
                have fy := (BNx.at_ my vy hy).2
                have ly2 : ((my : Nat) : Int) < (ops.length : Nat) := by omega
                have tY := (Turn.refl gk (w2.setCell ⟨gk, mx, none⟩ (.bool true))).setCell (p := ⟨gk, my, none⟩) rfl (.bool true)
                have BNf := hide (BNx.set (i := my) (by omega) true)
                have BBf := hide (BBx.trans (tY.below (n := w.heap.size + 1) GK.out (Nat.le_trans LV1.out tX.size)))
                have USf : Hid (L = usedD ops t ((us.set mx true).set my true)) := show _ = _ by rw [US.out]; congr 1
                clear tY
                clear tX RX BNx BBx
                clear BN1 BB1 RO US
                go_wp2
                exact ⟨⟨t, ((us.set mx true).set my true), by omega, by go_num, USf, BNf, BBf⟩, by first | (simp [intOf]; done) | (simp [intOf]; omega)⟩
              · clear OP kr
                go_wp2_with fail
                clear c0 c1 c2 c3 c4 cu x2
                obtain ⟨ob, eob⟩ : ∃ z, wr.heap.size = z := ⟨_, rfl⟩
                rw [eob] at RO GO ⊢
                generalize wr.alloc (.cells #[.int .i64 6, .int .i64 ox, .int .i64 oy, .int .i64 ok, .int .i64 ot] 41) = w1 at RO BN1 BB1 LV1 ⊢
                clear eob
                refine (l1In 6 3 5 _).mono ?_
                rintro e w2 ⟨rfl, rfl⟩
                rw [show inI 6 3 5 = false from rfl]
                have o0 := RO.out.cell 0 _ rfl
                have o1 := RO.out.cell 1 _ rfl
                have o2 := RO.out.cell 2 _ rfl
                have BNf := BN1
                have BBf := BB1
                have USf : Hid (L = usedD ops t us) := show _ = _ by rw [US.out]; congr 1
                clear BN1 BB1 RO US
                go_wp2
                exact ⟨⟨t, us, by omega, by go_num, USf, BNf, BBf⟩, by first | (simp [intOf]; done) | (simp [intOf]; omega)⟩
              · obtain ⟨mx, _, ex, lx, _⟩ := val_take (OP.2.1 (show mvX 7 = true from rfl))
                simp only [] at ex
                subst ex
                clear OP kr
                go_wp2_with fail
                clear c0 c1 c2 c3 c4 cu x2
                obtain ⟨ob, eob⟩ : ∃ z, wr.heap.size = z := ⟨_, rfl⟩
                rw [eob] at RO GO ⊢
                generalize wr.alloc (.cells #[.int .i64 7, .int .i64 (mx : Int), .int .i64 oy, .int .i64 ok, .int .i64 ot] 41) = w1 at RO BN1 BB1 LV1 ⊢
                clear eob
                refine (l1In 7 3 5 _).mono ?_
                rintro e w2 ⟨rfl, rfl⟩
                rw [show inI 7 3 5 = false from rfl]
                have o0 := RO.out.cell 0 _ rfl
                have o1 := RO.out.cell 1 _ rfl
                have o2 := RO.out.cell 2 _ rfl
                obtain ⟨vx, hx⟩ : ∃ v, us[mx]? = some v := ⟨_, List.getElem?_eq_getElem (by rw [BN1.out.len]; omega)⟩
                have cx := (BN1.out.at_ mx vx hx).1
                have fx := (BN1.out.at_ mx vx hx).2
                have lx2 : ((mx : Nat) : Int) < (ops.length : Nat) := by omega
                have tX := (Turn.refl gk w2).setCell (p := ⟨gk, mx, none⟩) rfl (.bool true)
                have RX := RO.out.turn tX (by have := GO.out; omega)
                have p0 := RX.cell 0 _ rfl
                have p2 := RX.cell 2 _ rfl
                have BNx := BN1.out.set (i := mx) (by omega) true
                have BBx := BB1.out.trans (tX.below (n := w.heap.size + 1) GK.out LV1.out)
                have BNf := hide BNx
                have BBf := hide BBx
                have USf : Hid (L = usedD ops t (us.set mx true)) := show _ = _ by rw [US.out]; congr 1
                clear tX RX BNx BBx
                clear BN1 BB1 RO US
                go_wp2
                exact ⟨⟨t, (us.set mx true), by omega, by go_num, USf, BNf, BBf⟩, by first | (simp [intOf]; done) | (simp [intOf]; omega)⟩
              · obtain ⟨mx, _, ex, lx, _⟩ := val_take (OP.2.1 (show mvX 8 = true from rfl))
                simp only [] at ex
                subst ex
                clear OP kr
                go_wp2_with fail
                clear c0 c1 c2 c3 c4 cu x2
                obtain ⟨ob, eob⟩ : ∃ z, wr.heap.size = z := ⟨_, rfl⟩
                rw [eob] at RO GO ⊢
                generalize wr.alloc (.cells #[.int .i64 8, .int .i64 (mx : Int), .int .i64 oy, .int .i64 ok, .int .i64 ot] 41) = w1 at RO BN1 BB1 LV1 ⊢
                clear eob
                refine (l1In 8 3 5 _).mono ?_
                rintro e w2 ⟨rfl, rfl⟩
                rw [show inI 8 3 5 = false from rfl]
                have o0 := RO.out.cell 0 _ rfl
                have o1 := RO.out.cell 1 _ rfl
                have o2 := RO.out.cell 2 _ rfl
                obtain ⟨vx, hx⟩ : ∃ v, us[mx]? = some v := ⟨_, List.getElem?_eq_getElem (by rw [BN1.out.len]; omega)⟩
                have cx := (BN1.out.at_ mx vx hx).1
                have fx := (BN1.out.at_ mx vx hx).2
                have lx2 : ((mx : Nat) : Int) < (ops.length : Nat) := by omega
                have tX := (Turn.refl gk w2).setCell (p := ⟨gk, mx, none⟩) rfl (.bool true)
                have RX := RO.out.turn tX (by have := GO.out; omega)
                have p0 := RX.cell 0 _ rfl
                have p2 := RX.cell 2 _ rfl
                have BNx := BN1.out.set (i := mx) (by omega) true
                have BBx := BB1.out.trans (tX.below (n := w.heap.size + 1) GK.out LV1.out)
                have BNf := hide BNx
                have BBf := hide BBx
                have USf : Hid (L = usedD ops t (us.set mx true)) := show _ = _ by rw [US.out]; congr 1
                clear tX RX BNx BBx
                clear BN1 BB1 RO US
                go_wp2
                exact ⟨⟨t, (us.set mx true), by omega, by go_num, USf, BNf, BBf⟩, by first | (simp [intOf]; done) | (simp [intOf]; omega)⟩
          · obtain rfl : m = 0 := by omega
            have UL : Hid (L = us) := US
            obtain rfl := UL.out
            have LN := BN.out.len
            go_wp2
            exact bodyPost_ret (v := .slice (some ⟨gk, 0, none⟩) ops.length ck) (by simp [results, Tryd.results14, go_sem]) rfl ⟨gk, ck, by first | rfl | rw [LN], by first | exact BN.out | (rw [LN]; exact BN.out), by have := GK.out; omega, BWR.out⟩
      · obtain ⟨mx, rfl, lx⟩ := E2.out (by decide)
        obtain ⟨vx, hx⟩ : ∃ v, (kdB ops)[mx]? = some v := ⟨_, List.getElem?_eq_getElem (by unfold kdB; rw [List.length_map]; exact lx)⟩
        have cx := (BK1.out.at_ mx vx hx).1
        have fx := (BK1.out.at_ mx vx hx).2
        have lx2 : ((mx : Nat) : Int) < (ops.length : Nat) := by omega
        obtain ⟨my, rfl, ly⟩ := E4.out (by decide)
        obtain ⟨vy, hy⟩ : ∃ v, ((kdB ops).set mx true)[my]? = some v := ⟨_, List.getElem?_eq_getElem (by unfold kdB; rw [List.length_set, List.length_map]; exact ly)⟩
        have cy := ((BK1.out.set lx true).at_ my vy hy).1
        have fy := ((BK1.out.set lx true).at_ my vy hy).2
        have ly2 : ((my : Nat) : Int) < (ops.length : Nat) := by omega
        have tz := ((Turn.refl gk wr).setCell (p := ⟨gk, mx, none⟩) rfl (.bool true)).below (n := w.heap.size + 1) GK.out (by have := LU.out; have := BU.out.size; omega)
        have zz3 := (rec_low R0.out tz (by omega)).cell 3 _ rfl
        have zz5 := (rec_low R0.out tz (by omega)).cell 5 _ rfl
        have US : Hid (L = usedD ops ops.length (((kdB ops).set mx true).set my true)) := show _ = _ by
          rw [YES.out]
          congr 1
        have TN : Turn gk wr ((wr.setCell ⟨gk, mx, none⟩ (.bool true)).setCell ⟨gk, my, none⟩ (.bool true)) := ((Turn.refl gk wr).setCell (p := ⟨gk, mx, none⟩) rfl _).setCell (p := ⟨gk, my, none⟩) rfl _
        have BN := hide ((BK1.out.set lx true).set ly true)
        have BB := hide (BU.out.trans (TN.below (n := w.heap.size + 1) GK.out (by have := LU.out; have := BU.out.size; omega)))
        have RN := hide (rec_low RA0.out BB.out (by omega))
        have y2 := RN.out.cell 2 _ rfl
        clear TN BK1
        have n48 : ops.length ≤ 48 := h3
        go_wp2
        generalize ((wr.setCell ⟨gk, mx, none⟩ (.bool true)).setCell ⟨gk, my, none⟩ (.bool true)) = V0 at BN BB RN ⊢
        generalize (((kdB ops).set mx true).set my true) = us0 at US BN
        clear RN y2 z2 z3 z4 z5 R0 BU
        go_loopw [5] (fun i wv => ∃ (m : Nat) (us : List Bool), m ≤ ops.length ∧ i = .int .i64 ((m : Int) - 1) ∧ Hid (L = usedD ops m us) ∧ Hid (Bw wv gk ops.length ck us) ∧ Hid (Below (w.heap.size + 1) u1 wv)) (fun i _ => (intOf i + 1).toNat)
        case atStart => exact ⟨ops.length, us0, Nat.le_refl _, by simp, US, BN, BB⟩
        case round =>
          clear US BN BB
          rename_i wq wr
          obtain ⟨m, us, hm, rfl, US, BN, BB⟩ := hrel
          have LV : Hid (w.heap.size + 1 ≤ wr.heap.size) := Nat.le_trans LU.out BB.out.size
          have BWR := hide (BW0.out.trans (BB.out.mono (show w.heap.size ≤ w.heap.size + 1 by omega)))
          have RA := hide (rec_low RA0.out BB.out (by omega))
          have x2 := RA.out.cell 2 _ rfl
          by_cases hm0 : 0 < m
          · obtain ⟨t, rfl⟩ : ∃ t, m = t + 1 := ⟨m - 1, by omega⟩
            have et1 : (((t + 1 : Nat) : Int) - 1) = (t : Int) := by omega
            rw [et1]
            obtain ⟨o, et⟩ : ∃ o, ops[t]? = some o := ⟨_, List.getElem?_eq_getElem (by omega)⟩
            obtain ⟨ub, eu⟩ : ∃ u, us[t]? = some u := ⟨_, List.getElem?_eq_getElem (by rw [BN.out.len]; omega)⟩
            obtain ⟨qa, qc, qo, qe, q2, q3, -, q4⟩ := (HRW.out.below BWR.out).ex
            cases qe
            unfold maxLen at q3
            obtain ⟨rfl, q5⟩ := q4.resolve_left (fun e => by rw [e] at et; simp at et)
            obtain ⟨c0, c1, c2, c3, c4⟩ := q5 t o et
            have OP := op_parts (OPS.out t o et)
            have UN : usedD ops (t + 1) us = usedD ops t (usedO ops t us) := rfl
            have UO : usedO ops t us = if ub = true then markU us o else us := by
              unfold usedO
              rw [et]
              simp only []
              rw [List.getD_eq_getElem?_getD, eu]
              rfl
            rw [UN, UO] at US
            have lk : ((t : Nat) : Int) < (ops.length : Nat) := by omega
            obtain ⟨kd, ox, oy, ok, ot⟩ := o
            simp only [] at c0 c1 c2 c3 c4 US
            have bo : Below wr.heap.size wr (wr.alloc (.cells #[.int .i64 kd, .int .i64 ox, .int .i64 oy, .int .i64 ok, .int .i64 ot] 41)) := (Below.refl _ _).alloc (Nat.le_refl _) _
            have RO := hide (Rec.new wr [.int .i64 kd, .int .i64 ox, .int .i64 oy, .int .i64 ok, .int .i64 ot] 41)
            have BN1 := hide (BN.out.below bo)
            have BB1 := hide (BB.out.trans (bo.mono LV.out))
            have cu := (BN1.out.at_ t ub eu).1
            have GO : Hid (gk < wr.heap.size) := BN.out.lt
            have LV1 := hide (Nat.le_trans LV.out bo.size)
            clear bo UN UO q4 q5 eu BN BB
            cases ub with
            | false =>
              simp only [Bool.false_eq_true, if_false] at US
              go_wp2
              exact ⟨⟨t, us, by omega, by go_num, US, BN1, BB1⟩, by first | (simp [intOf]; done) | (simp [intOf]; omega)⟩
            | true =>
              simp only [if_true] at US
              have kr := OP.1
              simp only [] at kr
              have ck8 : kd = 1 ∨ kd = 2 ∨ kd = 3 ∨ kd = 4 ∨ kd = 5 ∨ kd = 6 ∨ kd = 7 ∨ kd = 8 := by omega
              rcases ck8 with rfl | rfl | rfl | rfl | rfl | rfl | rfl | rfl
              · clear OP kr
                go_wp2_with fail
                clear c0 c1 c2 c3 c4 cu x2
                obtain ⟨ob, eob⟩ : ∃ z, wr.heap.size = z := ⟨_, rfl⟩
                rw [eob] at RO GO ⊢
                generalize wr.alloc (.cells #[.int .i64 1, .int .i64 ox, .int .i64 oy, .int .i64 ok, .int .i64 ot] 41) = w1 at RO BN1 BB1 LV1 ⊢
                clear eob
                refine (l1In 1 3 5 _).mono ?_
                rintro e w2 ⟨rfl, rfl⟩
                rw [show inI 1 3 5 = false from rfl]
                have o0 := RO.out.cell 0 _ rfl
                have o1 := RO.out.cell 1 _ rfl
                have o2 := RO.out.cell 2 _ rfl
                have BNf := BN1
                have BBf := BB1
                have USf : Hid (L = usedD ops t us) := show _ = _ by rw [US.out]; congr 1
                clear BN1 BB1 RO US
                go_wp2
                exact ⟨⟨t, us, by omega, by go_num, USf, BNf, BBf⟩, by first | (simp [intOf]; done) | (simp [intOf]; omega)⟩
              · clear OP kr
                go_wp2_with fail
                clear c0 c1 c2 c3 c4 cu x2
                obtain ⟨ob, eob⟩ : ∃ z, wr.heap.size = z := ⟨_, rfl⟩
                rw [eob] at RO GO ⊢
                generalize wr.alloc (.cells #[.int .i64 2, .int .i64 ox, .int .i64 oy, .int .i64 ok, .int .i64 ot] 41) = w1 at RO BN1 BB1 LV1 ⊢
                clear eob
                refine (l1In 2 3 5 _).mono ?_
                rintro e w2 ⟨rfl, rfl⟩
                rw [show inI 2 3 5 = false from rfl]
                have o0 := RO.out.cell 0 _ rfl
                have o1 := RO.out.cell 1 _ rfl
                have o2 := RO.out.cell 2 _ rfl
                have BNf := BN1
                have BBf := BB1
                have USf : Hid (L = usedD ops t us) := show _ = _ by rw [US.out]; congr 1
                clear BN1 BB1 RO US
                go_wp2
                exact ⟨⟨t, us, by omega, by go_num, USf, BNf, BBf⟩, by first | (simp [intOf]; done) | (simp [intOf]; omega)⟩
              · obtain ⟨mx, _, ex, lx, _⟩ := val_take (OP.2.1 (show mvX 3 = true from rfl))
                simp only [] at ex
                subst ex
                obtain ⟨my, _, ey, ly, _⟩ := val_take (OP.2.2.2.1 (show mvY 3 = true from rfl))
                simp only [] at ey
                subst ey
                clear OP kr
                go_wp2_with fail
                clear c0 c1 c2 c3 c4 cu x2
                obtain ⟨ob, eob⟩ : ∃ z, wr.heap.size = z := ⟨_, rfl⟩
                rw [eob] at RO GO ⊢
                generalize wr.alloc (.cells #[.int .i64 3, .int .i64 (mx : Int), .int .i64 (my : Int), .int .i64 ok, .int .i64 ot] 41) = w1 at RO BN1 BB1 LV1 ⊢
                clear eob
                refine (l1In 3 3 5 _).mono ?_
                rintro e w2 ⟨rfl, rfl⟩
                rw [show inI 3 3 5 = true from rfl]
                have o0 := RO.out.cell 0 _ rfl
                have o1 := RO.out.cell 1 _ rfl
                have o2 := RO.out.cell 2 _ rfl
                obtain ⟨vx, hx⟩ : ∃ v, us[mx]? = some v := ⟨_, List.getElem?_eq_getElem (by rw [BN1.out.len]; omega)⟩
                have cx := (BN1.out.at_ mx vx hx).1
                have fx := (BN1.out.at_ mx vx hx).2
                have lx2 : ((mx : Nat) : Int) < (ops.length : Nat) := by omega
                have tX := (Turn.refl gk w2).setCell (p := ⟨gk, mx, none⟩) rfl (.bool true)
                have RX := RO.out.turn tX (by have := GO.out; omega)
                have p0 := RX.cell 0 _ rfl
                have p2 := RX.cell 2 _ rfl
                have BNx := BN1.out.set (i := mx) (by omega) true
                have BBx := BB1.out.trans (tX.below (n := w.heap.size + 1) GK.out LV1.out)
                obtain ⟨vy, hy⟩ : ∃ v, (us.set mx true)[my]? = some v := ⟨_, List.getElem?_eq_getElem (by rw [BNx.len]; omega)⟩
                have cy := (BNx.at_ my vy hy).1
                have fy := (BNx.at_ my vy hy).2
                have ly2 : ((my : Nat) : Int) < (ops.length : Nat) := by omega
                have tY := (Turn.refl gk (w2.setCell ⟨gk, mx, none⟩ (.bool true))).setCell (p := ⟨gk, my, none⟩) rfl (.bool true)
                have BNf := hide (BNx.set (i := my) (by omega) true)
                have BBf := hide (BBx.trans (tY.below (n := w.heap.size + 1) GK.out (Nat.le_trans LV1.out tX.size)))
                have USf : Hid (L = usedD ops t ((us.set mx true).set my true)) := show _ = _ by rw [US.out]; congr 1
                clear tY
                clear tX RX BNx BBx
                clear BN1 BB1 RO US
                go_wp2
                exact ⟨⟨t, ((us.set mx true).set my true), by omega, by go_num, USf, BNf, BBf⟩, by first | (simp [intOf]; done) | (simp [intOf]; omega)⟩
              · obtain ⟨mx, _, ex, lx, _⟩ := val_take (OP.2.1 (show mvX 4 = true from rfl))
                simp only [] at ex
                subst ex
                clear OP kr
                go_wp2_with fail
                clear c0 c1 c2 c3 c4 cu x2
                obtain ⟨ob, eob⟩ : ∃ z, wr.heap.size = z := ⟨_, rfl⟩
                rw [eob] at RO GO ⊢
                generalize wr.alloc (.cells #[.int .i64 4, .int .i64 (mx : Int), .int .i64 oy, .int .i64 ok, .int .i64 ot] 41) = w1 at RO BN1 BB1 LV1 ⊢
                clear eob
                refine (l1In 4 3 5 _).mono ?_
                rintro e w2 ⟨rfl, rfl⟩
                rw [show inI 4 3 5 = true from rfl]
                have o0 := RO.out.cell 0 _ rfl
                have o1 := RO.out.cell 1 _ rfl
                have o2 := RO.out.cell 2 _ rfl
                obtain ⟨vx, hx⟩ : ∃ v, us[mx]? = some v := ⟨_, List.getElem?_eq_getElem (by rw [BN1.out.len]; omega)⟩
                have cx := (BN1.out.at_ mx vx hx).1
                have fx := (BN1.out.at_ mx vx hx).2
                have lx2 : ((mx : Nat) : Int) < (ops.length : Nat) := by omega
                have tX := (Turn.refl gk w2).setCell (p := ⟨gk, mx, none⟩) rfl (.bool true)
                have RX := RO.out.turn tX (by have := GO.out; omega)
                have p0 := RX.cell 0 _ rfl
                have p2 := RX.cell 2 _ rfl
                have BNx := BN1.out.set (i := mx) (by omega) true
                have BBx := BB1.out.trans (tX.below (n := w.heap.size + 1) GK.out LV1.out)
                have BNf := hide BNx
                have BBf := hide BBx
                have USf : Hid (L = usedD ops t (us.set mx true)) := show _ = _ by rw [US.out]; congr 1
                clear tX RX BNx BBx
                clear BN1 BB1 RO US
                go_wp2
                exact ⟨⟨t, (us.set mx true), by omega, by go_num, USf, BNf, BBf⟩, by first | (simp [intOf]; done) | (simp [intOf]; omega)⟩
              · obtain ⟨mx, _, ex, lx, _⟩ := val_take (OP.2.1 (show mvX 5 = true from rfl))
                simp only [] at ex
                subst ex
                obtain ⟨my, _, ey, ly, _⟩ := val_take (OP.2.2.2.1 (show mvY 5 = true from rfl))
                simp only [] at ey
                subst ey
                clear OP kr
                go_wp2_with fail
                clear c0 c1 c2 c3 c4 cu x2
                obtain ⟨ob, eob⟩ : ∃ z, wr.heap.size = z := ⟨_, rfl⟩
                rw [eob] at RO GO ⊢
                generalize wr.alloc (.cells #[.int .i64 5, .int .i64 (mx : Int), .int .i64 (my : Int), .int .i64 ok, .int .i64 ot] 41) = w1 at RO BN1 BB1 LV1 ⊢
                clear eob
                refine (l1In 5 3 5 _).mono ?_
                rintro e w2 ⟨rfl, rfl⟩
                rw [show inI 5 3 5 = true from rfl]
                have o0 := RO.out.cell 0 _ rfl
                have o1 := RO.out.cell 1 _ rfl
                have o2 := RO.out.cell 2 _ rfl
                obtain ⟨vx, hx⟩ : ∃ v, us[mx]? = some v := ⟨_, List.getElem?_eq_getElem (by rw [BN1.out.len]; omega)⟩
                have cx := (BN1.out.at_ mx vx hx).1
                have fx := (BN1.out.at_ mx vx hx).2
                have lx2 : ((mx : Nat) : Int) < (ops.length : Nat) := by omega
                have tX := (Turn.refl gk w2).setCell (p := ⟨gk, mx, none⟩) rfl (.bool true)
                have RX := RO.out.turn tX (by have := GO.out; omega)
                have p0 := RX.cell 0 _ rfl
                have p2 := RX.cell 2 _ rfl
                have BNx := BN1.out.set (i := mx) (by omega) true
                have BBx := BB1.out.trans (tX.below (n := w.heap.size + 1) GK.out LV1.out)
                obtain ⟨vy, hy⟩ : ∃ v, (us.set mx true)[my]? = some v := ⟨_, List.getElem?_eq_getElem (by rw [BNx.len]; omega)⟩
                have cy := (BNx.at_ my vy hy).1
                have fy := (BNx.at_ my vy hy).2
                have ly2 : ((my : Nat) : Int) < (ops.length : Nat) := by omega
                have tY := (Turn.refl gk (w2.setCell ⟨gk, mx, none⟩ (.bool true))).setCell (p := ⟨gk, my, none⟩) rfl (.bool true)
                have BNf := hide (BNx.set (i := my) (by omega) true)
                have BBf := hide (BBx.trans (tY.below (n := w.heap.size + 1) GK.out (Nat.le_trans LV1.out tX.size)))
                have USf : Hid (L = usedD ops t ((us.set mx true).set my true)) := show _ = _ by rw [US.out]; congr 1
                clear tY
                clear tX RX BNx BBx
                clear BN1 BB1 RO US
                go_wp2
                exact ⟨⟨t, ((us.set mx true).set my true), by omega, by go_num, USf, BNf, BBf⟩, by first | (simp [intOf]; done) | (simp [intOf]; omega)⟩
              · clear OP kr
                go_wp2_with fail
                clear c0 c1 c2 c3 c4 cu x2
                obtain ⟨ob, eob⟩ : ∃ z, wr.heap.size = z := ⟨_, rfl⟩
                rw [eob] at RO GO ⊢
                generalize wr.alloc (.cells #[.int .i64 6, .int .i64 ox, .int .i64 oy, .int .i64 ok, .int .i64 ot] 41) = w1 at RO BN1 BB1 LV1 ⊢
                clear eob
                refine (l1In 6 3 5 _).mono ?_
                rintro e w2 ⟨rfl, rfl⟩
                rw [show inI 6 3 5 = false from rfl]
                have o0 := RO.out.cell 0 _ rfl
                have o1 := RO.out.cell 1 _ rfl
                have o2 := RO.out.cell 2 _ rfl
                have BNf := BN1
                have BBf := BB1
                have USf : Hid (L = usedD ops t us) := show _ = _ by rw [US.out]; congr 1
                clear BN1 BB1 RO US
                go_wp2
                exact ⟨⟨t, us, by omega, by go_num, USf, BNf, BBf⟩, by first | (simp [intOf]; done) | (simp [intOf]; omega)⟩
              · obtain ⟨mx, _, ex, lx, _⟩ := val_take (OP.2.1 (show mvX 7 = true from rfl))
                simp only [] at ex
                subst ex
                clear OP kr
                go_wp2_with fail
                clear c0 c1 c2 c3 c4 cu x2
                obtain ⟨ob, eob⟩ : ∃ z, wr.heap.size = z := ⟨_, rfl⟩
                rw [eob] at RO GO ⊢
                generalize wr.alloc (.cells #[.int .i64 7, .int .i64 (mx : Int), .int .i64 oy, .int .i64 ok, .int .i64 ot] 41) = w1 at RO BN1 BB1 LV1 ⊢
                clear eob
                refine (l1In 7 3 5 _).mono ?_
                rintro e w2 ⟨rfl, rfl⟩
                rw [show inI 7 3 5 = false from rfl]
                have o0 := RO.out.cell 0 _ rfl
                have o1 := RO.out.cell 1 _ rfl
                have o2 := RO.out.cell 2 _ rfl
                obtain ⟨vx, hx⟩ : ∃ v, us[mx]? = some v := ⟨_, List.getElem?_eq_getElem (by rw [BN1.out.len]; omega)⟩
                have cx := (BN1.out.at_ mx vx hx).1
                have fx := (BN1.out.at_ mx vx hx).2
                have lx2 : ((mx : Nat) : Int) < (ops.length : Nat) := by omega
                have tX := (Turn.refl gk w2).setCell (p := ⟨gk, mx, none⟩) rfl (.bool true)
                have RX := RO.out.turn tX (by have := GO.out; omega)
                have p0 := RX.cell 0 _ rfl
                have p2 := RX.cell 2 _ rfl
                have BNx := BN1.out.set (i := mx) (by omega) true
                have BBx := BB1.out.trans (tX.below (n := w.heap.size + 1) GK.out LV1.out)
                have BNf := hide BNx
                have BBf := hide BBx
                have USf : Hid (L = usedD ops t (us.set mx true)) := show _ = _ by rw [US.out]; congr 1
                clear tX RX BNx BBx
                clear BN1 BB1 RO US
                go_wp2
                exact ⟨⟨t, (us.set mx true), by omega, by go_num, USf, BNf, BBf⟩, by first | (simp [intOf]; done) | (simp [intOf]; omega)⟩
              · obtain ⟨mx, _, ex, lx, _⟩ := val_take (OP.2.1 (show mvX 8 = true from rfl))
                simp only [] at ex
                subst ex
                clear OP kr
                go_wp2_with fail
                clear c0 c1 c2 c3 c4 cu x2
                obtain ⟨ob, eob⟩ : ∃ z, wr.heap.size = z := ⟨_, rfl⟩
                rw [eob] at RO GO ⊢
                generalize wr.alloc (.cells #[.int .i64 8, .int .i64 (mx : Int), .int .i64 oy, .int .i64 ok, .int .i64 ot] 41) = w1 at RO BN1 BB1 LV1 ⊢
                clear eob
                refine (l1In 8 3 5 _).mono ?_
                rintro e w2 ⟨rfl, rfl⟩
                rw [show inI 8 3 5 = false from rfl]
                have o0 := RO.out.cell 0 _ rfl
                have o1 := RO.out.cell 1 _ rfl
                have o2 := RO.out.cell 2 _ rfl
                obtain ⟨vx, hx⟩ : ∃ v, us[mx]? = some v := ⟨_, List.getElem?_eq_getElem (by rw [BN1.out.len]; omega)⟩
                have cx := (BN1.out.at_ mx vx hx).1
                have fx := (BN1.out.at_ mx vx hx).2
                have lx2 : ((mx : Nat) : Int) < (ops.length : Nat) := by omega
                have tX := (Turn.refl gk w2).setCell (p := ⟨gk, mx, none⟩) rfl (.bool true)
                have RX := RO.out.turn tX (by have := GO.out; omega)
                have p0 := RX.cell 0 _ rfl
                have p2 := RX.cell 2 _ rfl
                have BNx := BN1.out.set (i := mx) (by omega) true
                have BBx := BB1.out.trans (tX.below (n := w.heap.size + 1) GK.out LV1.out)
                have BNf := hide BNx
                have BBf := hide BBx
                have USf : Hid (L = usedD ops t (us.set mx true)) := show _ = _ by rw [US.out]; congr 1
                clear tX RX BNx BBx
                clear BN1 BB1 RO US
                go_wp2
                exact ⟨⟨t, (us.set mx true), by omega, by go_num, USf, BNf, BBf⟩, by first | (simp [intOf]; done) | (simp [intOf]; omega)⟩
          · obtain rfl : m = 0 := by omega
            have UL : Hid (L = us) := US
            obtain rfl := UL.out
            have LN := BN.out.len
            go_wp2
            exact bodyPost_ret (v := .slice (some ⟨gk, 0, none⟩) ops.length ck) (by simp [results, Tryd.results14, go_sem]) rfl ⟨gk, ck, by first | rfl | rw [LN], by first | exact BN.out | (rw [LN]; exact BN.out), by have := GK.out; omega, BWR.out⟩


end Go.Proofs.YtflhehofgplcoaaDoor.Op
