/-
  The instructions at a machine's place: BlkFind, the specification's and the program's.
-/
import Derived.Test.YtlgpnogeoaoidaaBlkB
import Derived.Test.YtlgpnogeoaoidaaMchI
namespace Go.Proofs.Ytlgpnogeoaoidaa.Blk
set_option linter.unusedVariables false
set_option linter.unusedSimpArgs false
open Go.ChangeShapes Go.WideShapes Go.ChangeAt Go.RowKit IntS Flat InsS
open Ins (okB endsB inB putN takeB takeC)
open Mch (M Rec RMach okM mv)
def findL : Nat → List Int → List In4
  | 0, _ => []
  | _ + 1, [] => []
  | n + 1, x :: r => if takeB x = true then (if (inOf x).op = 0 then [] else if endsB (inOf x).op = true then [inOf x] else inOf x :: findL n r) else []
def cutL : List In4 → List In4
  | [] => []
  | i :: r => if i.op = 0 then [] else if endsB i.op = true then [i] else i :: cutL r
theorem cut_take : ∀ (n : Nat) (ws : List Int), cutL (takeL (ws.take n)) = findL n ws
  | 0, ws => by simp [takeL, cutL, findL]
  | n + 1, [] => by simp [takeL, cutL, findL]
  | n + 1, x :: r => by
    rw [List.take_succ_cons, takeL, findL]
    by_cases h : takeB x = true
    · rw [if_pos h, if_pos h, cutL, cut_take n r]
    · rw [if_neg h, if_neg h, cutL]
theorem findL_len : ∀ (n : Nat) (ws : List Int), (findL n ws).length ≤ n
  | 0, ws => by simp [findL]
  | n + 1, [] => by simp [findL]
  | n + 1, x :: r => by
    rw [findL]
    split
    · split
      · simp
      · split
        · simp
        · simp
          exact findL_len n r
    · simp
def findM (m : M) : List In4 := if okM m = true then findL 8 (m.mem.drop m.pc.toNat) else []
theorem findM_len (m : M) : (findM m).length ≤ 8 := by
  unfold findM
  split
  · exact findL_len _ _
  · simp
theorem ok_find {m : M} (h : okM m = true) : m.mem.length = 64 ∧ 0 ≤ m.pc ∧ m.pc < 65536 := by
  unfold okM at h
  simp only [Bool.and_eq_true, decide_eq_true_eq] at h
  have hp := h.1.1.1.1.1.1.1.2
  unfold Wrd.wok at hp
  simp at hp
  exact ⟨h.1.1.1.1.1.1.2, hp⟩
set_option maxRecDepth 8000 in
set_option maxHeartbeats 8000000 in
theorem specFind (m : M) (c : List Value) (w : World) (h : RMach w c m) :
    Calls Try.prog 14 #[.agg c.toArray] w fun e w' => ∃ q cap, e = .returned (.slice q (findM m).length cap) ∧ OwnI w' w.heap.size (.slice q (findM m).length cap) (findM m) ∧ Below w.heap.size w w' := by
  obtain ⟨r, e, i, o, b1, b2, b3, b4, rfl, h1, h2, h3, h4⟩ := h
  have RM : Hid (RMach w (mv m r e i o) m) := ⟨r, e, i, o, b1, b2, b3, b4, rfl, h1, h2, h3, h4⟩
  obtain ⟨a2, cap2, off2, rfl, l2, m2, z2, c2⟩ := h2
  obtain ⟨R, eR⟩ : ∃ R, findM m = R := ⟨_, rfl⟩
  rw [eR]
  have ER := hide eR
  have C2 := hide c2
  unfold maxLen at m2
  clear eR h1 h3 h4 z2 c2
  obtain ⟨regs, pc, mem, save, lets, waits, halt, ins, outs, count⟩ := m
  simp only [mv] at *
  obtain ⟨n, en⟩ : ∃ n, mem.length = n := ⟨_, rfl⟩
  have EN := hide en
  rw [en] at l2 RM ⊢
  clear en
  have V0 := hide (Rec.new w [r, .int .i64 pc, .slice a2 n cap2, .int .i64 save, .bool lets, .bool waits, .int .i64 halt, i, o, .int .i64 count] 26)
  have b0 : Below w.heap.size w (w.alloc (.cells #[r, .int .i64 pc, .slice a2 n cap2, .int .i64 save, .bool lets, .bool waits, .int .i64 halt, i, o, .int .i64 count] 26)) := (Below.refl _ _).alloc (Nat.le_refl _) _
  have O0 := (own_new 52 4 (w.alloc (.cells #[r, .int .i64 pc, .slice a2 n cap2, .int .i64 save, .bool lets, .bool waits, .int .i64 halt, i, o, .int .i64 count] 26))).mono b0.size
  rw [show (w.alloc (.cells #[r, .int .i64 pc, .slice a2 n cap2, .int .i64 save, .bool lets, .bool waits, .int .i64 halt, i, o, .int .i64 count] 26)).heap.size = w.heap.size + 1 by simp] at O0
  have OX := hide O0
  have BW : Hid (Below w.heap.size w ((w.alloc (.cells #[r, .int .i64 pc, .slice a2 n cap2, .int .i64 save, .bool lets, .bool waits, .int .i64 halt, i, o, .int .i64 count] 26)).alloc (.cells #[] 52))) := b0.alloc b0.size _
  replace V0 := hide (V0.out.alloc (.cells #[] 52))
  clear b0 O0
  go_enter Try.func14, Try.ntmps14
  go_wp2_with fail
  refine (Mch.mchOk _ _ _ (RM.out.below BW.out)).mono ?_
  rintro e u1 ⟨rfl, hb⟩
  generalize (w.alloc (.cells #[r, .int .i64 pc, .slice a2 n cap2, .int .i64 save, .bool lets, .bool waits, .int .i64 halt, i, o, .int .i64 count] 26)).alloc (.cells #[] 52) = U0 at V0 OX BW hb
  replace V0 := hide (V0.out.below hb)
  replace OX := hide (OX.out.below hb)
  replace BW := hide (BW.out.trans (hb.mono BW.out.size))
  clear hb RM
  by_cases ok : okM ⟨regs, pc, mem, save, lets, waits, halt, ins, outs, count⟩ = true
  case neg =>
    have HD : Hid (R = []) := show _ = _ by rw [← ER.out, findM, if_neg ok]
    rw [Bool.not_eq_true] at ok
    rw [ok]
    have OY : Hid (OwnI u1 w.heap.size (.slice (some ⟨w.heap.size + 1, 0, none⟩) R.length 0) R) := by rw [HD.out]; exact OX.out
    have HL : Hid (R.length = 0) := show _ = _ by rw [HD.out]; rfl
    clear ok V0 OX
    go_wp2
    go_ret
    exact ⟨_, _, (by rw [HL.out]; rfl), OY.out, BW.out⟩
  have OKF := ok_find ok
  have hn : n = 64 := EN.out.symm.trans OKF.1
  obtain ⟨p, ep⟩ : ∃ p : Nat, pc = p := ⟨pc.toNat, by have := OKF.2.1; simp at this ⊢; omega⟩
  have hp : p < 65536 := by have := OKF.2.2; simp at this; omega
  subst hn ep
  have WL0 : Hid (R = [] ++ findL (8 - 0) (mem.drop (p + 0))) := show _ = _ by rw [← ER.out, findM, if_pos ok]; simp
  have HP := hide hp
  have pp : (p : Int) ≤ 100000 := by omega
  rw [ok]
  clear OKF ok hp
  go_wp2
  go_loopw [3, 4] (fun s j wr => ∃ (k c : Nat) (q : Option Addr) (L : List In4), k ≤ 8 ∧ j = .int .i64 k ∧ s = .slice q k c ∧ Hid (L.length = k) ∧ Hid (OwnI wr w.heap.size (.slice q L.length c) L) ∧ Hid (R = L ++ findL (8 - k) (mem.drop (p + k))) ∧ Hid (q ≠ some ⟨w.heap.size, 0, none⟩) ∧ Hid (Rec w.heap.size [r, .int .i64 p, .slice a2 64 cap2, .int .i64 save, .bool lets, .bool waits, .int .i64 halt, i, o, .int .i64 count] wr) ∧ Hid (Below w.heap.size w wr)) (fun _ j _ => 8 - (intOf j).toNat)
  case atStart => exact ⟨0, 0, _, [], by omega, rfl, rfl, rfl, OX, WL0, (fun e => by injection e with e1; injection e1 with e2; omega), V0, BW⟩
  case round =>
    obtain ⟨k, c, q, L, hk, rfl, rfl, LL, OX, WL, NB, V0, BW⟩ := hrel
    have m1 := V0.out.cell 1 _ rfl
    have m2 := V0.out.cell 2 _ rfl
    have FIN (hr : findL (8 - k) (mem.drop (p + k)) = []) : R = L := by rw [WL.out, hr]; simp
    have FI := hide FIN
    clear FIN
    have END (hr : R = L) : OwnI wr w.heap.size (.slice q R.length c) R := by rw [hr]; exact OX.out
    have EN2 := hide END
    clear END
    by_cases h8 : k < 8
    case neg =>
      have HD : Hid (R = L) := FI.out (by rw [show 8 - k = 0 by omega]; rfl)
      have OY := hide (EN2.out HD.out)
      have HK : Hid (k = R.length) := show _ = _ by rw [HD.out, LL.out]
      clear OX FI EN2
      go_wp2
      go_ret
      exact ⟨q, c, (by rw [HK.out]; rfl), OY.out, BW.out⟩
    by_cases h64 : p + k < 64
    case neg =>
      have HD : Hid (R = L) := FI.out (by rw [drop_end (by have := EN.out; omega)]; rw [show 8 - k = (7 - k) + 1 by omega]; rfl)
      have OY := hide (EN2.out HD.out)
      have HK : Hid (k = R.length) := show _ = _ by rw [HD.out, LL.out]
      have g1 : ¬ (p : Int) + (k : Int) < 64 := by omega
      clear OX FI EN2
      go_wp2
      go_ret
      exact ⟨q, c, (by rw [HK.out]; rfl), OY.out, BW.out⟩
    obtain ⟨x, et⟩ : ∃ x, mem[p + k]? = some x := ⟨_, List.getElem?_eq_getElem (by have := EN.out; omega)⟩
    obtain ⟨ea, hc⟩ := C2.out.resolve_left (fun e => by have := EN.out; rw [e] at this; simp at this)
    have d0 := cell_below BW.out (hc (p + k) x et)
    have DR := hide (drop_at et)
    have g1 : (p : Int) + (k : Int) < 64 := by omega
    have g2 : (0 : Int) ≤ (p : Int) + (k : Int) := by omega
    have g3 : ((p : Int) + (k : Int)).toNat = p + k := by omega
    subst ea
    clear et hc
    go_wp2_with fail
    refine (Ins.insTake x _).mono ?_
    rintro e u2 ⟨rfl, hb⟩
    replace V0 := hide (V0.out.below hb)
    replace BW := hide (BW.out.trans (hb.mono BW.out.size))
    replace OX := hide (OX.out.below hb)
    clear hb d0 m1 m2 EN2
    have NX8 : Hid (8 - k = (7 - k) + 1) := show _ = _ by omega
    cases tb : takeB x with
    | false =>
      have HD : Hid (R = L) := FI.out (by rw [NX8.out, DR.out, findL, if_neg (by rw [tb]; decide)])
      rw [takeC_no tb]
      have HB2 : Hid (Below w.heap.size w (u2.alloc (.cells #[.int .i64 0, .int .i64 0, .int .i64 0, .int .i64 0] 52))) := BW.out.alloc BW.out.size _
      have OX2 : Hid (OwnI (u2.alloc (.cells #[.int .i64 0, .int .i64 0, .int .i64 0, .int .i64 0] 52)) w.heap.size (.slice q R.length c) R) := by rw [HD.out]; exact OX.out.below ((Below.refl _ _).alloc (Nat.le_refl _) _)
      have HK : Hid (k = R.length) := show _ = _ by rw [HD.out, LL.out]
      clear OX BW WL FI V0 DR
      go_wp2
      go_ret
      exact ⟨q, c, (by rw [HK.out]; rfl), OX2.out, HB2.out⟩
    | true =>
      have FX : Hid (findL (8 - k) (mem.drop (p + k)) = if (inOf x).op = 0 then [] else if endsB (inOf x).op = true then [inOf x] else inOf x :: findL (7 - k) (mem.drop (p + k + 1))) := show _ = _ by rw [NX8.out, DR.out, findL, if_pos tb]
      rw [takeC_yes tb]
      obtain ⟨j, ej⟩ : ∃ j, inOf x = j := ⟨_, rfl⟩
      rw [ej] at FX ⊢
      clear ej tb DR
      have b1 : Below u2.heap.size u2 (u2.alloc (.cells #[.int .i64 j.op, .int .i64 j.d, .int .i64 j.a, .int .i64 j.k] 52)) := (Below.refl _ _).alloc (Nat.le_refl _) _
      by_cases j0 : j.op = 0
      · have HD : Hid (R = L) := FI.out (by rw [FX.out, if_pos j0])
        have HB2 : Hid (Below w.heap.size w (u2.alloc (.cells #[.int .i64 j.op, .int .i64 j.d, .int .i64 j.a, .int .i64 j.k] 52))) := BW.out.alloc BW.out.size _
        have OX2 : Hid (OwnI (u2.alloc (.cells #[.int .i64 j.op, .int .i64 j.d, .int .i64 j.a, .int .i64 j.k] 52)) w.heap.size (.slice q R.length c) R) := by rw [HD.out]; exact OX.out.below b1
        have HK : Hid (k = R.length) := show _ = _ by rw [HD.out, LL.out]
        have n0 : (j.op == 0) = true := by simp [j0]
        clear OX BW WL FI FX V0 b1 j0
        go_wp2
        go_ret
        exact ⟨q, c, (by rw [HK.out]; rfl), OX2.out, HB2.out⟩
      have n0 : (j.op == 0) = false := by simpa using j0
      have b2 : Below u2.heap.size u2 ((u2.alloc (.cells #[.int .i64 j.op, .int .i64 j.d, .int .i64 j.a, .int .i64 j.k] 52)).alloc (.cells #[.int .i64 j.op, .int .i64 j.d, .int .i64 j.a, .int .i64 j.k] 52)) := b1.alloc b1.size _
      have OX2 := OX.out.below b2
      have HB2 := BW.out.trans (b2.mono BW.out.size)
      have V2 := V0.out.below b2
      have J2 := (Rec.new u2 [.int .i64 j.op, .int .i64 j.d, .int .i64 j.a, .int .i64 j.k] 52).alloc (.cells #[.int .i64 j.op, .int .i64 j.d, .int .i64 j.a, .int .i64 j.k] 52)
      obtain ⟨g', cap', u3, hrun, ho, hg, hgl, gr⟩ := run_pushI (ty := 38) (w := ((u2.alloc (.cells #[.int .i64 j.op, .int .i64 j.d, .int .i64 j.a, .int .i64 j.k] 52)).alloc (.cells #[.int .i64 j.op, .int .i64 j.d, .int .i64 j.a, .int .i64 j.k] 52))) OX2 (by have := LL.out; omega) HB2.size ⟨u2.heap.size + 1, 0, none⟩ j (by rw [Addr.add_lit]; simp) (by rw [Addr.add_lit]; simp) (by rw [Addr.add_lit]; simp) (by rw [Addr.add_lit]; simp)
      obtain ⟨T, hT, hT2⟩ := grown_turn gr (OX2.q_form.imp (fun e => e.1) id)
      have NT : T ≠ w.heap.size ∧ T ≠ u2.heap.size := by
        have s2 : u2.heap.size < ((u2.alloc (.cells #[.int .i64 j.op, .int .i64 j.d, .int .i64 j.a, .int .i64 j.k] 52)).alloc (.cells #[.int .i64 j.op, .int .i64 j.d, .int .i64 j.a, .int .i64 j.k] 52)).heap.size := J2.lt
        rcases hT2 with hT2 | rfl
        · have h1 := OX.out.q_lt hT2
          exact ⟨fun e => NB.out (by rw [hT2, e]), by omega⟩
        · have := V0.out.lt
          omega
      have V3 := hide (V2.turn hT (Ne.symm NT.1))
      have J3 := hide (J2.turn hT (Ne.symm NT.2))
      have HB3 := hide (OwnF.below_push OX2 HB2 gr HB2.size)
      have OY := hide ho
      rw [LL.out] at hrun OY
      have NG : Hid (g' ≠ w.heap.size) := fun e => by
        rcases hg with hg | hg
        · rcases OX2.q_form with ⟨rfl, _⟩ | ⟨G, rfl⟩
          · simp [Value.ownBlock] at hg
          · simp [Value.ownBlock] at hg
            exact NB.out (by rw [hg, e])
        · have := V2.lt
          omega
      clear b1 b2 OX2 HB2 BW OX ho hg hgl gr V0 V2 J2 hT hT2 NT
      have LN : Hid ((L ++ [j]).length = k + 1) := show _ = _ by rw [List.length_append, LL.out]; rfl
      have jc := J3.out.cell 0 _ rfl
      go_wp2_with (at_builtin; refine push_list rfl _ _ rfl rfl rfl hrun ?_; refine Hid.out ?_)
      clear hrun
      refine hide ?_
      go_wp2_with fail
      refine (Ins.insEnds j.op _).mono ?_
      rintro e u4 ⟨rfl, hw⟩
      rw [hw]
      clear hw u4 jc
      cases he : endsB j.op with
      | true =>
        have HD : Hid (R = L ++ [j]) := show _ = _ by rw [WL.out, FX.out, if_neg j0, if_pos he]
        have HK : Hid (k + 1 = R.length) := show _ = _ by rw [HD.out, LN.out]
        have OZ : Hid (OwnI u3 w.heap.size (.slice (some ⟨g', 0, none⟩) R.length cap') R) := by rw [← HK.out, HD.out]; exact OY
        clear OY WL FX FI
        go_wp2
        go_ret
        exact ⟨_, _, (by rw [← HK.out]; rfl), OZ.out, HB3.out⟩
      | false =>
        have WN : Hid (R = (L ++ [j]) ++ findL (8 - (k + 1)) (mem.drop (p + (k + 1)))) := show _ = _ by
          rw [WL.out, FX.out, if_neg j0, if_neg (by rw [he]; decide), show 8 - (k + 1) = 7 - k by omega, Nat.add_assoc]
          simp
        clear FX FI WL
        go_wp2
        exact ⟨⟨k + 1, cap', some ⟨g', 0, none⟩, L ++ [j], by omega, by go_num, rfl, LN, by rw [LN.out]; exact OY, WN, (fun e => NG.out (by injection e with e1; injection e1)), V3, HB3⟩, by simp [intOf]; omega⟩
set_option maxRecDepth 8000 in
set_option maxHeartbeats 8000000 in
theorem implPiece (m : M) (c : List Value) (w : World) (h : RMach w c m) (okm : okM m = true) :
    Calls Try.prog 36 #[.agg c.toArray] w fun e w' => ∃ q cap, e = .returned (.slice q (findM m).length cap) ∧ OwnI w' w.heap.size (.slice q (findM m).length cap) (findM m) ∧ Below w.heap.size w w' := by
  obtain ⟨r, e, i, o, b1, b2, b3, b4, rfl, h1, h2, h3, h4⟩ := h
  have RM : Hid (RMach w (mv m r e i o) m) := ⟨r, e, i, o, b1, b2, b3, b4, rfl, h1, h2, h3, h4⟩
  obtain ⟨a2, cap2, off2, rfl, l2, m2, z2, c2⟩ := h2
  obtain ⟨R, eR⟩ : ∃ R, findM m = R := ⟨_, rfl⟩
  rw [eR]
  have ER := hide eR
  have C2 := hide c2
  have ML : Hid (cap2 ≤ maxLen) := m2
  unfold maxLen at m2
  clear eR h1 h3 h4 z2 c2
  obtain ⟨regs, pc, mem, save, lets, waits, halt, ins, outs, count⟩ := m
  simp only [mv] at *
  obtain ⟨n, en⟩ : ∃ n, mem.length = n := ⟨_, rfl⟩
  have EN := hide en
  rw [en] at l2 RM ⊢
  clear en
  have V0 := hide (Rec.new w [r, .int .i64 pc, .slice a2 n cap2, .int .i64 save, .bool lets, .bool waits, .int .i64 halt, i, o, .int .i64 count] 26)
  have BW : Hid (Below w.heap.size w (w.alloc (.cells #[r, .int .i64 pc, .slice a2 n cap2, .int .i64 save, .bool lets, .bool waits, .int .i64 halt, i, o, .int .i64 count] 26))) := (Below.refl _ _).alloc (Nat.le_refl _) _
  go_enter Try.func36, Try.ntmps36
  have ok := okm
  clear okm RM
  have OKF := ok_find ok
  have hn : n = 64 := EN.out.symm.trans OKF.1
  obtain ⟨p, ep⟩ : ∃ p : Nat, pc = p := ⟨pc.toNat, by have := OKF.2.1; simp at this ⊢; omega⟩
  have hp : p < 65536 := by have := OKF.2.2; simp at this; omega
  subst hn ep
  obtain ⟨ea, hc⟩ := C2.out.resolve_left (fun e => by have := EN.out; rw [e] at this; simp at this)
  subst ea
  obtain ⟨ws, ew⟩ : ∃ ws, (mem.drop p).take 8 = ws := ⟨_, rfl⟩
  have RF : Hid (R = cutL (takeL ws)) := show _ = _ by rw [← ER.out, findM, if_pos ok, ← ew, cut_take]; simp
  have HC := hide hc
  have EW := hide ew
  clear OKF ok C2 hc ew ER
  obtain ⟨u1, eu1⟩ : ∃ u1, w.alloc (.cells #[r, .int .i64 (p : Int), .slice (some ⟨b2, off2, none⟩) 64 cap2, .int .i64 save, .bool lets, .bool waits, .int .i64 halt, i, o, .int .i64 count] 26) = u1 := ⟨_, rfl⟩
  have EU := hide eu1
  rw [eu1] at V0 BW
  clear eu1
  have LW : Hid (ws.length ≤ 8) := show _ ≤ _ by rw [← EW.out, List.length_take]; omega
  by_cases p1 : p + 8 ≤ 64
  · have q1 : (p : Int) < 64 := by omega
    have q2 : (p : Int) + 8 ≤ 64 := by omega
    have WN : Hid (ws.length = 8) := show _ = _ by rw [← EW.out, List.length_take, List.length_drop, EN.out]; omega
    go_wp2_with fail
    (first | rw [EU.out] | (have EU2 := EU.out; rw [show ((64 : Nat) : Int) = 64 from rfl] at EU2; rw [EU2]))
    have RW : Hid (Row u1 b2 (.slice (some ⟨b2, off2 + p, none⟩) 8 (cap2 - p)) ws) := ⟨some ⟨b2, off2 + p, none⟩, cap2 - p, off2 + p, by rw [WN.out], by rw [WN.out]; omega, by have := ML.out; omega, (fun h => by cases h), Or.inr ⟨rfl, fun k x hx => by
      have hk : k < 8 := by rw [← WN.out]; exact (List.getElem?_eq_some_iff.1 hx).1
      rw [← EW.out, List.getElem?_take, if_pos (by omega), List.getElem?_drop] at hx
      rw [Nat.add_assoc]
      exact cell_below BW.out (HC.out (p + k) x hx)⟩⟩
    refine (implTake ws b2 _ _ RW.out (by have := LW.out; omega)).mono ?_
    rintro e u2 ⟨qt, ct, rfl, OT, hb⟩
    skip
    have BW2 := hide (BW.out.trans (hb.mono BW.out.size))
    obtain ⟨T, eT⟩ : ∃ T, takeL ws = T := ⟨_, rfl⟩
    have TN : Hid (T.length ≤ 8) := show _ ≤ _ by rw [← eT]; exact Nat.le_trans (takeL_len ws) LW.out
    rw [eT] at OT RF ⊢
    obtain ⟨BT, FT⟩ := OT.frow
    obtain ⟨a9, cap9, off9, e9, l9, k9, -, -, c9⟩ := FT
    obtain ⟨rfl, -, rfl⟩ : qt = a9 ∧ True ∧ ct = cap9 := by cases e9; exact ⟨rfl, trivial, rfl⟩
    unfold maxLen at k9
    have C9 := hide c9
    have US : Hid (w.heap.size ≤ u2.heap.size) := BW2.out.size
    obtain ⟨N, eN⟩ : ∃ N, T.length = N := ⟨_, rfl⟩
    have ENN := hide eN
    have n8 : N ≤ 8 := by rw [← eN]; exact TN.out
    rw [eN] at l9 C9 ⊢
    clear eT e9 OT c9 hb eN V0 HC EW
    have WL0 : Hid (R = [] ++ cutL (T.drop 0)) := show _ = _ by rw [RF.out]; rfl
    have O0 := hide (OwnF.nil 52 4 u2 u2.heap.size)
    go_wp2
    go_loopw [4, 19] (fun s x wr => ∃ (k c : Nat) (q : Option Addr) (L : List In4), k ≤ N ∧ x = .int .i64 k ∧ s = .slice q k c ∧ Hid (L.length = k) ∧ Hid (OwnI wr u2.heap.size (.slice q L.length c) L) ∧ Hid (R = L ++ cutL (T.drop k)) ∧ Hid (Below u2.heap.size u2 wr)) (fun _ x _ => N - (intOf x).toNat)
    case atStart => exact ⟨0, 0, _, [], by omega, rfl, rfl, rfl, O0, WL0, Below.refl _ _⟩
    case round =>
      obtain ⟨k, c, q, L, hk, rfl, rfl, LL, OX, WL, HB⟩ := hrel
      have FIN (hr : cutL (T.drop k) = []) : R = L := by rw [WL.out, hr]; simp
      have FI := hide FIN
      clear FIN O0 WL0
      by_cases hlt : k < N
      case neg =>
        have HD : Hid (R = L) := FI.out (by rw [drop_end (by have := ENN.out; omega)]; rfl)
        have OY : Hid (OwnI wr w.heap.size (.slice q R.length c) R) := by rw [HD.out]; exact OX.out.mono US.out
        have HK : Hid (k = R.length) := show _ = _ by rw [HD.out, LL.out]
        have HB9 := hide (BW2.out.trans (HB.out.mono US.out))
        clear OX FI
        go_wp2
        go_ret
        exact ⟨q, c, (by rw [HK.out]; rfl), OY.out, HB9.out⟩
      obtain ⟨j, et⟩ : ∃ j, T[k]? = some j := ⟨_, List.getElem?_eq_getElem (by rw [ENN.out]; exact hlt)⟩
      obtain ⟨rfl, hc⟩ := C9.out.resolve_left (by omega)
      obtain ⟨q0, q1', q2', q3⟩ := at4 hc et
      have d0 := cell_below HB.out q0
      have d1 := cell_below HB.out q1'
      have d2 := cell_below HB.out q2'
      have d3 := cell_below HB.out q3
      have DR := hide (drop_at et)
      have lk : ((k : Nat) : Int) < (N : Nat) := by omega
      clear et hc q0 q1' q2' q3
      have b1 : Below wr.heap.size wr (wr.alloc (.cells #[.int .i64 j.op, .int .i64 j.d, .int .i64 j.a, .int .i64 j.k] 52)) := (Below.refl _ _).alloc (Nat.le_refl _) _
      by_cases j0 : j.op = 0
      · have HD : Hid (R = L) := FI.out (by rw [DR.out, cutL, if_pos j0])
        have HB2 : Hid (Below w.heap.size w (wr.alloc (.cells #[.int .i64 j.op, .int .i64 j.d, .int .i64 j.a, .int .i64 j.k] 52))) := (BW2.out.trans (HB.out.mono US.out)).alloc (Nat.le_trans US.out HB.out.size) _
        have OX2 : Hid (OwnI (wr.alloc (.cells #[.int .i64 j.op, .int .i64 j.d, .int .i64 j.a, .int .i64 j.k] 52)) w.heap.size (.slice q R.length c) R) := by rw [HD.out]; exact (OX.out.below b1).mono US.out
        have HK : Hid (k = R.length) := show _ = _ by rw [HD.out, LL.out]
        have n0 : (j.op == 0) = true := by simp [j0]
        clear OX WL FI b1 j0
        go_wp2
        go_ret
        exact ⟨q, c, (by rw [HK.out]; rfl), OX2.out, HB2.out⟩
      have n0 : (j.op == 0) = false := by simpa using j0
      have b2' : Below wr.heap.size wr ((wr.alloc (.cells #[.int .i64 j.op, .int .i64 j.d, .int .i64 j.a, .int .i64 j.k] 52)).alloc (.cells #[.int .i64 j.op, .int .i64 j.d, .int .i64 j.a, .int .i64 j.k] 52)) := b1.alloc b1.size _
      have OX2 := OX.out.below b2'
      have HB2 := HB.out.trans (b2'.mono HB.out.size)
      have J2 := (Rec.new wr [.int .i64 j.op, .int .i64 j.d, .int .i64 j.a, .int .i64 j.k] 52).alloc (.cells #[.int .i64 j.op, .int .i64 j.d, .int .i64 j.a, .int .i64 j.k] 52)
      obtain ⟨g', cap', u3, hrun, ho, hg, hgl, gr⟩ := run_pushI (ty := 38) (w := ((wr.alloc (.cells #[.int .i64 j.op, .int .i64 j.d, .int .i64 j.a, .int .i64 j.k] 52)).alloc (.cells #[.int .i64 j.op, .int .i64 j.d, .int .i64 j.a, .int .i64 j.k] 52))) OX2 (by have := LL.out; omega) HB2.size ⟨wr.heap.size + 1, 0, none⟩ j (by rw [Addr.add_lit]; simp) (by rw [Addr.add_lit]; simp) (by rw [Addr.add_lit]; simp) (by rw [Addr.add_lit]; simp)
      obtain ⟨TT, hT, hT2⟩ := grown_turn gr (OX2.q_form.imp (fun e => e.1) id)
      have NT : TT ≠ wr.heap.size := by
        have s2 : wr.heap.size < ((wr.alloc (.cells #[.int .i64 j.op, .int .i64 j.d, .int .i64 j.a, .int .i64 j.k] 52)).alloc (.cells #[.int .i64 j.op, .int .i64 j.d, .int .i64 j.a, .int .i64 j.k] 52)).heap.size := J2.lt
        rcases hT2 with hT2 | rfl
        · have h1 := OX.out.q_lt hT2
          omega
        · omega
      have J3 := hide (J2.turn hT (Ne.symm NT))
      have HB3 := hide (OwnF.below_push OX2 HB2 gr HB2.size)
      have OY := hide ho
      rw [LL.out] at hrun OY
      clear b1 b2' OX2 HB2 HB OX ho hg hgl gr J2 hT hT2 NT
      have LN : Hid ((L ++ [j]).length = k + 1) := show _ = _ by rw [List.length_append, LL.out]; rfl
      have jc := J3.out.cell 0 _ rfl
      go_wp2_with (at_builtin; refine push_list rfl _ _ rfl rfl rfl hrun ?_; refine Hid.out ?_)
      clear hrun d0 d1 d2 d3
      refine hide ?_
      go_wp2_with fail
      refine (InsI.insEnds j.op _).mono ?_
      rintro e u4 ⟨rfl, hw⟩
      rw [hw]
      clear hw u4 jc
      cases he : endsB j.op with
      | true =>
        have HD : Hid (R = L ++ [j]) := show _ = _ by rw [WL.out, DR.out, cutL, if_neg j0, if_pos he]
        have HK : Hid (k + 1 = R.length) := show _ = _ by rw [HD.out, LN.out]
        have OZ : Hid (OwnI u3 w.heap.size (.slice (some ⟨g', 0, none⟩) R.length cap') R) := by rw [← HK.out, HD.out]; exact OwnF.mono OY.out US.out
        have HB9 := hide (BW2.out.trans (HB3.out.mono US.out))
        clear OY WL DR FI
        go_wp2
        go_ret
        exact ⟨_, _, (by rw [← HK.out]; rfl), OZ.out, HB9.out⟩
      | false =>
        have WN : Hid (R = (L ++ [j]) ++ cutL (T.drop (k + 1))) := show _ = _ by
          rw [WL.out, DR.out, cutL, if_neg j0, if_neg (by rw [he]; decide)]
          simp
        clear DR FI WL
        go_wp2
        exact ⟨⟨k + 1, cap', some ⟨g', 0, none⟩, L ++ [j], by omega, by go_num, rfl, LN, by rw [LN.out]; exact OY, WN, HB3⟩, by simp [intOf]; omega⟩
  by_cases p2 : p < 64
  · have q1 : (p : Int) < 64 := by omega
    have q2 : 64 < (p : Int) + 8 := by omega
    have WN : Hid (ws.length = 64 - p) := show _ = _ by rw [← EW.out, List.length_take, List.length_drop, EN.out]; omega
    go_wp2_with fail
    (first | rw [EU.out] | (have EU2 := EU.out; rw [show ((64 : Nat) : Int) = 64 from rfl] at EU2; rw [EU2]))
    have RW : Hid (Row u1 b2 (.slice (some ⟨b2, off2 + p, none⟩) (64 - p) (cap2 - p)) ws) := ⟨some ⟨b2, off2 + p, none⟩, cap2 - p, off2 + p, by rw [WN.out], by rw [WN.out]; omega, by have := ML.out; omega, (fun h => by cases h), Or.inr ⟨rfl, fun k x hx => by
      have hk : k < (64 - p) := by rw [← WN.out]; exact (List.getElem?_eq_some_iff.1 hx).1
      rw [← EW.out, List.getElem?_take, if_pos (by omega), List.getElem?_drop] at hx
      rw [Nat.add_assoc]
      exact cell_below BW.out (HC.out (p + k) x hx)⟩⟩
    refine (implTake ws b2 _ _ RW.out (by have := LW.out; omega)).mono ?_
    rintro e u2 ⟨qt, ct, rfl, OT, hb⟩
    skip
    have BW2 := hide (BW.out.trans (hb.mono BW.out.size))
    obtain ⟨T, eT⟩ : ∃ T, takeL ws = T := ⟨_, rfl⟩
    have TN : Hid (T.length ≤ 8) := show _ ≤ _ by rw [← eT]; exact Nat.le_trans (takeL_len ws) LW.out
    rw [eT] at OT RF ⊢
    obtain ⟨BT, FT⟩ := OT.frow
    obtain ⟨a9, cap9, off9, e9, l9, k9, -, -, c9⟩ := FT
    obtain ⟨rfl, -, rfl⟩ : qt = a9 ∧ True ∧ ct = cap9 := by cases e9; exact ⟨rfl, trivial, rfl⟩
    unfold maxLen at k9
    have C9 := hide c9
    have US : Hid (w.heap.size ≤ u2.heap.size) := BW2.out.size
    obtain ⟨N, eN⟩ : ∃ N, T.length = N := ⟨_, rfl⟩
    have ENN := hide eN
    have n8 : N ≤ 8 := by rw [← eN]; exact TN.out
    rw [eN] at l9 C9 ⊢
    clear eT e9 OT c9 hb eN V0 HC EW
    have WL0 : Hid (R = [] ++ cutL (T.drop 0)) := show _ = _ by rw [RF.out]; rfl
    have O0 := hide (OwnF.nil 52 4 u2 u2.heap.size)
    go_wp2
    go_loopw [4, 19] (fun s x wr => ∃ (k c : Nat) (q : Option Addr) (L : List In4), k ≤ N ∧ x = .int .i64 k ∧ s = .slice q k c ∧ Hid (L.length = k) ∧ Hid (OwnI wr u2.heap.size (.slice q L.length c) L) ∧ Hid (R = L ++ cutL (T.drop k)) ∧ Hid (Below u2.heap.size u2 wr)) (fun _ x _ => N - (intOf x).toNat)
    case atStart => exact ⟨0, 0, _, [], by omega, rfl, rfl, rfl, O0, WL0, Below.refl _ _⟩
    case round =>
      obtain ⟨k, c, q, L, hk, rfl, rfl, LL, OX, WL, HB⟩ := hrel
      have FIN (hr : cutL (T.drop k) = []) : R = L := by rw [WL.out, hr]; simp
      have FI := hide FIN
      clear FIN O0 WL0
      by_cases hlt : k < N
      case neg =>
        have HD : Hid (R = L) := FI.out (by rw [drop_end (by have := ENN.out; omega)]; rfl)
        have OY : Hid (OwnI wr w.heap.size (.slice q R.length c) R) := by rw [HD.out]; exact OX.out.mono US.out
        have HK : Hid (k = R.length) := show _ = _ by rw [HD.out, LL.out]
        have HB9 := hide (BW2.out.trans (HB.out.mono US.out))
        clear OX FI
        go_wp2
        go_ret
        exact ⟨q, c, (by rw [HK.out]; rfl), OY.out, HB9.out⟩
      obtain ⟨j, et⟩ : ∃ j, T[k]? = some j := ⟨_, List.getElem?_eq_getElem (by rw [ENN.out]; exact hlt)⟩
      obtain ⟨rfl, hc⟩ := C9.out.resolve_left (by omega)
      obtain ⟨q0, q1', q2', q3⟩ := at4 hc et
      have d0 := cell_below HB.out q0
      have d1 := cell_below HB.out q1'
      have d2 := cell_below HB.out q2'
      have d3 := cell_below HB.out q3
      have DR := hide (drop_at et)
      have lk : ((k : Nat) : Int) < (N : Nat) := by omega
      clear et hc q0 q1' q2' q3
      have b1 : Below wr.heap.size wr (wr.alloc (.cells #[.int .i64 j.op, .int .i64 j.d, .int .i64 j.a, .int .i64 j.k] 52)) := (Below.refl _ _).alloc (Nat.le_refl _) _
      by_cases j0 : j.op = 0
      · have HD : Hid (R = L) := FI.out (by rw [DR.out, cutL, if_pos j0])
        have HB2 : Hid (Below w.heap.size w (wr.alloc (.cells #[.int .i64 j.op, .int .i64 j.d, .int .i64 j.a, .int .i64 j.k] 52))) := (BW2.out.trans (HB.out.mono US.out)).alloc (Nat.le_trans US.out HB.out.size) _
        have OX2 : Hid (OwnI (wr.alloc (.cells #[.int .i64 j.op, .int .i64 j.d, .int .i64 j.a, .int .i64 j.k] 52)) w.heap.size (.slice q R.length c) R) := by rw [HD.out]; exact (OX.out.below b1).mono US.out
        have HK : Hid (k = R.length) := show _ = _ by rw [HD.out, LL.out]
        have n0 : (j.op == 0) = true := by simp [j0]
        clear OX WL FI b1 j0
        go_wp2
        go_ret
        exact ⟨q, c, (by rw [HK.out]; rfl), OX2.out, HB2.out⟩
      have n0 : (j.op == 0) = false := by simpa using j0
      have b2' : Below wr.heap.size wr ((wr.alloc (.cells #[.int .i64 j.op, .int .i64 j.d, .int .i64 j.a, .int .i64 j.k] 52)).alloc (.cells #[.int .i64 j.op, .int .i64 j.d, .int .i64 j.a, .int .i64 j.k] 52)) := b1.alloc b1.size _
      have OX2 := OX.out.below b2'
      have HB2 := HB.out.trans (b2'.mono HB.out.size)
      have J2 := (Rec.new wr [.int .i64 j.op, .int .i64 j.d, .int .i64 j.a, .int .i64 j.k] 52).alloc (.cells #[.int .i64 j.op, .int .i64 j.d, .int .i64 j.a, .int .i64 j.k] 52)
      obtain ⟨g', cap', u3, hrun, ho, hg, hgl, gr⟩ := run_pushI (ty := 38) (w := ((wr.alloc (.cells #[.int .i64 j.op, .int .i64 j.d, .int .i64 j.a, .int .i64 j.k] 52)).alloc (.cells #[.int .i64 j.op, .int .i64 j.d, .int .i64 j.a, .int .i64 j.k] 52))) OX2 (by have := LL.out; omega) HB2.size ⟨wr.heap.size + 1, 0, none⟩ j (by rw [Addr.add_lit]; simp) (by rw [Addr.add_lit]; simp) (by rw [Addr.add_lit]; simp) (by rw [Addr.add_lit]; simp)
      obtain ⟨TT, hT, hT2⟩ := grown_turn gr (OX2.q_form.imp (fun e => e.1) id)
      have NT : TT ≠ wr.heap.size := by
        have s2 : wr.heap.size < ((wr.alloc (.cells #[.int .i64 j.op, .int .i64 j.d, .int .i64 j.a, .int .i64 j.k] 52)).alloc (.cells #[.int .i64 j.op, .int .i64 j.d, .int .i64 j.a, .int .i64 j.k] 52)).heap.size := J2.lt
        rcases hT2 with hT2 | rfl
        · have h1 := OX.out.q_lt hT2
          omega
        · omega
      have J3 := hide (J2.turn hT (Ne.symm NT))
      have HB3 := hide (OwnF.below_push OX2 HB2 gr HB2.size)
      have OY := hide ho
      rw [LL.out] at hrun OY
      clear b1 b2' OX2 HB2 HB OX ho hg hgl gr J2 hT hT2 NT
      have LN : Hid ((L ++ [j]).length = k + 1) := show _ = _ by rw [List.length_append, LL.out]; rfl
      have jc := J3.out.cell 0 _ rfl
      go_wp2_with (at_builtin; refine push_list rfl _ _ rfl rfl rfl hrun ?_; refine Hid.out ?_)
      clear hrun d0 d1 d2 d3
      refine hide ?_
      go_wp2_with fail
      refine (InsI.insEnds j.op _).mono ?_
      rintro e u4 ⟨rfl, hw⟩
      rw [hw]
      clear hw u4 jc
      cases he : endsB j.op with
      | true =>
        have HD : Hid (R = L ++ [j]) := show _ = _ by rw [WL.out, DR.out, cutL, if_neg j0, if_pos he]
        have HK : Hid (k + 1 = R.length) := show _ = _ by rw [HD.out, LN.out]
        have OZ : Hid (OwnI u3 w.heap.size (.slice (some ⟨g', 0, none⟩) R.length cap') R) := by rw [← HK.out, HD.out]; exact OwnF.mono OY.out US.out
        have HB9 := hide (BW2.out.trans (HB3.out.mono US.out))
        clear OY WL DR FI
        go_wp2
        go_ret
        exact ⟨_, _, (by rw [← HK.out]; rfl), OZ.out, HB9.out⟩
      | false =>
        have WN : Hid (R = (L ++ [j]) ++ cutL (T.drop (k + 1))) := show _ = _ by
          rw [WL.out, DR.out, cutL, if_neg j0, if_neg (by rw [he]; decide)]
          simp
        clear DR FI WL
        go_wp2
        exact ⟨⟨k + 1, cap', some ⟨g', 0, none⟩, L ++ [j], by omega, by go_num, rfl, LN, by rw [LN.out]; exact OY, WN, HB3⟩, by simp [intOf]; omega⟩
  have WN : Hid (ws.length = 0) := show _ = _ by rw [← EW.out, List.length_take, List.length_drop, EN.out]; omega
  have RW : Hid (∀ of c : Nat, c ≤ cap2 → Row u1 b2 (.slice (some ⟨b2, of, none⟩) 0 c) ws) := fun of c hc => ⟨some ⟨b2, of, none⟩, c, 0, by rw [WN.out], by rw [WN.out]; exact Nat.zero_le _, Nat.le_trans hc ML.out, (fun h => by cases h), Or.inl (List.length_eq_zero_iff.1 WN.out)⟩
  by_cases p3 : p = 64
  · subst p3
    by_cases c6 : cap2 = 64
    · subst c6
      go_wp2_with fail
      (first | rw [EU.out] | (have EU2 := EU.out; rw [show ((64 : Nat) : Int) = 64 from rfl] at EU2; rw [EU2]))
      refine (implTake ws b2 _ _ (RW.out _ _ (by omega)) (by have := LW.out; omega)).mono ?_
      rintro e u2 ⟨qt, ct, rfl, OT, hb⟩
      skip
      have BW2 := hide (BW.out.trans (hb.mono BW.out.size))
      obtain ⟨T, eT⟩ : ∃ T, takeL ws = T := ⟨_, rfl⟩
      have TN : Hid (T.length ≤ 8) := show _ ≤ _ by rw [← eT]; exact Nat.le_trans (takeL_len ws) LW.out
      rw [eT] at OT RF ⊢
      obtain ⟨BT, FT⟩ := OT.frow
      obtain ⟨a9, cap9, off9, e9, l9, k9, -, -, c9⟩ := FT
      obtain ⟨rfl, -, rfl⟩ : qt = a9 ∧ True ∧ ct = cap9 := by cases e9; exact ⟨rfl, trivial, rfl⟩
      unfold maxLen at k9
      have C9 := hide c9
      have US : Hid (w.heap.size ≤ u2.heap.size) := BW2.out.size
      obtain ⟨N, eN⟩ : ∃ N, T.length = N := ⟨_, rfl⟩
      have ENN := hide eN
      have n8 : N ≤ 8 := by rw [← eN]; exact TN.out
      rw [eN] at l9 C9 ⊢
      clear eT e9 OT c9 hb eN V0 HC EW
      have WL0 : Hid (R = [] ++ cutL (T.drop 0)) := show _ = _ by rw [RF.out]; rfl
      have O0 := hide (OwnF.nil 52 4 u2 u2.heap.size)
      go_wp2
      go_loopw [4, 19] (fun s x wr => ∃ (k c : Nat) (q : Option Addr) (L : List In4), k ≤ N ∧ x = .int .i64 k ∧ s = .slice q k c ∧ Hid (L.length = k) ∧ Hid (OwnI wr u2.heap.size (.slice q L.length c) L) ∧ Hid (R = L ++ cutL (T.drop k)) ∧ Hid (Below u2.heap.size u2 wr)) (fun _ x _ => N - (intOf x).toNat)
      case atStart => exact ⟨0, 0, _, [], by omega, rfl, rfl, rfl, O0, WL0, Below.refl _ _⟩
      case round =>
        obtain ⟨k, c, q, L, hk, rfl, rfl, LL, OX, WL, HB⟩ := hrel
        have FIN (hr : cutL (T.drop k) = []) : R = L := by rw [WL.out, hr]; simp
        have FI := hide FIN
        clear FIN O0 WL0
        by_cases hlt : k < N
        case neg =>
          have HD : Hid (R = L) := FI.out (by rw [drop_end (by have := ENN.out; omega)]; rfl)
          have OY : Hid (OwnI wr w.heap.size (.slice q R.length c) R) := by rw [HD.out]; exact OX.out.mono US.out
          have HK : Hid (k = R.length) := show _ = _ by rw [HD.out, LL.out]
          have HB9 := hide (BW2.out.trans (HB.out.mono US.out))
          clear OX FI
          go_wp2
          go_ret
          exact ⟨q, c, (by rw [HK.out]; rfl), OY.out, HB9.out⟩
        obtain ⟨j, et⟩ : ∃ j, T[k]? = some j := ⟨_, List.getElem?_eq_getElem (by rw [ENN.out]; exact hlt)⟩
        obtain ⟨rfl, hc⟩ := C9.out.resolve_left (by omega)
        obtain ⟨q0, q1', q2', q3⟩ := at4 hc et
        have d0 := cell_below HB.out q0
        have d1 := cell_below HB.out q1'
        have d2 := cell_below HB.out q2'
        have d3 := cell_below HB.out q3
        have DR := hide (drop_at et)
        have lk : ((k : Nat) : Int) < (N : Nat) := by omega
        clear et hc q0 q1' q2' q3
        have b1 : Below wr.heap.size wr (wr.alloc (.cells #[.int .i64 j.op, .int .i64 j.d, .int .i64 j.a, .int .i64 j.k] 52)) := (Below.refl _ _).alloc (Nat.le_refl _) _
        by_cases j0 : j.op = 0
        · have HD : Hid (R = L) := FI.out (by rw [DR.out, cutL, if_pos j0])
          have HB2 : Hid (Below w.heap.size w (wr.alloc (.cells #[.int .i64 j.op, .int .i64 j.d, .int .i64 j.a, .int .i64 j.k] 52))) := (BW2.out.trans (HB.out.mono US.out)).alloc (Nat.le_trans US.out HB.out.size) _
          have OX2 : Hid (OwnI (wr.alloc (.cells #[.int .i64 j.op, .int .i64 j.d, .int .i64 j.a, .int .i64 j.k] 52)) w.heap.size (.slice q R.length c) R) := by rw [HD.out]; exact (OX.out.below b1).mono US.out
          have HK : Hid (k = R.length) := show _ = _ by rw [HD.out, LL.out]
          have n0 : (j.op == 0) = true := by simp [j0]
          clear OX WL FI b1 j0
          go_wp2
          go_ret
          exact ⟨q, c, (by rw [HK.out]; rfl), OX2.out, HB2.out⟩
        have n0 : (j.op == 0) = false := by simpa using j0
        have b2' : Below wr.heap.size wr ((wr.alloc (.cells #[.int .i64 j.op, .int .i64 j.d, .int .i64 j.a, .int .i64 j.k] 52)).alloc (.cells #[.int .i64 j.op, .int .i64 j.d, .int .i64 j.a, .int .i64 j.k] 52)) := b1.alloc b1.size _
        have OX2 := OX.out.below b2'
        have HB2 := HB.out.trans (b2'.mono HB.out.size)
        have J2 := (Rec.new wr [.int .i64 j.op, .int .i64 j.d, .int .i64 j.a, .int .i64 j.k] 52).alloc (.cells #[.int .i64 j.op, .int .i64 j.d, .int .i64 j.a, .int .i64 j.k] 52)
        obtain ⟨g', cap', u3, hrun, ho, hg, hgl, gr⟩ := run_pushI (ty := 38) (w := ((wr.alloc (.cells #[.int .i64 j.op, .int .i64 j.d, .int .i64 j.a, .int .i64 j.k] 52)).alloc (.cells #[.int .i64 j.op, .int .i64 j.d, .int .i64 j.a, .int .i64 j.k] 52))) OX2 (by have := LL.out; omega) HB2.size ⟨wr.heap.size + 1, 0, none⟩ j (by rw [Addr.add_lit]; simp) (by rw [Addr.add_lit]; simp) (by rw [Addr.add_lit]; simp) (by rw [Addr.add_lit]; simp)
        obtain ⟨TT, hT, hT2⟩ := grown_turn gr (OX2.q_form.imp (fun e => e.1) id)
        have NT : TT ≠ wr.heap.size := by
          have s2 : wr.heap.size < ((wr.alloc (.cells #[.int .i64 j.op, .int .i64 j.d, .int .i64 j.a, .int .i64 j.k] 52)).alloc (.cells #[.int .i64 j.op, .int .i64 j.d, .int .i64 j.a, .int .i64 j.k] 52)).heap.size := J2.lt
          rcases hT2 with hT2 | rfl
          · have h1 := OX.out.q_lt hT2
            omega
          · omega
        have J3 := hide (J2.turn hT (Ne.symm NT))
        have HB3 := hide (OwnF.below_push OX2 HB2 gr HB2.size)
        have OY := hide ho
        rw [LL.out] at hrun OY
        clear b1 b2' OX2 HB2 HB OX ho hg hgl gr J2 hT hT2 NT
        have LN : Hid ((L ++ [j]).length = k + 1) := show _ = _ by rw [List.length_append, LL.out]; rfl
        have jc := J3.out.cell 0 _ rfl
        go_wp2_with (at_builtin; refine push_list rfl _ _ rfl rfl rfl hrun ?_; refine Hid.out ?_)
        clear hrun d0 d1 d2 d3
        refine hide ?_
        go_wp2_with fail
        refine (InsI.insEnds j.op _).mono ?_
        rintro e u4 ⟨rfl, hw⟩
        rw [hw]
        clear hw u4 jc
        cases he : endsB j.op with
        | true =>
          have HD : Hid (R = L ++ [j]) := show _ = _ by rw [WL.out, DR.out, cutL, if_neg j0, if_pos he]
          have HK : Hid (k + 1 = R.length) := show _ = _ by rw [HD.out, LN.out]
          have OZ : Hid (OwnI u3 w.heap.size (.slice (some ⟨g', 0, none⟩) R.length cap') R) := by rw [← HK.out, HD.out]; exact OwnF.mono OY.out US.out
          have HB9 := hide (BW2.out.trans (HB3.out.mono US.out))
          clear OY WL DR FI
          go_wp2
          go_ret
          exact ⟨_, _, (by rw [← HK.out]; rfl), OZ.out, HB9.out⟩
        | false =>
          have WN : Hid (R = (L ++ [j]) ++ cutL (T.drop (k + 1))) := show _ = _ by
            rw [WL.out, DR.out, cutL, if_neg j0, if_neg (by rw [he]; decide)]
            simp
          clear DR FI WL
          go_wp2
          exact ⟨⟨k + 1, cap', some ⟨g', 0, none⟩, L ++ [j], by omega, by go_num, rfl, LN, by rw [LN.out]; exact OY, WN, HB3⟩, by simp [intOf]; omega⟩
    · have c7 : 64 < cap2 := by omega
      go_wp2_with fail
      (first | rw [EU.out] | (have EU2 := EU.out; rw [show ((64 : Nat) : Int) = 64 from rfl] at EU2; rw [EU2]))
      refine (implTake ws b2 _ _ (RW.out _ _ (by omega)) (by have := LW.out; omega)).mono ?_
      rintro e u2 ⟨qt, ct, rfl, OT, hb⟩
      skip
      have BW2 := hide (BW.out.trans (hb.mono BW.out.size))
      obtain ⟨T, eT⟩ : ∃ T, takeL ws = T := ⟨_, rfl⟩
      have TN : Hid (T.length ≤ 8) := show _ ≤ _ by rw [← eT]; exact Nat.le_trans (takeL_len ws) LW.out
      rw [eT] at OT RF ⊢
      obtain ⟨BT, FT⟩ := OT.frow
      obtain ⟨a9, cap9, off9, e9, l9, k9, -, -, c9⟩ := FT
      obtain ⟨rfl, -, rfl⟩ : qt = a9 ∧ True ∧ ct = cap9 := by cases e9; exact ⟨rfl, trivial, rfl⟩
      unfold maxLen at k9
      have C9 := hide c9
      have US : Hid (w.heap.size ≤ u2.heap.size) := BW2.out.size
      obtain ⟨N, eN⟩ : ∃ N, T.length = N := ⟨_, rfl⟩
      have ENN := hide eN
      have n8 : N ≤ 8 := by rw [← eN]; exact TN.out
      rw [eN] at l9 C9 ⊢
      clear eT e9 OT c9 hb eN V0 HC EW
      have WL0 : Hid (R = [] ++ cutL (T.drop 0)) := show _ = _ by rw [RF.out]; rfl
      have O0 := hide (OwnF.nil 52 4 u2 u2.heap.size)
      go_wp2
      go_loopw [4, 19] (fun s x wr => ∃ (k c : Nat) (q : Option Addr) (L : List In4), k ≤ N ∧ x = .int .i64 k ∧ s = .slice q k c ∧ Hid (L.length = k) ∧ Hid (OwnI wr u2.heap.size (.slice q L.length c) L) ∧ Hid (R = L ++ cutL (T.drop k)) ∧ Hid (Below u2.heap.size u2 wr)) (fun _ x _ => N - (intOf x).toNat)
      case atStart => exact ⟨0, 0, _, [], by omega, rfl, rfl, rfl, O0, WL0, Below.refl _ _⟩
      case round =>
        obtain ⟨k, c, q, L, hk, rfl, rfl, LL, OX, WL, HB⟩ := hrel
        have FIN (hr : cutL (T.drop k) = []) : R = L := by rw [WL.out, hr]; simp
        have FI := hide FIN
        clear FIN O0 WL0
        by_cases hlt : k < N
        case neg =>
          have HD : Hid (R = L) := FI.out (by rw [drop_end (by have := ENN.out; omega)]; rfl)
          have OY : Hid (OwnI wr w.heap.size (.slice q R.length c) R) := by rw [HD.out]; exact OX.out.mono US.out
          have HK : Hid (k = R.length) := show _ = _ by rw [HD.out, LL.out]
          have HB9 := hide (BW2.out.trans (HB.out.mono US.out))
          clear OX FI
          go_wp2
          go_ret
          exact ⟨q, c, (by rw [HK.out]; rfl), OY.out, HB9.out⟩
        obtain ⟨j, et⟩ : ∃ j, T[k]? = some j := ⟨_, List.getElem?_eq_getElem (by rw [ENN.out]; exact hlt)⟩
        obtain ⟨rfl, hc⟩ := C9.out.resolve_left (by omega)
        obtain ⟨q0, q1', q2', q3⟩ := at4 hc et
        have d0 := cell_below HB.out q0
        have d1 := cell_below HB.out q1'
        have d2 := cell_below HB.out q2'
        have d3 := cell_below HB.out q3
        have DR := hide (drop_at et)
        have lk : ((k : Nat) : Int) < (N : Nat) := by omega
        clear et hc q0 q1' q2' q3
        have b1 : Below wr.heap.size wr (wr.alloc (.cells #[.int .i64 j.op, .int .i64 j.d, .int .i64 j.a, .int .i64 j.k] 52)) := (Below.refl _ _).alloc (Nat.le_refl _) _
        by_cases j0 : j.op = 0
        · have HD : Hid (R = L) := FI.out (by rw [DR.out, cutL, if_pos j0])
          have HB2 : Hid (Below w.heap.size w (wr.alloc (.cells #[.int .i64 j.op, .int .i64 j.d, .int .i64 j.a, .int .i64 j.k] 52))) := (BW2.out.trans (HB.out.mono US.out)).alloc (Nat.le_trans US.out HB.out.size) _
          have OX2 : Hid (OwnI (wr.alloc (.cells #[.int .i64 j.op, .int .i64 j.d, .int .i64 j.a, .int .i64 j.k] 52)) w.heap.size (.slice q R.length c) R) := by rw [HD.out]; exact (OX.out.below b1).mono US.out
          have HK : Hid (k = R.length) := show _ = _ by rw [HD.out, LL.out]
          have n0 : (j.op == 0) = true := by simp [j0]
          clear OX WL FI b1 j0
          go_wp2
          go_ret
          exact ⟨q, c, (by rw [HK.out]; rfl), OX2.out, HB2.out⟩
        have n0 : (j.op == 0) = false := by simpa using j0
        have b2' : Below wr.heap.size wr ((wr.alloc (.cells #[.int .i64 j.op, .int .i64 j.d, .int .i64 j.a, .int .i64 j.k] 52)).alloc (.cells #[.int .i64 j.op, .int .i64 j.d, .int .i64 j.a, .int .i64 j.k] 52)) := b1.alloc b1.size _
        have OX2 := OX.out.below b2'
        have HB2 := HB.out.trans (b2'.mono HB.out.size)
        have J2 := (Rec.new wr [.int .i64 j.op, .int .i64 j.d, .int .i64 j.a, .int .i64 j.k] 52).alloc (.cells #[.int .i64 j.op, .int .i64 j.d, .int .i64 j.a, .int .i64 j.k] 52)
        obtain ⟨g', cap', u3, hrun, ho, hg, hgl, gr⟩ := run_pushI (ty := 38) (w := ((wr.alloc (.cells #[.int .i64 j.op, .int .i64 j.d, .int .i64 j.a, .int .i64 j.k] 52)).alloc (.cells #[.int .i64 j.op, .int .i64 j.d, .int .i64 j.a, .int .i64 j.k] 52))) OX2 (by have := LL.out; omega) HB2.size ⟨wr.heap.size + 1, 0, none⟩ j (by rw [Addr.add_lit]; simp) (by rw [Addr.add_lit]; simp) (by rw [Addr.add_lit]; simp) (by rw [Addr.add_lit]; simp)
        obtain ⟨TT, hT, hT2⟩ := grown_turn gr (OX2.q_form.imp (fun e => e.1) id)
        have NT : TT ≠ wr.heap.size := by
          have s2 : wr.heap.size < ((wr.alloc (.cells #[.int .i64 j.op, .int .i64 j.d, .int .i64 j.a, .int .i64 j.k] 52)).alloc (.cells #[.int .i64 j.op, .int .i64 j.d, .int .i64 j.a, .int .i64 j.k] 52)).heap.size := J2.lt
          rcases hT2 with hT2 | rfl
          · have h1 := OX.out.q_lt hT2
            omega
          · omega
        have J3 := hide (J2.turn hT (Ne.symm NT))
        have HB3 := hide (OwnF.below_push OX2 HB2 gr HB2.size)
        have OY := hide ho
        rw [LL.out] at hrun OY
        clear b1 b2' OX2 HB2 HB OX ho hg hgl gr J2 hT hT2 NT
        have LN : Hid ((L ++ [j]).length = k + 1) := show _ = _ by rw [List.length_append, LL.out]; rfl
        have jc := J3.out.cell 0 _ rfl
        go_wp2_with (at_builtin; refine push_list rfl _ _ rfl rfl rfl hrun ?_; refine Hid.out ?_)
        clear hrun d0 d1 d2 d3
        refine hide ?_
        go_wp2_with fail
        refine (InsI.insEnds j.op _).mono ?_
        rintro e u4 ⟨rfl, hw⟩
        rw [hw]
        clear hw u4 jc
        cases he : endsB j.op with
        | true =>
          have HD : Hid (R = L ++ [j]) := show _ = _ by rw [WL.out, DR.out, cutL, if_neg j0, if_pos he]
          have HK : Hid (k + 1 = R.length) := show _ = _ by rw [HD.out, LN.out]
          have OZ : Hid (OwnI u3 w.heap.size (.slice (some ⟨g', 0, none⟩) R.length cap') R) := by rw [← HK.out, HD.out]; exact OwnF.mono OY.out US.out
          have HB9 := hide (BW2.out.trans (HB3.out.mono US.out))
          clear OY WL DR FI
          go_wp2
          go_ret
          exact ⟨_, _, (by rw [← HK.out]; rfl), OZ.out, HB9.out⟩
        | false =>
          have WN : Hid (R = (L ++ [j]) ++ cutL (T.drop (k + 1))) := show _ = _ by
            rw [WL.out, DR.out, cutL, if_neg j0, if_neg (by rw [he]; decide)]
            simp
          clear DR FI WL
          go_wp2
          exact ⟨⟨k + 1, cap', some ⟨g', 0, none⟩, L ++ [j], by omega, by go_num, rfl, LN, by rw [LN.out]; exact OY, WN, HB3⟩, by simp [intOf]; omega⟩
  have q1 : 64 < (p : Int) := by omega
  by_cases c6 : cap2 = 64
  · subst c6
    go_wp2_with fail
    (first | rw [EU.out] | (have EU2 := EU.out; rw [show ((64 : Nat) : Int) = 64 from rfl] at EU2; rw [EU2]))
    refine (implTake ws b2 _ _ (RW.out _ _ (by omega)) (by have := LW.out; omega)).mono ?_
    rintro e u2 ⟨qt, ct, rfl, OT, hb⟩
    skip
    have BW2 := hide (BW.out.trans (hb.mono BW.out.size))
    obtain ⟨T, eT⟩ : ∃ T, takeL ws = T := ⟨_, rfl⟩
    have TN : Hid (T.length ≤ 8) := show _ ≤ _ by rw [← eT]; exact Nat.le_trans (takeL_len ws) LW.out
    rw [eT] at OT RF ⊢
    obtain ⟨BT, FT⟩ := OT.frow
    obtain ⟨a9, cap9, off9, e9, l9, k9, -, -, c9⟩ := FT
    obtain ⟨rfl, -, rfl⟩ : qt = a9 ∧ True ∧ ct = cap9 := by cases e9; exact ⟨rfl, trivial, rfl⟩
    unfold maxLen at k9
    have C9 := hide c9
    have US : Hid (w.heap.size ≤ u2.heap.size) := BW2.out.size
    obtain ⟨N, eN⟩ : ∃ N, T.length = N := ⟨_, rfl⟩
    have ENN := hide eN
    have n8 : N ≤ 8 := by rw [← eN]; exact TN.out
    rw [eN] at l9 C9 ⊢
    clear eT e9 OT c9 hb eN V0 HC EW
    have WL0 : Hid (R = [] ++ cutL (T.drop 0)) := show _ = _ by rw [RF.out]; rfl
    have O0 := hide (OwnF.nil 52 4 u2 u2.heap.size)
    go_wp2
    go_loopw [4, 19] (fun s x wr => ∃ (k c : Nat) (q : Option Addr) (L : List In4), k ≤ N ∧ x = .int .i64 k ∧ s = .slice q k c ∧ Hid (L.length = k) ∧ Hid (OwnI wr u2.heap.size (.slice q L.length c) L) ∧ Hid (R = L ++ cutL (T.drop k)) ∧ Hid (Below u2.heap.size u2 wr)) (fun _ x _ => N - (intOf x).toNat)
    case atStart => exact ⟨0, 0, _, [], by omega, rfl, rfl, rfl, O0, WL0, Below.refl _ _⟩
    case round =>
      obtain ⟨k, c, q, L, hk, rfl, rfl, LL, OX, WL, HB⟩ := hrel
      have FIN (hr : cutL (T.drop k) = []) : R = L := by rw [WL.out, hr]; simp
      have FI := hide FIN
      clear FIN O0 WL0
      by_cases hlt : k < N
      case neg =>
        have HD : Hid (R = L) := FI.out (by rw [drop_end (by have := ENN.out; omega)]; rfl)
        have OY : Hid (OwnI wr w.heap.size (.slice q R.length c) R) := by rw [HD.out]; exact OX.out.mono US.out
        have HK : Hid (k = R.length) := show _ = _ by rw [HD.out, LL.out]
        have HB9 := hide (BW2.out.trans (HB.out.mono US.out))
        clear OX FI
        go_wp2
        go_ret
        exact ⟨q, c, (by rw [HK.out]; rfl), OY.out, HB9.out⟩
      obtain ⟨j, et⟩ : ∃ j, T[k]? = some j := ⟨_, List.getElem?_eq_getElem (by rw [ENN.out]; exact hlt)⟩
      obtain ⟨rfl, hc⟩ := C9.out.resolve_left (by omega)
      obtain ⟨q0, q1', q2', q3⟩ := at4 hc et
      have d0 := cell_below HB.out q0
      have d1 := cell_below HB.out q1'
      have d2 := cell_below HB.out q2'
      have d3 := cell_below HB.out q3
      have DR := hide (drop_at et)
      have lk : ((k : Nat) : Int) < (N : Nat) := by omega
      clear et hc q0 q1' q2' q3
      have b1 : Below wr.heap.size wr (wr.alloc (.cells #[.int .i64 j.op, .int .i64 j.d, .int .i64 j.a, .int .i64 j.k] 52)) := (Below.refl _ _).alloc (Nat.le_refl _) _
      by_cases j0 : j.op = 0
      · have HD : Hid (R = L) := FI.out (by rw [DR.out, cutL, if_pos j0])
        have HB2 : Hid (Below w.heap.size w (wr.alloc (.cells #[.int .i64 j.op, .int .i64 j.d, .int .i64 j.a, .int .i64 j.k] 52))) := (BW2.out.trans (HB.out.mono US.out)).alloc (Nat.le_trans US.out HB.out.size) _
        have OX2 : Hid (OwnI (wr.alloc (.cells #[.int .i64 j.op, .int .i64 j.d, .int .i64 j.a, .int .i64 j.k] 52)) w.heap.size (.slice q R.length c) R) := by rw [HD.out]; exact (OX.out.below b1).mono US.out
        have HK : Hid (k = R.length) := show _ = _ by rw [HD.out, LL.out]
        have n0 : (j.op == 0) = true := by simp [j0]
        clear OX WL FI b1 j0
        go_wp2
        go_ret
        exact ⟨q, c, (by rw [HK.out]; rfl), OX2.out, HB2.out⟩
      have n0 : (j.op == 0) = false := by simpa using j0
      have b2' : Below wr.heap.size wr ((wr.alloc (.cells #[.int .i64 j.op, .int .i64 j.d, .int .i64 j.a, .int .i64 j.k] 52)).alloc (.cells #[.int .i64 j.op, .int .i64 j.d, .int .i64 j.a, .int .i64 j.k] 52)) := b1.alloc b1.size _
      have OX2 := OX.out.below b2'
      have HB2 := HB.out.trans (b2'.mono HB.out.size)
      have J2 := (Rec.new wr [.int .i64 j.op, .int .i64 j.d, .int .i64 j.a, .int .i64 j.k] 52).alloc (.cells #[.int .i64 j.op, .int .i64 j.d, .int .i64 j.a, .int .i64 j.k] 52)
      obtain ⟨g', cap', u3, hrun, ho, hg, hgl, gr⟩ := run_pushI (ty := 38) (w := ((wr.alloc (.cells #[.int .i64 j.op, .int .i64 j.d, .int .i64 j.a, .int .i64 j.k] 52)).alloc (.cells #[.int .i64 j.op, .int .i64 j.d, .int .i64 j.a, .int .i64 j.k] 52))) OX2 (by have := LL.out; omega) HB2.size ⟨wr.heap.size + 1, 0, none⟩ j (by rw [Addr.add_lit]; simp) (by rw [Addr.add_lit]; simp) (by rw [Addr.add_lit]; simp) (by rw [Addr.add_lit]; simp)
      obtain ⟨TT, hT, hT2⟩ := grown_turn gr (OX2.q_form.imp (fun e => e.1) id)
      have NT : TT ≠ wr.heap.size := by
        have s2 : wr.heap.size < ((wr.alloc (.cells #[.int .i64 j.op, .int .i64 j.d, .int .i64 j.a, .int .i64 j.k] 52)).alloc (.cells #[.int .i64 j.op, .int .i64 j.d, .int .i64 j.a, .int .i64 j.k] 52)).heap.size := J2.lt
        rcases hT2 with hT2 | rfl
        · have h1 := OX.out.q_lt hT2
          omega
        · omega
      have J3 := hide (J2.turn hT (Ne.symm NT))
      have HB3 := hide (OwnF.below_push OX2 HB2 gr HB2.size)
      have OY := hide ho
      rw [LL.out] at hrun OY
      clear b1 b2' OX2 HB2 HB OX ho hg hgl gr J2 hT hT2 NT
      have LN : Hid ((L ++ [j]).length = k + 1) := show _ = _ by rw [List.length_append, LL.out]; rfl
      have jc := J3.out.cell 0 _ rfl
      go_wp2_with (at_builtin; refine push_list rfl _ _ rfl rfl rfl hrun ?_; refine Hid.out ?_)
      clear hrun d0 d1 d2 d3
      refine hide ?_
      go_wp2_with fail
      refine (InsI.insEnds j.op _).mono ?_
      rintro e u4 ⟨rfl, hw⟩
      rw [hw]
      clear hw u4 jc
      cases he : endsB j.op with
      | true =>
        have HD : Hid (R = L ++ [j]) := show _ = _ by rw [WL.out, DR.out, cutL, if_neg j0, if_pos he]
        have HK : Hid (k + 1 = R.length) := show _ = _ by rw [HD.out, LN.out]
        have OZ : Hid (OwnI u3 w.heap.size (.slice (some ⟨g', 0, none⟩) R.length cap') R) := by rw [← HK.out, HD.out]; exact OwnF.mono OY.out US.out
        have HB9 := hide (BW2.out.trans (HB3.out.mono US.out))
        clear OY WL DR FI
        go_wp2
        go_ret
        exact ⟨_, _, (by rw [← HK.out]; rfl), OZ.out, HB9.out⟩
      | false =>
        have WN : Hid (R = (L ++ [j]) ++ cutL (T.drop (k + 1))) := show _ = _ by
          rw [WL.out, DR.out, cutL, if_neg j0, if_neg (by rw [he]; decide)]
          simp
        clear DR FI WL
        go_wp2
        exact ⟨⟨k + 1, cap', some ⟨g', 0, none⟩, L ++ [j], by omega, by go_num, rfl, LN, by rw [LN.out]; exact OY, WN, HB3⟩, by simp [intOf]; omega⟩
  have c7 : 64 < cap2 := by omega
  go_wp2_with fail
  (first | rw [EU.out] | (have EU2 := EU.out; rw [show ((64 : Nat) : Int) = 64 from rfl] at EU2; rw [EU2]))
  refine (implTake ws b2 _ _ (RW.out _ _ (by omega)) (by have := LW.out; omega)).mono ?_
  rintro e u2 ⟨qt, ct, rfl, OT, hb⟩
  skip
  have BW2 := hide (BW.out.trans (hb.mono BW.out.size))
  obtain ⟨T, eT⟩ : ∃ T, takeL ws = T := ⟨_, rfl⟩
  have TN : Hid (T.length ≤ 8) := show _ ≤ _ by rw [← eT]; exact Nat.le_trans (takeL_len ws) LW.out
  rw [eT] at OT RF ⊢
  obtain ⟨BT, FT⟩ := OT.frow
  obtain ⟨a9, cap9, off9, e9, l9, k9, -, -, c9⟩ := FT
  obtain ⟨rfl, -, rfl⟩ : qt = a9 ∧ True ∧ ct = cap9 := by cases e9; exact ⟨rfl, trivial, rfl⟩
  unfold maxLen at k9
  have C9 := hide c9
  have US : Hid (w.heap.size ≤ u2.heap.size) := BW2.out.size
  obtain ⟨N, eN⟩ : ∃ N, T.length = N := ⟨_, rfl⟩
  have ENN := hide eN
  have n8 : N ≤ 8 := by rw [← eN]; exact TN.out
  rw [eN] at l9 C9 ⊢
  clear eT e9 OT c9 hb eN V0 HC EW
  have WL0 : Hid (R = [] ++ cutL (T.drop 0)) := show _ = _ by rw [RF.out]; rfl
  have O0 := hide (OwnF.nil 52 4 u2 u2.heap.size)
  go_wp2
  go_loopw [4, 19] (fun s x wr => ∃ (k c : Nat) (q : Option Addr) (L : List In4), k ≤ N ∧ x = .int .i64 k ∧ s = .slice q k c ∧ Hid (L.length = k) ∧ Hid (OwnI wr u2.heap.size (.slice q L.length c) L) ∧ Hid (R = L ++ cutL (T.drop k)) ∧ Hid (Below u2.heap.size u2 wr)) (fun _ x _ => N - (intOf x).toNat)
  case atStart => exact ⟨0, 0, _, [], by omega, rfl, rfl, rfl, O0, WL0, Below.refl _ _⟩
  case round =>
    obtain ⟨k, c, q, L, hk, rfl, rfl, LL, OX, WL, HB⟩ := hrel
    have FIN (hr : cutL (T.drop k) = []) : R = L := by rw [WL.out, hr]; simp
    have FI := hide FIN
    clear FIN O0 WL0
    by_cases hlt : k < N
    case neg =>
      have HD : Hid (R = L) := FI.out (by rw [drop_end (by have := ENN.out; omega)]; rfl)
      have OY : Hid (OwnI wr w.heap.size (.slice q R.length c) R) := by rw [HD.out]; exact OX.out.mono US.out
      have HK : Hid (k = R.length) := show _ = _ by rw [HD.out, LL.out]
      have HB9 := hide (BW2.out.trans (HB.out.mono US.out))
      clear OX FI
      go_wp2
      go_ret
      exact ⟨q, c, (by rw [HK.out]; rfl), OY.out, HB9.out⟩
    obtain ⟨j, et⟩ : ∃ j, T[k]? = some j := ⟨_, List.getElem?_eq_getElem (by rw [ENN.out]; exact hlt)⟩
    obtain ⟨rfl, hc⟩ := C9.out.resolve_left (by omega)
    obtain ⟨q0, q1', q2', q3⟩ := at4 hc et
    have d0 := cell_below HB.out q0
    have d1 := cell_below HB.out q1'
    have d2 := cell_below HB.out q2'
    have d3 := cell_below HB.out q3
    have DR := hide (drop_at et)
    have lk : ((k : Nat) : Int) < (N : Nat) := by omega
    clear et hc q0 q1' q2' q3
    have b1 : Below wr.heap.size wr (wr.alloc (.cells #[.int .i64 j.op, .int .i64 j.d, .int .i64 j.a, .int .i64 j.k] 52)) := (Below.refl _ _).alloc (Nat.le_refl _) _
    by_cases j0 : j.op = 0
    · have HD : Hid (R = L) := FI.out (by rw [DR.out, cutL, if_pos j0])
      have HB2 : Hid (Below w.heap.size w (wr.alloc (.cells #[.int .i64 j.op, .int .i64 j.d, .int .i64 j.a, .int .i64 j.k] 52))) := (BW2.out.trans (HB.out.mono US.out)).alloc (Nat.le_trans US.out HB.out.size) _
      have OX2 : Hid (OwnI (wr.alloc (.cells #[.int .i64 j.op, .int .i64 j.d, .int .i64 j.a, .int .i64 j.k] 52)) w.heap.size (.slice q R.length c) R) := by rw [HD.out]; exact (OX.out.below b1).mono US.out
      have HK : Hid (k = R.length) := show _ = _ by rw [HD.out, LL.out]
      have n0 : (j.op == 0) = true := by simp [j0]
      clear OX WL FI b1 j0
      go_wp2
      go_ret
      exact ⟨q, c, (by rw [HK.out]; rfl), OX2.out, HB2.out⟩
    have n0 : (j.op == 0) = false := by simpa using j0
    have b2' : Below wr.heap.size wr ((wr.alloc (.cells #[.int .i64 j.op, .int .i64 j.d, .int .i64 j.a, .int .i64 j.k] 52)).alloc (.cells #[.int .i64 j.op, .int .i64 j.d, .int .i64 j.a, .int .i64 j.k] 52)) := b1.alloc b1.size _
    have OX2 := OX.out.below b2'
    have HB2 := HB.out.trans (b2'.mono HB.out.size)
    have J2 := (Rec.new wr [.int .i64 j.op, .int .i64 j.d, .int .i64 j.a, .int .i64 j.k] 52).alloc (.cells #[.int .i64 j.op, .int .i64 j.d, .int .i64 j.a, .int .i64 j.k] 52)
    obtain ⟨g', cap', u3, hrun, ho, hg, hgl, gr⟩ := run_pushI (ty := 38) (w := ((wr.alloc (.cells #[.int .i64 j.op, .int .i64 j.d, .int .i64 j.a, .int .i64 j.k] 52)).alloc (.cells #[.int .i64 j.op, .int .i64 j.d, .int .i64 j.a, .int .i64 j.k] 52))) OX2 (by have := LL.out; omega) HB2.size ⟨wr.heap.size + 1, 0, none⟩ j (by rw [Addr.add_lit]; simp) (by rw [Addr.add_lit]; simp) (by rw [Addr.add_lit]; simp) (by rw [Addr.add_lit]; simp)
    obtain ⟨TT, hT, hT2⟩ := grown_turn gr (OX2.q_form.imp (fun e => e.1) id)
    have NT : TT ≠ wr.heap.size := by
      have s2 : wr.heap.size < ((wr.alloc (.cells #[.int .i64 j.op, .int .i64 j.d, .int .i64 j.a, .int .i64 j.k] 52)).alloc (.cells #[.int .i64 j.op, .int .i64 j.d, .int .i64 j.a, .int .i64 j.k] 52)).heap.size := J2.lt
      rcases hT2 with hT2 | rfl
      · have h1 := OX.out.q_lt hT2
        omega
      · omega
    have J3 := hide (J2.turn hT (Ne.symm NT))
    have HB3 := hide (OwnF.below_push OX2 HB2 gr HB2.size)
    have OY := hide ho
    rw [LL.out] at hrun OY
    clear b1 b2' OX2 HB2 HB OX ho hg hgl gr J2 hT hT2 NT
    have LN : Hid ((L ++ [j]).length = k + 1) := show _ = _ by rw [List.length_append, LL.out]; rfl
    have jc := J3.out.cell 0 _ rfl
    go_wp2_with (at_builtin; refine push_list rfl _ _ rfl rfl rfl hrun ?_; refine Hid.out ?_)
    clear hrun d0 d1 d2 d3
    refine hide ?_
    go_wp2_with fail
    refine (InsI.insEnds j.op _).mono ?_
    rintro e u4 ⟨rfl, hw⟩
    rw [hw]
    clear hw u4 jc
    cases he : endsB j.op with
    | true =>
      have HD : Hid (R = L ++ [j]) := show _ = _ by rw [WL.out, DR.out, cutL, if_neg j0, if_pos he]
      have HK : Hid (k + 1 = R.length) := show _ = _ by rw [HD.out, LN.out]
      have OZ : Hid (OwnI u3 w.heap.size (.slice (some ⟨g', 0, none⟩) R.length cap') R) := by rw [← HK.out, HD.out]; exact OwnF.mono OY.out US.out
      have HB9 := hide (BW2.out.trans (HB3.out.mono US.out))
      clear OY WL DR FI
      go_wp2
      go_ret
      exact ⟨_, _, (by rw [← HK.out]; rfl), OZ.out, HB9.out⟩
    | false =>
      have WN : Hid (R = (L ++ [j]) ++ cutL (T.drop (k + 1))) := show _ = _ by
        rw [WL.out, DR.out, cutL, if_neg j0, if_neg (by rw [he]; decide)]
        simp
      clear DR FI WL
      go_wp2
      exact ⟨⟨k + 1, cap', some ⟨g', 0, none⟩, L ++ [j], by omega, by go_num, rfl, LN, by rw [LN.out]; exact OY, WN, HB3⟩, by simp [intOf]; omega⟩
set_option maxRecDepth 8000 in
set_option maxHeartbeats 8000000 in
theorem implFind (m : M) (c : List Value) (w : World) (h : RMach w c m) :
    Calls Try.prog 15 #[.agg c.toArray] w fun e w' => ∃ q cap, e = .returned (.slice q (findM m).length cap) ∧ OwnI w' w.heap.size (.slice q (findM m).length cap) (findM m) ∧ Below w.heap.size w w' := by
  obtain ⟨r, e, i, o, b1, b2, b3, b4, rfl, h1, h2, h3, h4⟩ := h
  have RM : Hid (RMach w (mv m r e i o) m) := ⟨r, e, i, o, b1, b2, b3, b4, rfl, h1, h2, h3, h4⟩
  obtain ⟨R, eR⟩ : ∃ R, findM m = R := ⟨_, rfl⟩
  have RB : Hid (okM m = false → R = []) := fun h => by rw [← eR, findM, if_neg (by rw [h]; decide)]
  have PC : Hid (∀ c u, okM m = true → RMach u c m → Calls Try.prog 36 #[.agg c.toArray] u fun e w' => ∃ q cap, e = .returned (.slice q R.length cap) ∧ OwnI w' u.heap.size (.slice q R.length cap) R ∧ Below u.heap.size u w') := fun c u ok h => by
    have := implPiece m c u h ok
    rw [eR] at this
    exact this
  rw [eR]
  clear eR h1 h2 h3 h4
  obtain ⟨regs, pc, mem, save, lets, waits, halt, ins, outs, count⟩ := m
  simp only [mv] at *
  have V0 := hide (Rec.new w [r, .int .i64 pc, e, .int .i64 save, .bool lets, .bool waits, .int .i64 halt, i, o, .int .i64 count] 26)
  have BW : Hid (Below w.heap.size w (w.alloc (.cells #[r, .int .i64 pc, e, .int .i64 save, .bool lets, .bool waits, .int .i64 halt, i, o, .int .i64 count] 26))) := (Below.refl _ _).alloc (Nat.le_refl _) _
  go_enter Try.func15, Try.ntmps15
  go_wp2_with fail
  refine (MchI.mchOk _ _ _ (RM.out.below BW.out)).mono ?_
  rintro e u1 ⟨rfl, hb⟩
  generalize w.alloc (.cells #[r, .int .i64 pc, e, .int .i64 save, .bool lets, .bool waits, .int .i64 halt, i, o, .int .i64 count] 26) = U0 at V0 BW hb
  replace V0 := hide (V0.out.below hb)
  replace BW := hide (BW.out.trans (hb.mono BW.out.size))
  clear hb
  cases ok : okM ⟨regs, pc, mem, save, lets, waits, halt, ins, outs, count⟩ with
  | false =>
    have HD : Hid (R = []) := RB.out ok
    have OY : Hid (OwnI u1 w.heap.size (.slice none R.length 0) R) := by rw [HD.out]; exact OwnF.nil _ _ _ _
    have HL : Hid (R.length = 0) := show _ = _ by rw [HD.out]; rfl
    clear V0 PC RB ok
    go_wp2
    go_ret
    exact ⟨_, _, (by rw [HL.out]; rfl), OY.out, BW.out⟩
  | true =>
    have P1 := hide (PC.out [r, .int .i64 pc, e, .int .i64 save, .bool lets, .bool waits, .int .i64 halt, i, o, .int .i64 count] u1 ok (RM.out.below BW.out))
    have m0 := V0.out.cell 0 _ rfl
    have m1 := V0.out.cell 1 _ rfl
    have m2 := V0.out.cell 2 _ rfl
    have m3 := V0.out.cell 3 _ rfl
    have m4 := V0.out.cell 4 _ rfl
    have m5 := V0.out.cell 5 _ rfl
    have m6 := V0.out.cell 6 _ rfl
    have m7 := V0.out.cell 7 _ rfl
    have m8 := V0.out.cell 8 _ rfl
    have m9 := V0.out.cell 9 _ rfl
    have bs : Hid (w.heap.size ≤ u1.heap.size) := BW.out.size
    clear PC RB ok V0
    go_wp2_with fail
    refine P1.out.mono ?_
    rintro e u2 ⟨q, cap, rfl, OY, hb⟩
    have OZ := hide (OwnF.mono OY bs.out)
    replace BW := hide (BW.out.trans (hb.mono bs.out))
    clear OY hb m0 m1 m2 m3 m4 m5 m6 m7 m8 m9 P1
    go_wp2
    go_ret
    exact ⟨q, cap, rfl, OZ.out, BW.out⟩
end Go.Proofs.Ytlgpnogeoaoidaa.Blk
