/-
  Our own hand, the specification's OptConst.
-/
import Derived.Test.YtflhehofgplcoaaDoorOsB
namespace Go.Proofs.YtflhehofgplcoaaDoor.Op
set_option linter.unusedVariables false
set_option linter.unusedSimpArgs false
open Go.ChangeShapes Go.WideShapes Go.ChangeAt Go.RowKit IntS Flat Irk
open Ir Dt
open Mch (Rec)
/-- Operations in a block of their own, from its first cell on. -/
structure Ow (w : World) (g n cap : Nat) (os : List Opn) : Prop where
  len : os.length = n
  le : n ≤ cap
  mx : cap ≤ maxLen
  lt : g < w.heap.size
  at_ : ∀ (i : Nat) o, os[i]? = some o → OpAt w g (i * 5) o ∧ SoftAt w g (i * 5)
theorem Ow.wo {w : World} {g n cap : Nat} {os : List Opn} (h : Ow w g n cap os) : WORow w g (.slice (some ⟨g, 0, none⟩) os.length cap) os := by
  refine ⟨some ⟨g, 0, none⟩, cap, 0, rfl, by rw [h.len]; exact h.le, h.mx, (fun e => by cases e), Or.inr ⟨rfl, h.lt, fun i o ho => ?_⟩⟩
  rw [Nat.zero_add]
  exact h.at_ i o ho
theorem Ow.of {w : World} {g cap : Nat} {os : List Opn} (h : WORow w g (.slice (some ⟨g, 0, none⟩) os.length cap) os) (hg : g < w.heap.size) : Ow w g os.length cap os := by
  obtain ⟨a, cap', off, e, h2, h3, hz, h4⟩ := h
  cases e
  refine ⟨rfl, h2, h3, hg, fun i o ho => ?_⟩
  obtain ⟨e, _, q⟩ := h4.resolve_left (fun e => by rw [e] at ho; simp at ho)
  cases e
  have := q i o ho
  rw [Nat.zero_add] at this
  exact this
theorem Ow.row {w : World} {g n cap : Nat} {os : List Opn} (h : Ow w g n cap os) : ORow w g (.slice (some ⟨g, 0, none⟩) n cap) os := by
  have := h.wo.row
  rw [h.len] at this
  exact this
theorem Ow.turn {w w' : World} {g n cap B : Nat} {os : List Opn} (h : Ow w g n cap os) (ht : Turn B w w') (hB : g ≠ B) : Ow w' g n cap os := by
  have := Ow.of (h.wo.turn ht hB) (Nat.lt_of_lt_of_le h.lt ht.size)
  rw [h.len] at this
  exact this
theorem Ow.below {w w' : World} {g n cap : Nat} {os : List Opn} (h : Ow w g n cap os) (hb : Below w.heap.size w w') : Ow w' g n cap os := h.turn (B := g + 1) (Turn.of_below hb) (by omega)
theorem Ow.set {w : World} {g n cap k p : Nat} {os : List Opn} (h : Ow w g n cap os) (hk : k < n) (hp : p = k * 5) (o : Opn) : Ow (set5 w g p (.int .i64 o.kd) (.int .i64 o.x) (.int .i64 o.y) (.int .i64 o.k) (.int .i64 o.t)) g n cap (os.set k o) := by
  subst hp
  have hl := h.len
  refine ⟨by rw [List.length_set]; exact hl, h.le, h.mx, by rw [set5_size]; exact h.lt, fun i o' ho => ?_⟩
  by_cases e : k = i
  · subst e
    rw [List.getElem?_set_self (by omega)] at ho
    obtain rfl := Option.some.inj ho
    obtain ⟨⟨c0, c1, c2, c3, c4⟩, s⟩ := h.at_ k os[k] (List.getElem?_eq_getElem (by omega))
    refine ⟨?_, ?_⟩
    · exact set5_cells w g (k * 5) _ _ _ _ _ (fun i hi => by
        have : i = 0 ∨ i = 1 ∨ i = 2 ∨ i = 3 ∨ i = 4 := by omega
        rcases this with rfl | rfl | rfl | rfl | rfl
        · exact ⟨_, c0⟩
        · exact ⟨_, c1⟩
        · exact ⟨_, c2⟩
        · exact ⟨_, c3⟩
        · exact ⟨_, c4⟩)
    · obtain ⟨s0, s1, s2, s3, s4⟩ := s
      exact ⟨(set5_soft ..).trans s0, (set5_soft ..).trans s1, (set5_soft ..).trans s2, (set5_soft ..).trans s3, (set5_soft ..).trans s4⟩
  · rw [List.getElem?_set_ne e] at ho
    obtain ⟨⟨c0, c1, c2, c3, c4⟩, ⟨s0, s1, s2, s3, s4⟩⟩ := h.at_ i o' ho
    have far : ∀ r, r < 5 → (set5 w g (k * 5) (.int .i64 o.kd) (.int .i64 o.x) (.int .i64 o.y) (.int .i64 o.k) (.int .i64 o.t)).cell? ⟨g, i * 5 + r, none⟩ = w.cell? ⟨g, i * 5 + r, none⟩ := fun r hr => set5_far _ _ _ _ _ _ _ _ _ (fun j hj => Ir.off_ne (by omega))
    exact ⟨⟨(far 0 (by omega)).trans c0, (far 1 (by omega)).trans c1, (far 2 (by omega)).trans c2, (far 3 (by omega)).trans c3, (far 4 (by omega)).trans c4⟩,
      ⟨(set5_soft ..).trans s0, (set5_soft ..).trans s1, (set5_soft ..).trans s2, (set5_soft ..).trans s3, (set5_soft ..).trans s4⟩⟩
/-- An operation stored into its place. -/
theorem lay5 {w : World} {ops : Array Oper} {rest : List Oper} {o : Oper} {a : Act} {Q : Exit → Act → World → Prop} (hgd : o.guard = none) (hds : o.dst = none) (x y : Operand) (ho : o.op = .store 41 x y)
    (g n cap k p : Nat) (os : List Opn) (hW : Ow w g n cap os) (hk : k < n) (hp : p = k * 5) (hx : a.eval x = .pointer (some ⟨g, p, none⟩)) (kd ox oy ok ot : Int) (hy : a.eval y = .agg #[.int .i64 kd, .int .i64 ox, .int .i64 oy, .int .i64 ok, .int .i64 ot])
    (h : ∀ w' : World, Hid (Ow w' g n cap (os.set k ⟨kd, ox, oy, ok, ot⟩)) → Hid (Turn g w w') → wpList Tryd.prog ops Q rest a w') :
    wpList Tryd.prog ops Q (o :: rest) a w := by
  refine wpList_plain hgd fun K hK => ?_
  have hl := hW.len
  obtain ⟨oo, eo⟩ : ∃ o, os[k]? = some o := ⟨_, List.getElem?_eq_getElem (by omega)⟩
  obtain ⟨⟨c0, c1, c2, c3, c4⟩, ⟨s0, s1, s2, s3, s4⟩⟩ := hW.at_ k oo eo
  have key := hK _ _ (h _ (hW.set hk hp ⟨kd, ox, oy, ok, ot⟩) (set5_turn ..))
  unfold set5 at key
  rw [← hp] at c0 c1 c2 c3 c4 s0 s1 s2 s3 s4
  obtain ⟨dst, op, ty, pos, aft, gd⟩ := o
  simp only [] at hgd hds ho
  subst hgd hds ho
  clear h hK hW hp hk hl eo
  unfold Oper.wp
  simp only [execOp, hx, hy]
  go_simp
  exact key
/-- Nothing, told. -/
theorem nil_ow (w : World) (A : Nat → Prop) : blkR.ow w A [.int .i64 0, .int .i64 0, .slice none 0 0, .int .i64 0, .int .i64 0, .int .i64 0, .int .i64 0] (toT nilB) :=
  ⟨0, ⟨none, 0, rfl, ⟨none, 0, 0, rfl, Nat.le_refl _, by unfold maxLen; omega, fun _ => rfl, Or.inl rfl⟩⟩, Or.inl rfl⟩
theorem Ow.told {w : World} {A : Nat → Prop} {g n cap : Nat} {b : Bk} (h : Ow w g n cap b.ops) (hA : A g) : blkR.ow w A [.int .i64 b.pc, .int .i64 b.ln, .slice (some ⟨g, 0, none⟩) n cap, .int .i64 b.en, .int .i64 b.x, .int .i64 b.y, .int .i64 b.k] (toT b) := by
  refine ⟨g, ⟨some ⟨g, 0, none⟩, cap, ?_, h.wo⟩, Or.inr hA⟩
  show _ = bv b (.slice _ b.ops.length cap)
  rw [h.len]
  rfl
theorem const_no {ops : List Opn} {n : Nat} {o : Opn} (h : ops[n]? = some o) (hs : constO (constL ops n) o = o) : constL ops (n + 1) = constL ops n := by
  rw [constL_next h, hs]
  apply List.ext_getElem?
  intro i
  by_cases e : n = i
  · subst e
    have := (constL_far ops n n (Nat.le_refl _)).trans h
    rw [List.getElem?_set_self (List.getElem?_eq_some_iff.1 this).1, this]
  · rw [List.getElem?_set_ne e]
theorem fold_ops (b : Bk) : (foldB b).ops = b.ops := by
  unfold foldB
  cases foldK b <;> rfl
set_option maxRecDepth 8000 in
set_option maxHeartbeats 16000000 in
theorem specConst (b : Bk) (cs : List Value) (w : World) (h : RBk w cs b) :
    Calls Tryd.prog 39 #[.agg cs.toArray] w fun e w' => ∃ cs', e = .returned (.agg cs'.toArray) ∧ blkR.ow w' (New w w') cs' (toT (constB b)) ∧ Below w.heap.size w w' := by
  obtain ⟨q, c, B, rfl, hr⟩ := h
  obtain ⟨pc, ln, ops, en, x, y, k⟩ := b
  simp only [bv] at *
  obtain ⟨r1, r2, b0⟩ := boxes w (.int .i64 pc) (.int .i64 ln) (.slice q ops.length c) (.int .i64 en) (.int .i64 x) (.int .i64 y) (.int .i64 k)
  have RA := hide r1
  have RZ := hide r2
  have BW := hide b0
  have HR := hide (hr.below b0)
  have NO : Hid (okB (⟨pc, ln, ops, en, x, y, k⟩ : Bk) = false → constB (⟨pc, ln, ops, en, x, y, k⟩ : Bk) = nilB) := fun e => by show constB _ = _; unfold constB; rw [e]; rfl
  have YES : Hid (okB (⟨pc, ln, ops, en, x, y, k⟩ : Bk) = true → constB (⟨pc, ln, ops, en, x, y, k⟩ : Bk) = foldB ⟨pc, ln, constL ops ops.length, en, x, y, k⟩) := fun e => by show constB _ = _; unfold constB; rw [if_pos e]
  obtain ⟨R, eR⟩ : ∃ R, constB (⟨pc, ln, ops, en, x, y, k⟩ : Bk) = R := ⟨_, rfl⟩
  rw [eR] at NO YES ⊢
  clear r1 r2 b0 hr eR
  go_enter Tryd.func39, Tryd.ntmps39
  go_wp2_with fail
  generalize ((w.alloc (.cells #[.int .i64 pc, .int .i64 ln, .slice q ops.length c, .int .i64 en, .int .i64 x, .int .i64 y, .int .i64 k] 28)).alloc (.cells #[.int .i64 0, .int .i64 0, .slice none 0 0, .int .i64 0, .int .i64 0, .int .i64 0, .int .i64 0] 28)) = W0 at RA RZ BW HR ⊢
  refine (specIrOk (⟨pc, ln, ops, en, x, y, k⟩ : Bk) _ _ ⟨q, c, B, rfl, HR.out⟩).mono ?_
  rintro e u1 ⟨rfl, hb⟩
  replace RA := hide (RA.out.below hb)
  replace RZ := hide (RZ.out.below hb)
  replace HR := hide (HR.out.below hb)
  replace BW := hide (BW.out.trans (hb.mono BW.out.size))
  clear hb
  obtain ⟨bo, eo⟩ : ∃ b, okB (⟨pc, ln, ops, en, x, y, k⟩ : Bk) = b := ⟨_, rfl⟩
  rw [eo] at NO YES ⊢
  have EO := hide eo
  clear eo
  cases bo with
  | false =>
    obtain rfl := NO.out rfl
    clear NO YES EO
    go_wp2_with (refine lay7 rfl rfl _ _ rfl (w.heap.size + 1) _ _ _ _ _ _ _ RZ.out rfl _ _ _ _ _ _ _ _ _ rfl ?_; intro p1 RB TB; refine Hid.out ?_)
    replace BW := hide (BW.out.trans (TB.out.below (by omega) BW.out.size))
    have FIN := hide (nil_ow p1 (New w p1))
    clear TB RZ RA HR
    refine hide ?_
    have y0 := RB.out.cell 0 _ rfl
    have y1 := RB.out.cell 1 _ rfl
    have y2 := RB.out.cell 2 _ rfl
    have y3 := RB.out.cell 3 _ rfl
    have y4 := RB.out.cell 4 _ rfl
    have y5 := RB.out.cell 5 _ rfl
    have y6 := RB.out.cell 6 _ rfl
    go_wp2
    exact bodyPost_ret (v := .agg #[.int .i64 0, .int .i64 0, .slice none 0 0, .int .i64 0, .int .i64 0, .int .i64 0, .int .i64 0]) (by simp [results, Tryd.results39, go_sem, y0, y1, y2, y3, y4, y5, y6]) rfl ⟨_, rfl, FIN.out, BW.out⟩
  | true =>
  replace YES := hide (YES.out rfl)
  obtain ⟨h1, h2, h3, h4, h5⟩ := ok_parts EO.out
  simp only [] at h1 h2 h3 h4 h5
  have OPS := hide h4
  clear NO h4 h5
  have z0 := RA.out.cell 0 _ rfl
  have z1 := RA.out.cell 1 _ rfl
  have z2 := RA.out.cell 2 _ rfl
  have z3 := RA.out.cell 3 _ rfl
  have z4 := RA.out.cell 4 _ rfl
  have z5 := RA.out.cell 5 _ rfl
  have z6 := RA.out.cell 6 _ rfl
  go_wp2_with fail
  refine (l6Copy (⟨pc, ln, ops, en, x, y, k⟩ : Bk) q c B _ HR.out (by simp only []; omega)).mono ?_
  rintro e u2 ⟨g, c1, rfl, WO, g1, g2, hb⟩
  simp only [] at WO g1 g2
  replace WO := hide (Ow.of WO g2)
  have zl := RZ.out.lt
  have GG : Hid (w.heap.size + 1 < g ∧ g < u2.heap.size) := ⟨by omega, g2⟩
  clear zl
  replace RZ := hide (RZ.out.below hb)
  have szU := RZ.out.lt
  replace BW := hide (BW.out.trans (hb.mono BW.out.size))
  clear hb z0 z1 z2 z3 z4 z5 z6 RA HR g1 g2
  have RX := hide (Rec.new u2 [.int .i64 0, .int .i64 0, .slice none 0 0, .int .i64 0, .int .i64 0, .int .i64 0, .int .i64 0] 28)
  have bx : Below u2.heap.size u2 (u2.alloc (.cells #[.int .i64 0, .int .i64 0, .slice none 0 0, .int .i64 0, .int .i64 0, .int .i64 0, .int .i64 0] 28)) := (Below.refl _ _).alloc (Nat.le_refl _) _
  replace RZ := hide (RZ.out.below bx)
  replace WO := hide (WO.out.below bx)
  replace BW := hide (BW.out.trans (bx.mono BW.out.size))
  clear bx
  go_wp2_with (refine lay7 rfl rfl _ _ rfl u2.heap.size _ _ _ _ _ _ _ RX.out rfl _ _ _ _ _ _ _ _ _ rfl ?_; intro u3 RB TB; refine Hid.out ?_)
  replace RZ := hide (RZ.out.turn TB.out (by omega))
  replace WO := hide (WO.out.turn TB.out (by have := GG.out.2; omega))
  replace BW := hide (BW.out.trans (TB.out.below (by have := BW.out.size; have := RB.out.lt; have := GG.out.2; have := GG.out.1; omega) BW.out.size))
  have LT3 : Hid (u2.heap.size < u3.heap.size) := RB.out.lt
  clear TB RX szU
  refine hide ?_
  go_wp2
  go_loopw [4] (fun i wr => ∃ j : Nat, j ≤ ops.length ∧ i = .int .i64 j ∧ Hid (Rec u2.heap.size [.int .i64 pc, .int .i64 ln, .slice (some ⟨g, 0, none⟩) ops.length c1, .int .i64 en, .int .i64 x, .int .i64 y, .int .i64 k] wr) ∧ Hid (Rec (w.heap.size + 1) [.int .i64 0, .int .i64 0, .slice none 0 0, .int .i64 0, .int .i64 0, .int .i64 0, .int .i64 0] wr) ∧ Hid (Ow wr g ops.length c1 (constL ops j)) ∧ Hid (Below w.heap.size w wr)) (fun i _ => ops.length - (intOf i).toNat)
  case atStart => exact ⟨0, by omega, rfl, RB, RZ, WO, BW⟩
  case round =>
    clear RB RZ WO BW
    obtain ⟨j, hj, rfl, RB, RZ, WO, BW⟩ := hrel
    have x2 := RB.out.cell 2 _ rfl
    by_cases hlt : j < ops.length
    · obtain ⟨o, et⟩ : ∃ o, ops[j]? = some o := ⟨_, List.getElem?_eq_getElem (by omega)⟩
      have et2 := (constL_far ops j j (Nat.le_refl _)).trans et
      obtain ⟨c0, ca, cb, cc, cd⟩ := (WO.out.at_ j o et2).1
      have OP := hide (op_parts (OPS.out j o et))
      have NX := hide (constL_next et)
      have NN := hide (const_no et)
      have MX := WO.out.mx
      have ML := WO.out.le
      unfold maxLen at MX
      have lk : ((j : Nat) : Int) < (ops.length : Nat) := by omega
      clear et et2
      obtain ⟨kd, ox, oy, ok, ot⟩ := o
      simp only [] at c0 ca cb cc cd OP NX NN
      have RO := hide (Rec.new wr [.int .i64 kd, .int .i64 ox, .int .i64 oy, .int .i64 ok, .int .i64 ot] 41)
      have bo : Below wr.heap.size wr (wr.alloc (.cells #[.int .i64 kd, .int .i64 ox, .int .i64 oy, .int .i64 ok, .int .i64 ot] 41)) := (Below.refl _ _).alloc (Nat.le_refl _) _
      replace RB := hide (RB.out.below bo)
      replace RZ := hide (RZ.out.below bo)
      replace WO := hide (WO.out.below bo)
      replace BW := hide (BW.out.trans (bo.mono BW.out.size))
      clear bo
      have xa := RB.out.cell 2 _ rfl
      go_wp2_with fail
      clear x2 xa c0 ca cb cc cd
      generalize wr.alloc (.cells #[.int .i64 kd, .int .i64 ox, .int .i64 oy, .int .i64 ok, .int .i64 ot] 41) = w1 at RB RZ WO BW RO ⊢
      refine (l10Known (constL ops j) g _ ox _ WO.out.row).mono ?_
      rintro e v1 ⟨rfl, rfl⟩
      have x2 := RB.out.cell 2 _ rfl
      have o0 := RO.out.cell 0 _ rfl
      have o1 := RO.out.cell 1 _ rfl
      have o2 := RO.out.cell 2 _ rfl
      have o3 := RO.out.cell 3 _ rfl
      go_wp2_with fail
      refine (l10Known (constL ops j) g _ oy _ WO.out.row).mono ?_
      rintro e v2 ⟨rfl, rfl⟩
      by_cases e3 : kd = 3
      · subst e3
        cases ex : knownO (constL ops j) ox with
        | none =>
          have SM : Hid (constL ops (j + 1) = constL ops j) := NN.out (by unfold constO; simp only [if_true]; rw [ex])
          clear ex
          simp only [Option.getD_some, Option.getD_none, Option.isSome_some, Option.isSome_none]
          go_wp2
          exact ⟨⟨j + 1, by omega, by go_num, RB, RZ, hide (by rw [SM.out]; exact WO.out), BW⟩, by simp [intOf]; omega⟩
        | some px =>
          cases ey : knownO (constL ops j) oy with
          | none =>
            have SM : Hid (constL ops (j + 1) = constL ops j) := NN.out (by unfold constO; simp only [if_true]; rw [ex, ey])
            clear ex ey
            simp only [Option.getD_some, Option.getD_none, Option.isSome_some, Option.isSome_none]
            go_wp2
            exact ⟨⟨j + 1, by omega, by go_num, RB, RZ, hide (by rw [SM.out]; exact WO.out), BW⟩, by simp [intOf]; omega⟩
          | some py =>
            have SM : Hid (constL ops (j + 1) = (constL ops j).set j ⟨1, 0, 0, Wrd.wdo ok px py, 0⟩) := show _ = _ by rw [NX.out]; unfold constO; simp only [if_true]; rw [ex, ey]
            clear ex ey
            simp only [Option.getD_some, Option.getD_none, Option.isSome_some, Option.isSome_none]
            go_wp2_with fail
            refine region_tail 9 (by kernel_rfl) (by kernel_rfl) ?_
            simp only [List.take_succ_cons, List.take_zero, List.drop_succ_cons, List.drop_zero]
            repeat still_step
            still_call (Wrd.specDo ok px py _)
            repeat still_step
            refine wpStill_nil ?_
            have bd : Below v2.heap.size v2 v2.drew := (Below.refl _ _).drew
            replace RB := hide (RB.out.below bd)
            replace RZ := hide (RZ.out.below bd)
            replace WO := hide (WO.out.below bd)
            replace BW := hide (BW.out.trans (bd.mono BW.out.size))
            have SZ : Hid (w.heap.size ≤ v2.drew.heap.size) := BW.out.size
            clear bd x2 o0 o1 o2 o3 RO
            go_wp2_with (refine lay5 rfl rfl _ _ rfl g ops.length c1 j _ _ WO.out hlt (by omega) rfl _ _ _ _ _ rfl ?_; intro w3 W3 T3; refine Hid.out ?_)
            replace RB := hide (RB.out.turn T3.out (by have := GG.out; omega))
            replace RZ := hide (RZ.out.turn T3.out (by have := GG.out; omega))
            replace BW := hide (BW.out.trans (T3.out.below (by have := GG.out; omega) SZ.out))
            clear T3 WO
            refine hide ?_
            go_wp2
            exact ⟨⟨j + 1, by omega, by go_num, RB, RZ, hide (by rw [SM.out]; exact W3.out), BW⟩, by simp [intOf]; omega⟩
      · have SM : Hid (constL ops (j + 1) = constL ops j) := NN.out (by unfold constO; exact if_neg e3)
        have n3 : (kd == 3) = false := beq_eq_false_iff_ne.2 e3
        clear e3
        go_wp2
        exact ⟨⟨j + 1, by omega, by go_num, RB, RZ, hide (by rw [SM.out]; exact WO.out), BW⟩, by simp [intOf]; omega⟩
    · have lk : ¬ ((j : Nat) : Int) < (ops.length : Nat) := by omega
      have ej : j = ops.length := by omega
      obtain ⟨K, eK⟩ : ∃ K, constL ops ops.length = K := ⟨_, rfl⟩
      have lK : K.length = ops.length := by rw [← eK, constL_len]
      have YE : Hid (R = foldB ⟨pc, ln, K, en, x, y, k⟩) := show _ = _ by rw [← eK]; exact YES.out
      rw [ej, eK] at WO
      clear YES eK
      have F := hide (l10Fold ⟨pc, ln, K, en, x, y, k⟩ (some ⟨g, 0, none⟩) c1 g wr (by simp only [lK]; exact WO.out.row) h2.1 (by simp only []; omega) (by simp only []; omega) h1.2)
      simp only [lK] at F
      clear lK
      have z0 := RB.out.cell 0 _ rfl
      have z1 := RB.out.cell 1 _ rfl
      have z2 := RB.out.cell 2 _ rfl
      have z3 := RB.out.cell 3 _ rfl
      have z4 := RB.out.cell 4 _ rfl
      have z5 := RB.out.cell 5 _ rfl
      have z6 := RB.out.cell 6 _ rfl
      go_wp2_with fail
      refine F.out.mono ?_
      rintro e u4 ⟨rfl, hb⟩
      clear z0 z1 z2 z3 z4 z5 z6
      replace RZ := hide (RZ.out.below hb)
      replace WO := hide (WO.out.below hb)
      replace BW := hide (BW.out.trans (hb.mono BW.out.size))
      clear hb RB F
      go_wp2_with (refine lay7 rfl rfl _ _ rfl (w.heap.size + 1) _ _ _ _ _ _ _ RZ.out rfl _ _ _ _ _ _ _ _ _ rfl ?_; intro p1 R1 TB; refine Hid.out ?_)
      replace BW := hide (BW.out.trans (TB.out.below (by omega) BW.out.size))
      replace WO := hide (WO.out.turn TB.out (by have := GG.out; omega))
      clear TB RZ
      refine hide ?_
      have y0 := R1.out.cell 0 _ rfl
      have y1 := R1.out.cell 1 _ rfl
      have y2 := R1.out.cell 2 _ rfl
      have y3 := R1.out.cell 3 _ rfl
      have y4 := R1.out.cell 4 _ rfl
      have y5 := R1.out.cell 5 _ rfl
      have y6 := R1.out.cell 6 _ rfl
      go_wp2
      exact bodyPost_ret (v := .agg #[.int .i64 (foldB ⟨pc, ln, K, en, x, y, k⟩).pc, .int .i64 (foldB ⟨pc, ln, K, en, x, y, k⟩).ln, .slice (some ⟨g, 0, none⟩) ops.length c1, .int .i64 (foldB ⟨pc, ln, K, en, x, y, k⟩).en, .int .i64 (foldB ⟨pc, ln, K, en, x, y, k⟩).x, .int .i64 (foldB ⟨pc, ln, K, en, x, y, k⟩).y, .int .i64 (foldB ⟨pc, ln, K, en, x, y, k⟩).k]) (by simp [results, Tryd.results39, go_sem, y0, y1, y2, y3, y4, y5, y6]) rfl ⟨_, rfl, by
        rw [YE.out]
        exact Ow.told (b := foldB ⟨pc, ln, K, en, x, y, k⟩) (n := ops.length) (by rw [fold_ops]; exact WO.out) ⟨by have := GG.out; omega, WO.out.lt⟩, BW.out⟩

end Go.Proofs.YtflhehofgplcoaaDoor.Op
