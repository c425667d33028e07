/-
  Our own hand, the specification's OptCopy.
-/
import Derived.Test.YtflhehofgplcoaaDoorOsD
namespace Go.Proofs.YtflhehofgplcoaaDoor.Op
set_option linter.unusedVariables false
set_option linter.unusedSimpArgs false
open Go.ChangeShapes Go.WideShapes Go.ChangeAt Go.RowKit IntS Flat Irk
open Ir Dt
open Mch (Rec)
theorem getD_of {l : List Int} {m : Nat} {v : Int} (h : l[m]? = some v) : atL l (m : Int) = v := atL_get h
theorem l10Alias (o : Opn) (al : List Int) (B : Nat) (v : Value) (w : World) (h : Row w B v al) (hB : B < w.heap.size ∨ al = []) (hk : 1 ≤ o.kd ∧ o.kd ≤ 8) (hX : mvX o.kd = true → ∃ m : Nat, o.x = m ∧ m < al.length) (hY : mvY o.kd = true → ∃ m : Nat, o.y = m ∧ m < al.length) :
    Calls Tryd.prog 45 #[.agg #[.int .i64 o.kd, .int .i64 o.x, .int .i64 o.y, .int .i64 o.k, .int .i64 o.t], v] w fun e w' => e = .returned (.agg #[.int .i64 (aliasO o al).kd, .int .i64 (aliasO o al).x, .int .i64 (aliasO o al).y, .int .i64 (aliasO o al).k, .int .i64 (aliasO o al).t]) ∧ Below w.heap.size w w' := by
  obtain ⟨kd, x, y, k, t⟩ := o
  simp only [] at hk hX hY ⊢
  have : kd = 1 ∨ kd = 2 ∨ kd = 3 ∨ kd = 4 ∨ kd = 5 ∨ kd = 6 ∨ kd = 7 ∨ kd = 8 := by omega
  unfold aliasO
  rcases this with rfl | rfl | rfl | rfl | rfl | rfl | rfl | rfl
  · simp only [show mvX 1 = false from rfl, show mvY 1 = false from rfl, if_true, Bool.false_eq_true, if_false]
    exact l10Alias1 k t x y al B v w h hB
  · simp only [show mvX 2 = false from rfl, show mvY 2 = false from rfl, if_true, Bool.false_eq_true, if_false]
    exact l10Alias2 k t x y al B v w h hB
  · obtain ⟨mx, rfl, lx⟩ := hX (by decide)
    have ex := List.getElem?_eq_getElem lx
    obtain ⟨my, rfl, ly⟩ := hY (by decide)
    have ey := List.getElem?_eq_getElem ly
    simp only [show mvX 3 = true from rfl, show mvY 3 = true from rfl, if_true, Bool.false_eq_true, if_false]
    rw [atL_get ex]
    rw [atL_get ey]
    exact l10Alias3 k t mx al[mx] my al[my] al B v w h hB ex ey
  · obtain ⟨mx, rfl, lx⟩ := hX (by decide)
    have ex := List.getElem?_eq_getElem lx
    simp only [show mvX 4 = true from rfl, show mvY 4 = false from rfl, if_true, Bool.false_eq_true, if_false]
    rw [atL_get ex]
    exact l10Alias4 k t mx al[mx] y al B v w h hB ex
  · obtain ⟨mx, rfl, lx⟩ := hX (by decide)
    have ex := List.getElem?_eq_getElem lx
    obtain ⟨my, rfl, ly⟩ := hY (by decide)
    have ey := List.getElem?_eq_getElem ly
    simp only [show mvX 5 = true from rfl, show mvY 5 = true from rfl, if_true, Bool.false_eq_true, if_false]
    rw [atL_get ex]
    rw [atL_get ey]
    exact l10Alias5 k t mx al[mx] my al[my] al B v w h hB ex ey
  · simp only [show mvX 6 = false from rfl, show mvY 6 = false from rfl, if_true, Bool.false_eq_true, if_false]
    exact l10Alias6 k t x y al B v w h hB
  · obtain ⟨mx, rfl, lx⟩ := hX (by decide)
    have ex := List.getElem?_eq_getElem lx
    simp only [show mvX 7 = true from rfl, show mvY 7 = false from rfl, if_true, Bool.false_eq_true, if_false]
    rw [atL_get ex]
    exact l10Alias7 k t mx al[mx] y al B v w h hB ex
  · obtain ⟨mx, rfl, lx⟩ := hX (by decide)
    have ex := List.getElem?_eq_getElem lx
    simp only [show mvX 8 = true from rfl, show mvY 8 = false from rfl, if_true, Bool.false_eq_true, if_false]
    rw [atL_get ex]
    exact l10Alias8 k t mx al[mx] y al B v w h hB ex
/-- What was taken so far, and the others as they were. -/
def mixC (ops : List Opn) (j : Nat) : List Opn := (copyS ops j).ops ++ ops.drop j
theorem mix_at {ops : List Opn} {j : Nat} {o : Opn} (h : ops[j]? = some o) : (mixC ops j)[j]? = some o := by
  have hj := (List.getElem?_eq_some_iff.1 h).1
  obtain ⟨l1, _, _⟩ := copyS_len ops j (by omega)
  unfold mixC
  rw [List.getElem?_append_right (by omega), l1, List.getElem?_drop]
  simpa using h
theorem mix_next {ops : List Opn} {j : Nat} {o : Opn} (h : ops[j]? = some o) : mixC ops (j + 1) = (mixC ops j).set j (aliasO o (copyS ops j).al) := by
  have hj := (List.getElem?_eq_some_iff.1 h).1
  obtain ⟨l1, _, _⟩ := copyS_len ops j (by omega)
  unfold mixC
  rw [copyS_next h, List.set_append_right _ _ (by omega), l1]
  rw [Nat.sub_self, List.drop_eq_getElem_cons hj, List.set_cons_zero, List.append_assoc]
  rfl
theorem mix_end (ops : List Opn) : mixC ops ops.length = (copyS ops ops.length).ops := by unfold mixC; simp
theorem vals_set (la : List Int) (r : Nat) (v : Int) : (vals la).set r (.int .i64 v) = vals (la.set r v) := by simp [vals, List.map_set]
theorem alias_in {b : Bk} (h : okB b = true) {j : Nat} (hj : j ≤ b.ops.length) {k : Int} (hv : valB (b.ops.take j) k = true) : ∃ m : Nat, k = m ∧ m < j := by
  obtain ⟨m, o, e, h1, _⟩ := val_take hv
  exact ⟨m, e, h1⟩
set_option maxRecDepth 8000 in
set_option maxHeartbeats 16000000 in
theorem specCopy (b : Bk) (cs : List Value) (w : World) (h : RBk w cs b) :
    Calls Tryd.prog 40 #[.agg cs.toArray] w fun e w' => ∃ cs', e = .returned (.agg cs'.toArray) ∧ blkR.ow w' (New w w') cs' (toT (copyB b)) ∧ Below w.heap.size w w' := by
  obtain ⟨q, c, B, rfl, hr⟩ := h
  obtain ⟨pc, ln, ops, en, x, y, k⟩ := b
  simp only [bv] at *
  obtain ⟨r1, r2, b0⟩ := boxes w (.int .i64 pc) (.int .i64 ln) (.slice q ops.length c) (.int .i64 en) (.int .i64 x) (.int .i64 y) (.int .i64 k)
  have RA := hide r1
  have RZ := hide r2
  have BW := hide b0
  have HR := hide (hr.below b0)
  have NO : Hid (okB (⟨pc, ln, ops, en, x, y, k⟩ : Bk) = false → copyB (⟨pc, ln, ops, en, x, y, k⟩ : Bk) = nilB) := fun e => by show copyB _ = _; unfold copyB; rw [e]; rfl
  have YES : Hid (okB (⟨pc, ln, ops, en, x, y, k⟩ : Bk) = true → copyB (⟨pc, ln, ops, en, x, y, k⟩ : Bk) = endO (⟨pc, ln, ops, en, x, y, k⟩ : Bk) (copyS ops ops.length).ops (copyS ops ops.length).al) := fun e => by show copyB _ = _; unfold copyB; rw [if_pos e]
  obtain ⟨R, eR⟩ : ∃ R, copyB (⟨pc, ln, ops, en, x, y, k⟩ : Bk) = R := ⟨_, rfl⟩
  rw [eR] at NO YES ⊢
  clear r1 r2 b0 hr eR
  go_enter Tryd.func40, Tryd.ntmps40
  go_wp2_with fail
  generalize ((w.alloc (.cells #[.int .i64 pc, .int .i64 ln, .slice q ops.length c, .int .i64 en, .int .i64 x, .int .i64 y, .int .i64 k] 28)).alloc (.cells #[.int .i64 0, .int .i64 0, .slice none 0 0, .int .i64 0, .int .i64 0, .int .i64 0, .int .i64 0] 28)) = W0 at RA RZ BW HR ⊢
  refine (specIrOk (⟨pc, ln, ops, en, x, y, k⟩ : Bk) _ _ ⟨q, c, B, rfl, HR.out⟩).mono ?_
  rintro e u1 ⟨rfl, hb⟩
  replace RA := hide (RA.out.below hb)
  replace RZ := hide (RZ.out.below hb)
  replace HR := hide (HR.out.below hb)
  replace BW := hide (BW.out.trans (hb.mono BW.out.size))
  clear hb
  obtain ⟨bo, eo⟩ : ∃ b, okB (⟨pc, ln, ops, en, x, y, k⟩ : Bk) = b := ⟨_, rfl⟩
  rw [eo] at NO YES ⊢
  have EO := hide eo
  clear eo
  cases bo with
  | false =>
    obtain rfl := NO.out rfl
    clear NO YES EO
    go_wp2_with (refine lay7 rfl rfl _ _ rfl (w.heap.size + 1) _ _ _ _ _ _ _ RZ.out rfl _ _ _ _ _ _ _ _ _ rfl ?_; intro p1 RB TB; refine Hid.out ?_)
    replace BW := hide (BW.out.trans (TB.out.below (by omega) BW.out.size))
    have FIN := hide (nil_ow p1 (New w p1))
    clear TB RZ RA HR
    refine hide ?_
    have y0 := RB.out.cell 0 _ rfl
    have y1 := RB.out.cell 1 _ rfl
    have y2 := RB.out.cell 2 _ rfl
    have y3 := RB.out.cell 3 _ rfl
    have y4 := RB.out.cell 4 _ rfl
    have y5 := RB.out.cell 5 _ rfl
    have y6 := RB.out.cell 6 _ rfl
    go_wp2
    exact bodyPost_ret (v := .agg #[.int .i64 0, .int .i64 0, .slice none 0 0, .int .i64 0, .int .i64 0, .int .i64 0, .int .i64 0]) (by simp [results, Tryd.results40, go_sem, y0, y1, y2, y3, y4, y5, y6]) rfl ⟨_, rfl, FIN.out, BW.out⟩
  | true =>
  replace YES := hide (YES.out rfl)
  obtain ⟨h1, h2, h3, h4, h5⟩ := ok_parts EO.out
  simp only [] at h1 h2 h3 h4 h5
  have OPS := hide h4
  have END := hide h5
  clear NO h4 h5
  have z0 := RA.out.cell 0 _ rfl
  have z1 := RA.out.cell 1 _ rfl
  have z2 := RA.out.cell 2 _ rfl
  have z3 := RA.out.cell 3 _ rfl
  have z4 := RA.out.cell 4 _ rfl
  have z5 := RA.out.cell 5 _ rfl
  have z6 := RA.out.cell 6 _ rfl
  go_wp2_with fail
  refine (l6Copy (⟨pc, ln, ops, en, x, y, k⟩ : Bk) q c B _ HR.out (by simp only []; omega)).mono ?_
  rintro e u2 ⟨g, c1, rfl, WO, g1, g2, hb⟩
  simp only [] at WO g1 g2
  replace WO := hide (Ow.of WO g2)
  have zl := RZ.out.lt
  have GG : Hid (w.heap.size + 1 < g ∧ g < u2.heap.size) := ⟨by omega, g2⟩
  clear zl
  replace RZ := hide (RZ.out.below hb)
  have szU := RZ.out.lt
  replace BW := hide (BW.out.trans (hb.mono BW.out.size))
  clear hb z0 z1 z2 z3 z4 z5 z6 RA HR g1 g2
  have RX := hide (Rec.new u2 [.int .i64 0, .int .i64 0, .slice none 0 0, .int .i64 0, .int .i64 0, .int .i64 0, .int .i64 0] 28)
  have bx : Below u2.heap.size u2 (u2.alloc (.cells #[.int .i64 0, .int .i64 0, .slice none 0 0, .int .i64 0, .int .i64 0, .int .i64 0, .int .i64 0] 28)) := (Below.refl _ _).alloc (Nat.le_refl _) _
  replace RZ := hide (RZ.out.below bx)
  replace WO := hide (WO.out.below bx)
  replace BW := hide (BW.out.trans (bx.mono BW.out.size))
  clear bx
  go_wp2_with (refine lay7 rfl rfl _ _ rfl u2.heap.size _ _ _ _ _ _ _ RX.out rfl _ _ _ _ _ _ _ _ _ rfl ?_; intro u3 RB TB; refine Hid.out ?_)
  replace RZ := hide (RZ.out.turn TB.out (by omega))
  replace WO := hide (WO.out.turn TB.out (by have := GG.out.2; omega))
  replace BW := hide (BW.out.trans (TB.out.below (by have := BW.out.size; have := RB.out.lt; have := GG.out.2; have := GG.out.1; omega) BW.out.size))
  have LT3 : Hid (u2.heap.size < u3.heap.size) := RB.out.lt
  have SW3 : Hid (w.heap.size ≤ u3.heap.size) := BW.out.size
  clear TB RX szU
  have s1 : (u3.alloc (.cells #[] 3)).heap.size = u3.heap.size + 1 := by simp
  have b1 : Below (u3.alloc (.cells #[] 3)).heap.size (u3.alloc (.cells #[] 3)) ((u3.alloc (.cells #[] 3)).alloc (.cells #[.int .i64 (-1), .int .i64 (-1), .int .i64 (-1), .int .i64 (-1)] 3)) := (Below.refl _ _).alloc (Nat.le_refl _) _
  have bE : Below u3.heap.size u3 ((u3.alloc (.cells #[] 3)).alloc (.cells #[.int .i64 (-1), .int .i64 (-1), .int .i64 (-1), .int .i64 (-1)] 3)) := ((Below.refl _ _).alloc (Nat.le_refl _) _).alloc (by simp) _
  have ow := (own_empty (w := (u3.alloc (.cells #[] 3))) (g := u3.heap.size) (heap_last rfl)).turn (B := u3.heap.size + 1) (Turn.of_below b1) (by omega) (by omega)
  have rl := Rec.new (u3.alloc (.cells #[] 3)) [.int .i64 (-1), .int .i64 (-1), .int .i64 (-1), .int .i64 (-1)] 3
  rw [s1] at rl
  have OA := hide ow
  have RL : Hid (Rec (u3.heap.size + 1) (vals [-1, -1, -1, -1]) ((u3.alloc (.cells #[] 3)).alloc (.cells #[.int .i64 (-1), .int .i64 (-1), .int .i64 (-1), .int .i64 (-1)] 3))) := rl
  replace RB := hide (RB.out.below bE)
  replace RZ := hide (RZ.out.below bE)
  replace WO := hide (WO.out.below bE)
  replace BW := hide (BW.out.trans (bE.mono BW.out.size))
  clear s1 b1 bE ow rl
  refine hide ?_
  go_wp2
  generalize ((u3.alloc (.cells #[] 3)).alloc (.cells #[.int .i64 (-1), .int .i64 (-1), .int .i64 (-1), .int .i64 (-1)] 3)) = V2 at OA RL RB RZ WO BW ⊢
  go_loopw [4, 6] (fun s i wr => ∃ (j ga ca : Nat) (al : List Int), j ≤ ops.length ∧ i = .int .i64 j ∧ s = .slice (some ⟨ga, 0, none⟩) al.length ca ∧ Hid (al = (copyS ops j).al) ∧ Hid (Own wr u3.heap.size (.slice (some ⟨ga, 0, none⟩) al.length ca) al) ∧ Hid (ga ≠ u3.heap.size + 1) ∧ Hid (Rec (u3.heap.size + 1) (vals (copyS ops j).la) wr) ∧ Hid (Rec u2.heap.size [.int .i64 pc, .int .i64 ln, .slice (some ⟨g, 0, none⟩) ops.length c1, .int .i64 en, .int .i64 x, .int .i64 y, .int .i64 k] wr) ∧ Hid (Rec (w.heap.size + 1) [.int .i64 0, .int .i64 0, .slice none 0 0, .int .i64 0, .int .i64 0, .int .i64 0, .int .i64 0] wr) ∧ Hid (Ow wr g ops.length c1 (mixC ops j)) ∧ Hid (Below w.heap.size w wr)) (fun _ i _ => ops.length - (intOf i).toNat)
  case atStart => exact ⟨0, u3.heap.size, 0, [], by omega, rfl, rfl, rfl, OA, (by show _ ≠ _; omega), RL, RB, RZ, WO, BW⟩
  case round =>
    clear OA RL RB RZ WO BW
    obtain ⟨j, ga, ca, al, hj, rfl, rfl, AL, OA, NE, RL, RB, RZ, WO, BW⟩ := hrel
    have x2 := RB.out.cell 2 _ rfl
    obtain ⟨l1, l2, l3⟩ := copyS_len ops j (by omega)
    obtain ⟨ga', ca', ef, gb, gl, WR⟩ := OA.out.form (fun e => by cases e)
    cases ef
    have GA : Hid (u3.heap.size ≤ ga ∧ ga < wr.heap.size) := ⟨gb, gl⟩
    have RW := hide WR
    have AL2 : Hid (al.length = j) := show _ = _ by rw [AL.out]; exact l2
    clear gb gl WR l2
    by_cases hlt : j < ops.length
    · obtain ⟨o, et⟩ : ∃ o, ops[j]? = some o := ⟨_, List.getElem?_eq_getElem (by omega)⟩
      have et2 := mix_at et
      obtain ⟨c0, ca_, cb, cc, cd⟩ := (WO.out.at_ j o et2).1
      have OP := op_parts (OPS.out j o et)
      have LC := hide (l10Alias o al ga _ wr RW.out.row (Or.inl GA.out.2) OP.1 (fun hx => by rw [AL2.out]; obtain ⟨m, _, e, h1, _⟩ := val_take (OP.2.1 hx); exact ⟨m, e, h1⟩) (fun hy => by rw [AL2.out]; obtain ⟨m, _, e, h1, _⟩ := val_take (OP.2.2.2.1 hy); exact ⟨m, e, h1⟩))
      have NX := hide (copyS_next et)
      have MN := hide (mix_next et)
      have KR : Hid (o.kd = 2 ∨ o.kd = 8 → 0 ≤ o.k ∧ o.k ≤ 3) := OP.2.2.2.2.2.1
      rw [← AL.out] at NX MN
      have KD : (aliasO o al).kd = o.kd := rfl
      have KK : (aliasO o al).k = o.k := rfl
      obtain ⟨O, eO⟩ : ∃ O, aliasO o al = O := ⟨_, rfl⟩
      rw [eO] at LC NX MN KD KK
      rw [← KD, ← KK] at KR
      obtain ⟨kd, ox, oy, ok, ot⟩ := O
      simp only [] at LC NX MN KR
      have MX := WO.out.mx
      have ML := WO.out.le
      unfold maxLen at MX
      have lk : ((j : Nat) : Int) < (ops.length : Nat) := by omega
      clear et et2 OP eO KD KK
      go_wp2_with fail
      refine LC.out.mono ?_
      rintro e v1 ⟨rfl, hb⟩
      clear c0 ca_ cb cc cd LC x2
      replace OA := hide (OA.out.turn (B := ga + 1) (Turn.of_below hb) (by omega) GA.out.2)
      replace RL := hide (RL.out.below hb)
      replace RB := hide (RB.out.below hb)
      replace RZ := hide (RZ.out.below hb)
      replace WO := hide (WO.out.below hb)
      replace BW := hide (BW.out.trans (hb.mono BW.out.size))
      replace GA : Hid (u3.heap.size ≤ ga ∧ ga < v1.heap.size) := ⟨GA.out.1, Nat.lt_of_lt_of_le GA.out.2 hb.size⟩
      clear hb RW
      have bo : Below v1.heap.size v1 (v1.alloc (.cells #[.int .i64 kd, .int .i64 ox, .int .i64 oy, .int .i64 ok, .int .i64 ot] 41)) := (Below.refl _ _).alloc (Nat.le_refl _) _
      have RO := hide (Rec.new v1 [.int .i64 kd, .int .i64 ox, .int .i64 oy, .int .i64 ok, .int .i64 ot] 41)
      have LO : Hid (g < v1.heap.size ∧ u2.heap.size < v1.heap.size ∧ w.heap.size + 1 < v1.heap.size ∧ u3.heap.size + 1 < v1.heap.size) := ⟨WO.out.lt, RB.out.lt, RZ.out.lt, RL.out.lt⟩
      replace OA := hide (OA.out.turn (B := ga + 1) (Turn.of_below bo) (by omega) GA.out.2)
      replace RL := hide (RL.out.below bo)
      replace RB := hide (RB.out.below bo)
      replace RZ := hide (RZ.out.below bo)
      replace WO := hide (WO.out.below bo)
      replace BW := hide (BW.out.trans (bo.mono BW.out.size))
      have xa := RB.out.cell 2 _ rfl
      have GS : Hid (ga < (v1.alloc (.cells #[.int .i64 kd, .int .i64 ox, .int .i64 oy, .int .i64 ok, .int .i64 ot] 41)).heap.size) := Nat.lt_of_lt_of_le GA.out.2 bo.size
      have SZ : Hid (w.heap.size ≤ (v1.alloc (.cells #[.int .i64 kd, .int .i64 ox, .int .i64 oy, .int .i64 ok, .int .i64 ot] 41)).heap.size) := BW.out.size
      clear bo
      go_wp2_with (refine lay5 rfl rfl _ _ rfl g ops.length c1 j _ _ WO.out hlt (by omega) rfl _ _ _ _ _ rfl ?_; intro w3 W3 T3; refine Hid.out ?_)
      have gga : g ≠ ga := by have := GA.out; have := GG.out; have := LT3.out; omega
      replace OA := hide (OA.out.turn T3.out (fun e => gga e.symm) GS.out)
      replace RL := hide (RL.out.turn T3.out (by have := GG.out; have := LT3.out; omega))
      replace RB := hide (RB.out.turn T3.out (by have := GG.out; omega))
      replace RZ := hide (RZ.out.turn T3.out (by have := GG.out; omega))
      replace RO := hide (RO.out.turn T3.out (by have := LO.out; omega))
      replace BW := hide (BW.out.trans (T3.out.below (by have := GG.out; omega) SZ.out))
      replace W3 : Hid (Ow w3 g ops.length c1 (mixC ops (j + 1))) := by rw [MN.out]; exact W3.out
      replace GS : Hid (ga < w3.heap.size) := Nat.lt_of_lt_of_le GS.out T3.out.size
      obtain ⟨la, ela⟩ : ∃ la, (copyS ops j).la = la := ⟨_, rfl⟩
      rw [ela] at RL NX l3
      clear T3 WO xa SZ gga ela MN
      refine hide ?_
      have o0 := RO.out.cell 0 _ rfl
      have o1 := RO.out.cell 1 _ rfl
      have o3 := RO.out.cell 3 _ rfl
      have reg : (kd = 2 ∨ kd = 8) → ∃ r : Nat, ok = r ∧ r < 4 := fun h => by have := KR.out h; exact ⟨ok.toNat, by omega, by omega⟩
      by_cases e2 : kd = 2
      · subst e2
        obtain ⟨r, rfl, r4⟩ := reg (Or.inl rfl)
        have r4i : ((r : Nat) : Int) < 4 := by omega
        obtain ⟨vr, er⟩ : ∃ v, la[r]? = some v := ⟨_, List.getElem?_eq_getElem (by omega)⟩
        have cl := RL.out.cell r (.int .i64 vr) (by simp [vals, er])
        have fl := RL.out.soft r
        have AT := atL_get er
        clear reg KR
        by_cases hv : 0 ≤ vr
        · have tS := (Turn.refl (u3.heap.size + 1) w3).setCell (p := ⟨u3.heap.size + 1, r, none⟩) rfl (.int .i64 vr)
          have RL2 : Rec (u3.heap.size + 1) (vals (la.set r vr)) (w3.setCell ⟨u3.heap.size + 1, r, none⟩ (.int .i64 vr)) := by
            have := RL.out.set r (.int .i64 vr) (by rw [vals_len]; omega) rfl
            rw [vals_set] at this
            exact this
          have OA2 := OA.out.turn tS NE.out GS.out
          have RB2 := RB.out.turn tS (by have := LT3.out; omega)
          have RZ2 := RZ.out.turn tS (by have := GG.out; have := LT3.out; omega)
          have WO2 := W3.out.turn tS (by have := GG.out; have := LT3.out; omega)
          have BW2 := BW.out.trans (tS.below (by have := SW3.out; omega) BW.out.size)
          have GS2 := Nat.lt_of_lt_of_le GS.out tS.size
          have LX2 := Nat.lt_of_lt_of_le RL.out.lt tS.size
          have RO2 := RO.out.turn tS (by have := LO.out; omega)
          have o0b := RO2.cell 0 _ rfl
          have o1b := RO2.cell 1 _ rfl
          have o3b := RO2.cell 3 _ rfl
          clear RO2
          have bP : Below (w3.setCell ⟨u3.heap.size + 1, r, none⟩ (.int .i64 vr)).heap.size (w3.setCell ⟨u3.heap.size + 1, r, none⟩ (.int .i64 vr)) ((w3.setCell ⟨u3.heap.size + 1, r, none⟩ (.int .i64 vr)).alloc (.cells #[.int .i64 vr] 3)) := (Below.refl _ _).alloc (Nat.le_refl _) _
          have OA3 := hide (OA2.turn (B := ga + 1) (Turn.of_below bP) (by omega) GS2)
          have RL3 := hide (RL2.below bP)
          have RB3 := hide (RB2.below bP)
          have RZ3 := hide (RZ2.below bP)
          have WO3 := hide (WO2.below bP)
          have BW3 := hide (BW2.trans (bP.mono BW2.size))
          have NB := hide ((Rec.new (w3.setCell ⟨u3.heap.size + 1, r, none⟩ (.int .i64 vr)) [.int .i64 vr] 3).cell 0 _ rfl)
          have GS3 : Hid (ga < ((w3.setCell ⟨u3.heap.size + 1, r, none⟩ (.int .i64 vr)).alloc (.cells #[.int .i64 vr] 3)).heap.size) := Nat.lt_of_lt_of_le GS2 bP.size
          have LW3 : Hid (u3.heap.size ≤ ((w3.setCell ⟨u3.heap.size + 1, r, none⟩ (.int .i64 vr)).alloc (.cells #[.int .i64 vr] 3)).heap.size) := Nat.le_trans (Nat.le_of_lt (Nat.lt_of_succ_lt LX2)) bP.size
          have LX3 : Hid (u3.heap.size + 1 < ((w3.setCell ⟨u3.heap.size + 1, r, none⟩ (.int .i64 vr)).alloc (.cells #[.int .i64 vr] 3)).heap.size) := Nat.lt_of_lt_of_le LX2 bP.size
          rw [show (w3.setCell ⟨u3.heap.size + 1, r, none⟩ (.int .i64 vr)).heap.size = w3.heap.size by simp] at NB
          clear bP RL2 OA2 RB2 RZ2 WO2 BW2 GS2 LX2 tS
          clear OA RL RB RZ W3 BW GS RO
          go_wp2_with (at_builtin; refine wpList_push rfl _ _ rfl u3.heap.size ga ca al rfl OA3.out LW3.out ⟨w3.heap.size, 0, none⟩ (vr) rfl NB.out (by have := AL2.out; omega) ?_; intro g' cap' w4 O4 G4 L4 T4; refine Hid.out ?_)
          have O5 := hide O4
          have RL5 := hide (RL3.out.turn T4 (fun e => NE.out e.symm))
          have RB5 := hide (RB3.out.turn T4 (by have := GA.out; have := LT3.out; omega))
          have RZ5 := hide (RZ3.out.turn T4 (by have := GA.out; have := SW3.out; have := LT3.out; have := GG.out; omega))
          have WO5 := hide (WO3.out.turn T4 (by have := GA.out; have := GG.out; have := LT3.out; omega))
          have BW5 := hide (BW3.out.trans (T4.below (by have := GA.out; have := SW3.out; omega) BW3.out.size))
          have NE5 : Hid (g' ≠ u3.heap.size + 1) := show _ ≠ _ by
            rcases G4 with rfl | h9
            · exact NE.out
            · have := LX3.out; omega
          have SA : sameO ⟨2, ox, oy, (r : Int), ot⟩ la j = vr := by unfold sameO; simp only []; rw [AT, if_pos ⟨by trivial, hv⟩]
          have SB : lastO ⟨2, ox, oy, (r : Int), ot⟩ la (sameO ⟨2, ox, oy, (r : Int), ot⟩ la j) = la.set r vr := by rw [SA]; unfold lastO; simp only [if_true, Int.toNat_natCast]
          have AL5 : Hid (al ++ [vr] = (copyS ops (j + 1)).al) := show _ = _ by rw [NX.out, SA]
          have RL6 : Hid (Rec (u3.heap.size + 1) (vals (copyS ops (j + 1)).la) w4) := by rw [NX.out, SB]; exact RL5.out
          clear O4 G4 L4 T4 SA SB NX RL5 RL3 RB3 RZ3 WO3 BW3 OA3 NB GS3 LW3 LX3 GA NE
          refine hide ?_
          go_wp2
          exact ⟨⟨j + 1, g', cap', al ++ [vr], by omega, by go_num, by simp, AL5, O5, NE5, RL6, RB5, RZ5, WO5, BW5⟩, by simp [intOf]; omega⟩
        · have tS := (Turn.refl (u3.heap.size + 1) w3).setCell (p := ⟨u3.heap.size + 1, r, none⟩) rfl (.int .i64 (j : Int))
          have RL2 : Rec (u3.heap.size + 1) (vals (la.set r (j : Int))) (w3.setCell ⟨u3.heap.size + 1, r, none⟩ (.int .i64 (j : Int))) := by
            have := RL.out.set r (.int .i64 (j : Int)) (by rw [vals_len]; omega) rfl
            rw [vals_set] at this
            exact this
          have OA2 := OA.out.turn tS NE.out GS.out
          have RB2 := RB.out.turn tS (by have := LT3.out; omega)
          have RZ2 := RZ.out.turn tS (by have := GG.out; have := LT3.out; omega)
          have WO2 := W3.out.turn tS (by have := GG.out; have := LT3.out; omega)
          have BW2 := BW.out.trans (tS.below (by have := SW3.out; omega) BW.out.size)
          have GS2 := Nat.lt_of_lt_of_le GS.out tS.size
          have LX2 := Nat.lt_of_lt_of_le RL.out.lt tS.size
          have RO2 := RO.out.turn tS (by have := LO.out; omega)
          have o0b := RO2.cell 0 _ rfl
          have o1b := RO2.cell 1 _ rfl
          have o3b := RO2.cell 3 _ rfl
          clear RO2
          have bP : Below (w3.setCell ⟨u3.heap.size + 1, r, none⟩ (.int .i64 (j : Int))).heap.size (w3.setCell ⟨u3.heap.size + 1, r, none⟩ (.int .i64 (j : Int))) ((w3.setCell ⟨u3.heap.size + 1, r, none⟩ (.int .i64 (j : Int))).alloc (.cells #[.int .i64 (j : Int)] 3)) := (Below.refl _ _).alloc (Nat.le_refl _) _
          have OA3 := hide (OA2.turn (B := ga + 1) (Turn.of_below bP) (by omega) GS2)
          have RL3 := hide (RL2.below bP)
          have RB3 := hide (RB2.below bP)
          have RZ3 := hide (RZ2.below bP)
          have WO3 := hide (WO2.below bP)
          have BW3 := hide (BW2.trans (bP.mono BW2.size))
          have NB := hide ((Rec.new (w3.setCell ⟨u3.heap.size + 1, r, none⟩ (.int .i64 (j : Int))) [.int .i64 (j : Int)] 3).cell 0 _ rfl)
          have GS3 : Hid (ga < ((w3.setCell ⟨u3.heap.size + 1, r, none⟩ (.int .i64 (j : Int))).alloc (.cells #[.int .i64 (j : Int)] 3)).heap.size) := Nat.lt_of_lt_of_le GS2 bP.size
          have LW3 : Hid (u3.heap.size ≤ ((w3.setCell ⟨u3.heap.size + 1, r, none⟩ (.int .i64 (j : Int))).alloc (.cells #[.int .i64 (j : Int)] 3)).heap.size) := Nat.le_trans (Nat.le_of_lt (Nat.lt_of_succ_lt LX2)) bP.size
          have LX3 : Hid (u3.heap.size + 1 < ((w3.setCell ⟨u3.heap.size + 1, r, none⟩ (.int .i64 (j : Int))).alloc (.cells #[.int .i64 (j : Int)] 3)).heap.size) := Nat.lt_of_lt_of_le LX2 bP.size
          rw [show (w3.setCell ⟨u3.heap.size + 1, r, none⟩ (.int .i64 (j : Int))).heap.size = w3.heap.size by simp] at NB
          clear bP RL2 OA2 RB2 RZ2 WO2 BW2 GS2 LX2 tS
          clear OA RL RB RZ W3 BW GS RO
          go_wp2_with (at_builtin; refine wpList_push rfl _ _ rfl u3.heap.size ga ca al rfl OA3.out LW3.out ⟨w3.heap.size, 0, none⟩ ((j : Int)) rfl NB.out (by have := AL2.out; omega) ?_; intro g' cap' w4 O4 G4 L4 T4; refine Hid.out ?_)
          have O5 := hide O4
          have RL5 := hide (RL3.out.turn T4 (fun e => NE.out e.symm))
          have RB5 := hide (RB3.out.turn T4 (by have := GA.out; have := LT3.out; omega))
          have RZ5 := hide (RZ3.out.turn T4 (by have := GA.out; have := SW3.out; have := LT3.out; have := GG.out; omega))
          have WO5 := hide (WO3.out.turn T4 (by have := GA.out; have := GG.out; have := LT3.out; omega))
          have BW5 := hide (BW3.out.trans (T4.below (by have := GA.out; have := SW3.out; omega) BW3.out.size))
          have NE5 : Hid (g' ≠ u3.heap.size + 1) := show _ ≠ _ by
            rcases G4 with rfl | h9
            · exact NE.out
            · have := LX3.out; omega
          have SA : sameO ⟨2, ox, oy, (r : Int), ot⟩ la j = (j : Int) := by unfold sameO; simp only []; rw [AT, if_neg (fun h => absurd h.2 (by have := hv; omega))]
          have SB : lastO ⟨2, ox, oy, (r : Int), ot⟩ la (sameO ⟨2, ox, oy, (r : Int), ot⟩ la j) = la.set r (j : Int) := by rw [SA]; unfold lastO; simp only [if_true, Int.toNat_natCast]
          have AL5 : Hid (al ++ [(j : Int)] = (copyS ops (j + 1)).al) := show _ = _ by rw [NX.out, SA]
          have RL6 : Hid (Rec (u3.heap.size + 1) (vals (copyS ops (j + 1)).la) w4) := by rw [NX.out, SB]; exact RL5.out
          clear O4 G4 L4 T4 SA SB NX RL5 RL3 RB3 RZ3 WO3 BW3 OA3 NB GS3 LW3 LX3 GA NE
          refine hide ?_
          go_wp2
          exact ⟨⟨j + 1, g', cap', al ++ [(j : Int)], by omega, by go_num, by simp, AL5, O5, NE5, RL6, RB5, RZ5, WO5, BW5⟩, by simp [intOf]; omega⟩
      have n2 : (kd == 2) = false := beq_eq_false_iff_ne.2 e2
      by_cases e8 : kd = 8
      · subst e8
        obtain ⟨r, rfl, r4⟩ := reg (Or.inr rfl)
        have r4i : ((r : Nat) : Int) < 4 := by omega
        obtain ⟨vr, er⟩ : ∃ v, la[r]? = some v := ⟨_, List.getElem?_eq_getElem (by omega)⟩
        have cl := RL.out.cell r (.int .i64 vr) (by simp [vals, er])
        have fl := RL.out.soft r
        clear reg KR
        have tS := (Turn.refl (u3.heap.size + 1) w3).setCell (p := ⟨u3.heap.size + 1, r, none⟩) rfl (.int .i64 ox)
        have RL2 : Rec (u3.heap.size + 1) (vals (la.set r ox)) (w3.setCell ⟨u3.heap.size + 1, r, none⟩ (.int .i64 ox)) := by
          have := RL.out.set r (.int .i64 ox) (by rw [vals_len]; omega) rfl
          rw [vals_set] at this
          exact this
        have OA2 := OA.out.turn tS NE.out GS.out
        have RB2 := RB.out.turn tS (by have := LT3.out; omega)
        have RZ2 := RZ.out.turn tS (by have := GG.out; have := LT3.out; omega)
        have WO2 := W3.out.turn tS (by have := GG.out; have := LT3.out; omega)
        have BW2 := BW.out.trans (tS.below (by have := SW3.out; omega) BW.out.size)
        have GS2 := Nat.lt_of_lt_of_le GS.out tS.size
        have LX2 := Nat.lt_of_lt_of_le RL.out.lt tS.size
        have RO2 := RO.out.turn tS (by have := LO.out; omega)
        have o0b := RO2.cell 0 _ rfl
        have o1b := RO2.cell 1 _ rfl
        have o3b := RO2.cell 3 _ rfl
        clear RO2
        have bP : Below (w3.setCell ⟨u3.heap.size + 1, r, none⟩ (.int .i64 ox)).heap.size (w3.setCell ⟨u3.heap.size + 1, r, none⟩ (.int .i64 ox)) ((w3.setCell ⟨u3.heap.size + 1, r, none⟩ (.int .i64 ox)).alloc (.cells #[.int .i64 (j : Int)] 3)) := (Below.refl _ _).alloc (Nat.le_refl _) _
        have OA3 := hide (OA2.turn (B := ga + 1) (Turn.of_below bP) (by omega) GS2)
        have RL3 := hide (RL2.below bP)
        have RB3 := hide (RB2.below bP)
        have RZ3 := hide (RZ2.below bP)
        have WO3 := hide (WO2.below bP)
        have BW3 := hide (BW2.trans (bP.mono BW2.size))
        have NB := hide ((Rec.new (w3.setCell ⟨u3.heap.size + 1, r, none⟩ (.int .i64 ox)) [.int .i64 (j : Int)] 3).cell 0 _ rfl)
        have GS3 : Hid (ga < ((w3.setCell ⟨u3.heap.size + 1, r, none⟩ (.int .i64 ox)).alloc (.cells #[.int .i64 (j : Int)] 3)).heap.size) := Nat.lt_of_lt_of_le GS2 bP.size
        have LW3 : Hid (u3.heap.size ≤ ((w3.setCell ⟨u3.heap.size + 1, r, none⟩ (.int .i64 ox)).alloc (.cells #[.int .i64 (j : Int)] 3)).heap.size) := Nat.le_trans (Nat.le_of_lt (Nat.lt_of_succ_lt LX2)) bP.size
        have LX3 : Hid (u3.heap.size + 1 < ((w3.setCell ⟨u3.heap.size + 1, r, none⟩ (.int .i64 ox)).alloc (.cells #[.int .i64 (j : Int)] 3)).heap.size) := Nat.lt_of_lt_of_le LX2 bP.size
        rw [show (w3.setCell ⟨u3.heap.size + 1, r, none⟩ (.int .i64 ox)).heap.size = w3.heap.size by simp] at NB
        clear bP RL2 OA2 RB2 RZ2 WO2 BW2 GS2 LX2 tS
        clear OA RL RB RZ W3 BW GS RO
        go_wp2_with (at_builtin; refine wpList_push rfl _ _ rfl u3.heap.size ga ca al rfl OA3.out LW3.out ⟨w3.heap.size, 0, none⟩ ((j : Int)) rfl NB.out (by have := AL2.out; omega) ?_; intro g' cap' w4 O4 G4 L4 T4; refine Hid.out ?_)
        have O5 := hide O4
        have RL5 := hide (RL3.out.turn T4 (fun e => NE.out e.symm))
        have RB5 := hide (RB3.out.turn T4 (by have := GA.out; have := LT3.out; omega))
        have RZ5 := hide (RZ3.out.turn T4 (by have := GA.out; have := SW3.out; have := LT3.out; have := GG.out; omega))
        have WO5 := hide (WO3.out.turn T4 (by have := GA.out; have := GG.out; have := LT3.out; omega))
        have BW5 := hide (BW3.out.trans (T4.below (by have := GA.out; have := SW3.out; omega) BW3.out.size))
        have NE5 : Hid (g' ≠ u3.heap.size + 1) := show _ ≠ _ by
          rcases G4 with rfl | h9
          · exact NE.out
          · have := LX3.out; omega
        have SA : sameO ⟨8, ox, oy, (r : Int), ot⟩ la j = (j : Int) := by unfold sameO; exact if_neg (fun h => absurd (show (8 : Int) = 2 from h.1) (by decide))
        have SB : lastO ⟨8, ox, oy, (r : Int), ot⟩ la (sameO ⟨8, ox, oy, (r : Int), ot⟩ la j) = la.set r ox := by unfold lastO; simp
        have AL5 : Hid (al ++ [(j : Int)] = (copyS ops (j + 1)).al) := show _ = _ by rw [NX.out, SA]
        have RL6 : Hid (Rec (u3.heap.size + 1) (vals (copyS ops (j + 1)).la) w4) := by rw [NX.out, SB]; exact RL5.out
        clear O4 G4 L4 T4 SA SB NX RL5 RL3 RB3 RZ3 WO3 BW3 OA3 NB GS3 LW3 LX3 GA NE
        refine hide ?_
        go_wp2
        exact ⟨⟨j + 1, g', cap', al ++ [(j : Int)], by omega, by go_num, by simp, AL5, O5, NE5, RL6, RB5, RZ5, WO5, BW5⟩, by simp [intOf]; omega⟩
      · have n8 : (kd == 8) = false := beq_eq_false_iff_ne.2 e8
        clear reg KR
        have RL2 := RL.out
        have OA2 := OA.out
        have RB2 := RB.out
        have RZ2 := RZ.out
        have WO2 := W3.out
        have BW2 := BW.out
        have GS2 := GS.out
        have LX2 := RL.out.lt
        have bP : Below w3.heap.size w3 (w3.alloc (.cells #[.int .i64 (j : Int)] 3)) := (Below.refl _ _).alloc (Nat.le_refl _) _
        have OA3 := hide (OA2.turn (B := ga + 1) (Turn.of_below bP) (by omega) GS2)
        have RL3 := hide (RL2.below bP)
        have RB3 := hide (RB2.below bP)
        have RZ3 := hide (RZ2.below bP)
        have WO3 := hide (WO2.below bP)
        have BW3 := hide (BW2.trans (bP.mono BW2.size))
        have NB := hide ((Rec.new w3 [.int .i64 (j : Int)] 3).cell 0 _ rfl)
        have GS3 : Hid (ga < (w3.alloc (.cells #[.int .i64 (j : Int)] 3)).heap.size) := Nat.lt_of_lt_of_le GS2 bP.size
        have LW3 : Hid (u3.heap.size ≤ (w3.alloc (.cells #[.int .i64 (j : Int)] 3)).heap.size) := Nat.le_trans (Nat.le_of_lt (Nat.lt_of_succ_lt LX2)) bP.size
        have LX3 : Hid (u3.heap.size + 1 < (w3.alloc (.cells #[.int .i64 (j : Int)] 3)).heap.size) := Nat.lt_of_lt_of_le LX2 bP.size
        clear bP RL2 OA2 RB2 RZ2 WO2 BW2 GS2 LX2
        clear OA RL RB RZ W3 BW GS RO
        go_wp2_with (at_builtin; refine wpList_push rfl _ _ rfl u3.heap.size ga ca al rfl OA3.out LW3.out ⟨w3.heap.size, 0, none⟩ ((j : Int)) rfl NB.out (by have := AL2.out; omega) ?_; intro g' cap' w4 O4 G4 L4 T4; refine Hid.out ?_)
        have O5 := hide O4
        have RL5 := hide (RL3.out.turn T4 (fun e => NE.out e.symm))
        have RB5 := hide (RB3.out.turn T4 (by have := GA.out; have := LT3.out; omega))
        have RZ5 := hide (RZ3.out.turn T4 (by have := GA.out; have := SW3.out; have := LT3.out; have := GG.out; omega))
        have WO5 := hide (WO3.out.turn T4 (by have := GA.out; have := GG.out; have := LT3.out; omega))
        have BW5 := hide (BW3.out.trans (T4.below (by have := GA.out; have := SW3.out; omega) BW3.out.size))
        have NE5 : Hid (g' ≠ u3.heap.size + 1) := show _ ≠ _ by
          rcases G4 with rfl | h9
          · exact NE.out
          · have := LX3.out; omega
        have SA : sameO ⟨kd, ox, oy, ok, ot⟩ la j = (j : Int) := by unfold sameO; exact if_neg (fun h => e2 h.1)
        have SB : lastO ⟨kd, ox, oy, ok, ot⟩ la (sameO ⟨kd, ox, oy, ok, ot⟩ la j) = la := by unfold lastO; simp only []; rw [if_neg e2, if_neg e8]
        have AL5 : Hid (al ++ [(j : Int)] = (copyS ops (j + 1)).al) := show _ = _ by rw [NX.out, SA]
        have RL6 : Hid (Rec (u3.heap.size + 1) (vals (copyS ops (j + 1)).la) w4) := by rw [NX.out, SB]; exact RL5.out
        clear O4 G4 L4 T4 SA SB NX RL5 RL3 RB3 RZ3 WO3 BW3 OA3 NB GS3 LW3 LX3 GA NE
        refine hide ?_
        go_wp2
        exact ⟨⟨j + 1, g', cap', al ++ [(j : Int)], by omega, by go_num, by simp, AL5, O5, NE5, RL6, RB5, RZ5, WO5, BW5⟩, by simp [intOf]; omega⟩
    · have lk : ¬ ((j : Nat) : Int) < (ops.length : Nat) := by omega
      have ej : j = ops.length := by omega
      have h9 : mixC ops j = (copyS ops j).ops := by rw [ej]; exact mix_end ops
      have WE : Hid (Ow wr g ops.length c1 (copyS ops j).ops) := show Ow _ _ _ _ _ from h9 ▸ WO.out
      rw [← ej] at YES
      rw [← AL.out] at YES
      obtain ⟨K, eK⟩ : ∃ K, (copyS ops j).ops = K := ⟨_, rfl⟩
      rw [eK] at YES WE
      have HE := (end_parts END.out)
      have LA : Hid (ops.length = al.length) := show _ = _ by rw [AL2.out]; exact ej.symm
      clear WO RL OA AL NE eK x2 l1 l3 h9
      have ek := HE.1
      have hX := HE.2.1
      have hY := HE.2.2.2.1
      clear HE
      have z0 := RB.out.cell 0 _ rfl
      have z1 := RB.out.cell 1 _ rfl
      have z2 := RB.out.cell 2 _ rfl
      have z3 := RB.out.cell 3 _ rfl
      have z4 := RB.out.cell 4 _ rfl
      have z5 := RB.out.cell 5 _ rfl
      have z6 := RB.out.cell 6 _ rfl
      have ce : en = 1 ∨ en = 2 ∨ en = 3 ∨ en = 4 := by omega
      rcases ce with rfl | rfl | rfl | rfl
      · have YE : Hid (R = ⟨pc, ln, K, 1, x, y, k⟩) := show _ = _ by
          rw [YES.out]
          unfold endO
          simp only []
          rw [if_pos (by trivial), if_neg (by decide)]
        have TX : Turn u2.heap.size wr wr := Turn.refl _ wr
        have RZ2 := hide (RZ.out.turn TX (by have := GG.out; omega))
        have WE2 := hide (WE.out.turn TX (by have := GG.out; omega))
        have BW2 := hide (BW.out.trans (TX.below (by have := GG.out; omega) BW.out.size))
        have f4 := RB.out.soft 4
        have f5 := RB.out.soft 5
        clear TX RZ WE BW RB YES hX hY
        go_wp2_with (refine lay7 rfl rfl _ _ rfl (w.heap.size + 1) _ _ _ _ _ _ _ RZ2.out rfl _ _ _ _ _ _ _ _ _ rfl ?_; intro p1 R1 TB; refine Hid.out ?_)
        replace BW2 := hide (BW2.out.trans (TB.out.below (by omega) BW2.out.size))
        replace WE2 := hide (WE2.out.turn TB.out (by have := GG.out; omega))
        clear TB RZ2 z0 z1 z2 z3 z4 z5 z6 f4 f5
        refine hide ?_
        have y0 := R1.out.cell 0 _ rfl
        have y1 := R1.out.cell 1 _ rfl
        have y2 := R1.out.cell 2 _ rfl
        have y3 := R1.out.cell 3 _ rfl
        have y4 := R1.out.cell 4 _ rfl
        have y5 := R1.out.cell 5 _ rfl
        have y6 := R1.out.cell 6 _ rfl
        go_wp2
        exact bodyPost_ret (v := .agg #[.int .i64 pc, .int .i64 ln, .slice (some ⟨g, 0, none⟩) ops.length c1, .int .i64 1, .int .i64 x, .int .i64 y, .int .i64 k]) (by simp [results, Tryd.results40, go_sem, y0, y1, y2, y3, y4, y5, y6]) rfl ⟨_, rfl, by
          rw [YE.out]
          exact Ow.told (b := ⟨pc, ln, K, 1, x, y, k⟩) (n := ops.length) WE2.out ⟨by have := GG.out; omega, WE2.out.lt⟩, BW2.out⟩
      · obtain ⟨mx, _, rfl, lx, _⟩ := val_get (hX (by decide))
        rw [LA.out] at lx
        obtain ⟨vx, hx⟩ : ∃ v, al[mx]? = some v := ⟨_, List.getElem?_eq_getElem lx⟩
        obtain ⟨off, e0, c1x, -, l1, l2⟩ := row_at RW.out.row rfl hx
        cases e0
        unfold maxLen at l2
        rw [Nat.zero_add] at c1x
        have lx2 : ((mx : Nat) : Int) < (al.length : Nat) := by omega
        have YE : Hid (R = ⟨pc, ln, K, 2, vx, y, k⟩) := show _ = _ by
          rw [YES.out]
          unfold endO
          simp only []
          rw [if_neg (by decide), if_neg (by decide), atL_get hx]
        have TX : Turn u2.heap.size wr (wr.setCell ⟨u2.heap.size, 4, none⟩ (.int .i64 vx)) := (Turn.refl _ wr).setCell (p := ⟨u2.heap.size, 4, none⟩) rfl _
        have RZ2 := hide (RZ.out.turn TX (by have := GG.out; omega))
        have WE2 := hide (WE.out.turn TX (by have := GG.out; omega))
        have BW2 := hide (BW.out.trans (TX.below (by have := GG.out; omega) BW.out.size))
        have f4 := RB.out.soft 4
        have f5 := RB.out.soft 5
        clear TX RZ WE BW RB YES hX hY
        go_wp2_with (refine lay7 rfl rfl _ _ rfl (w.heap.size + 1) _ _ _ _ _ _ _ RZ2.out rfl _ _ _ _ _ _ _ _ _ rfl ?_; intro p1 R1 TB; refine Hid.out ?_)
        replace BW2 := hide (BW2.out.trans (TB.out.below (by omega) BW2.out.size))
        replace WE2 := hide (WE2.out.turn TB.out (by have := GG.out; omega))
        clear TB RZ2 z0 z1 z2 z3 z4 z5 z6 f4 f5 c1x
        refine hide ?_
        have y0 := R1.out.cell 0 _ rfl
        have y1 := R1.out.cell 1 _ rfl
        have y2 := R1.out.cell 2 _ rfl
        have y3 := R1.out.cell 3 _ rfl
        have y4 := R1.out.cell 4 _ rfl
        have y5 := R1.out.cell 5 _ rfl
        have y6 := R1.out.cell 6 _ rfl
        go_wp2
        exact bodyPost_ret (v := .agg #[.int .i64 pc, .int .i64 ln, .slice (some ⟨g, 0, none⟩) ops.length c1, .int .i64 2, .int .i64 vx, .int .i64 y, .int .i64 k]) (by simp [results, Tryd.results40, go_sem, y0, y1, y2, y3, y4, y5, y6]) rfl ⟨_, rfl, by
          rw [YE.out]
          exact Ow.told (b := ⟨pc, ln, K, 2, vx, y, k⟩) (n := ops.length) WE2.out ⟨by have := GG.out; omega, WE2.out.lt⟩, BW2.out⟩
      · obtain ⟨mx, _, rfl, lx, _⟩ := val_get (hX (by decide))
        rw [LA.out] at lx
        obtain ⟨vx, hx⟩ : ∃ v, al[mx]? = some v := ⟨_, List.getElem?_eq_getElem lx⟩
        obtain ⟨off, e0, c1x, -, l1, l2⟩ := row_at RW.out.row rfl hx
        cases e0
        unfold maxLen at l2
        rw [Nat.zero_add] at c1x
        have lx2 : ((mx : Nat) : Int) < (al.length : Nat) := by omega
        obtain ⟨my, _, rfl, ly, _⟩ := val_get (hY (by decide))
        rw [LA.out] at ly
        obtain ⟨vy, hy⟩ : ∃ v, al[my]? = some v := ⟨_, List.getElem?_eq_getElem ly⟩
        obtain ⟨off, e0, c2x, -, -, -⟩ := row_at RW.out.row rfl hy
        cases e0
        rw [Nat.zero_add] at c2x
        have ly2 : ((my : Nat) : Int) < (al.length : Nat) := by omega
        have c3x := ((Turn.refl u2.heap.size wr).setCell (p := ⟨u2.heap.size, 4, none⟩) rfl (.int .i64 vx)).cell (p := ⟨ga, my, none⟩) GA.out.2 (by have := GA.out; have := LT3.out; show ga ≠ _; omega)
        rw [c2x] at c3x
        have YE : Hid (R = ⟨pc, ln, K, 3, vx, vy, k⟩) := show _ = _ by
          rw [YES.out]
          unfold endO
          simp only []
          rw [if_neg (by decide), if_pos (by decide), atL_get hx, atL_get hy]
        have TX : Turn u2.heap.size wr ((wr.setCell ⟨u2.heap.size, 4, none⟩ (.int .i64 vx)).setCell ⟨u2.heap.size, 5, none⟩ (.int .i64 vy)) := ((Turn.refl _ wr).setCell (p := ⟨u2.heap.size, 4, none⟩) rfl _).setCell (p := ⟨u2.heap.size, 5, none⟩) rfl _
        have RZ2 := hide (RZ.out.turn TX (by have := GG.out; omega))
        have WE2 := hide (WE.out.turn TX (by have := GG.out; omega))
        have BW2 := hide (BW.out.trans (TX.below (by have := GG.out; omega) BW.out.size))
        have f4 := RB.out.soft 4
        have f5 := RB.out.soft 5
        clear TX RZ WE BW RB YES hX hY
        go_wp2_with (refine lay7 rfl rfl _ _ rfl (w.heap.size + 1) _ _ _ _ _ _ _ RZ2.out rfl _ _ _ _ _ _ _ _ _ rfl ?_; intro p1 R1 TB; refine Hid.out ?_)
        replace BW2 := hide (BW2.out.trans (TB.out.below (by omega) BW2.out.size))
        replace WE2 := hide (WE2.out.turn TB.out (by have := GG.out; omega))
        clear TB RZ2 z0 z1 z2 z3 z4 z5 z6 f4 f5 c1x c2x c3x
        refine hide ?_
        have y0 := R1.out.cell 0 _ rfl
        have y1 := R1.out.cell 1 _ rfl
        have y2 := R1.out.cell 2 _ rfl
        have y3 := R1.out.cell 3 _ rfl
        have y4 := R1.out.cell 4 _ rfl
        have y5 := R1.out.cell 5 _ rfl
        have y6 := R1.out.cell 6 _ rfl
        go_wp2
        exact bodyPost_ret (v := .agg #[.int .i64 pc, .int .i64 ln, .slice (some ⟨g, 0, none⟩) ops.length c1, .int .i64 3, .int .i64 vx, .int .i64 vy, .int .i64 k]) (by simp [results, Tryd.results40, go_sem, y0, y1, y2, y3, y4, y5, y6]) rfl ⟨_, rfl, by
          rw [YE.out]
          exact Ow.told (b := ⟨pc, ln, K, 3, vx, vy, k⟩) (n := ops.length) WE2.out ⟨by have := GG.out; omega, WE2.out.lt⟩, BW2.out⟩
      · obtain ⟨mx, _, rfl, lx, _⟩ := val_get (hX (by decide))
        rw [LA.out] at lx
        obtain ⟨vx, hx⟩ : ∃ v, al[mx]? = some v := ⟨_, List.getElem?_eq_getElem lx⟩
        obtain ⟨off, e0, c1x, -, l1, l2⟩ := row_at RW.out.row rfl hx
        cases e0
        unfold maxLen at l2
        rw [Nat.zero_add] at c1x
        have lx2 : ((mx : Nat) : Int) < (al.length : Nat) := by omega
        obtain ⟨my, _, rfl, ly, _⟩ := val_get (hY (by decide))
        rw [LA.out] at ly
        obtain ⟨vy, hy⟩ : ∃ v, al[my]? = some v := ⟨_, List.getElem?_eq_getElem ly⟩
        obtain ⟨off, e0, c2x, -, -, -⟩ := row_at RW.out.row rfl hy
        cases e0
        rw [Nat.zero_add] at c2x
        have ly2 : ((my : Nat) : Int) < (al.length : Nat) := by omega
        have c3x := ((Turn.refl u2.heap.size wr).setCell (p := ⟨u2.heap.size, 4, none⟩) rfl (.int .i64 vx)).cell (p := ⟨ga, my, none⟩) GA.out.2 (by have := GA.out; have := LT3.out; show ga ≠ _; omega)
        rw [c2x] at c3x
        have YE : Hid (R = ⟨pc, ln, K, 4, vx, vy, k⟩) := show _ = _ by
          rw [YES.out]
          unfold endO
          simp only []
          rw [if_neg (by decide), if_pos (by decide), atL_get hx, atL_get hy]
        have TX : Turn u2.heap.size wr ((wr.setCell ⟨u2.heap.size, 4, none⟩ (.int .i64 vx)).setCell ⟨u2.heap.size, 5, none⟩ (.int .i64 vy)) := ((Turn.refl _ wr).setCell (p := ⟨u2.heap.size, 4, none⟩) rfl _).setCell (p := ⟨u2.heap.size, 5, none⟩) rfl _
        have RZ2 := hide (RZ.out.turn TX (by have := GG.out; omega))
        have WE2 := hide (WE.out.turn TX (by have := GG.out; omega))
        have BW2 := hide (BW.out.trans (TX.below (by have := GG.out; omega) BW.out.size))
        have f4 := RB.out.soft 4
        have f5 := RB.out.soft 5
        clear TX RZ WE BW RB YES hX hY
        go_wp2_with (refine lay7 rfl rfl _ _ rfl (w.heap.size + 1) _ _ _ _ _ _ _ RZ2.out rfl _ _ _ _ _ _ _ _ _ rfl ?_; intro p1 R1 TB; refine Hid.out ?_)
        replace BW2 := hide (BW2.out.trans (TB.out.below (by omega) BW2.out.size))
        replace WE2 := hide (WE2.out.turn TB.out (by have := GG.out; omega))
        clear TB RZ2 z0 z1 z2 z3 z4 z5 z6 f4 f5 c1x c2x c3x
        refine hide ?_
        have y0 := R1.out.cell 0 _ rfl
        have y1 := R1.out.cell 1 _ rfl
        have y2 := R1.out.cell 2 _ rfl
        have y3 := R1.out.cell 3 _ rfl
        have y4 := R1.out.cell 4 _ rfl
        have y5 := R1.out.cell 5 _ rfl
        have y6 := R1.out.cell 6 _ rfl
        go_wp2
        exact bodyPost_ret (v := .agg #[.int .i64 pc, .int .i64 ln, .slice (some ⟨g, 0, none⟩) ops.length c1, .int .i64 4, .int .i64 vx, .int .i64 vy, .int .i64 k]) (by simp [results, Tryd.results40, go_sem, y0, y1, y2, y3, y4, y5, y6]) rfl ⟨_, rfl, by
          rw [YE.out]
          exact Ow.told (b := ⟨pc, ln, K, 4, vx, vy, k⟩) (n := ops.length) WE2.out ⟨by have := GG.out; omega, WE2.out.lt⟩, BW2.out⟩

end Go.Proofs.YtflhehofgplcoaaDoor.Op
