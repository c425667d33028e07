/-
  Our own hand, the program's takeKnown.
-/
import Derived.Test.YtflhehofgplcoaaDoorOiF
import Derived.Test.YtflhehofgplcoaaDoorOsCp
import Derived.Maps.OwnOps
import Derived.Maps.OwnSet
namespace Go.Proofs.YtflhehofgplcoaaDoor.Op
set_option linter.unusedVariables false
set_option linter.unusedSimpArgs false
open Go.ChangeShapes Go.WideShapes Go.ChangeAt Go.RowKit IntS Flat Irk
open Ir Dt
open Mch (Rec)
open Pol (Keep)
/-- What registers are known to be, in a map. -/
structure LMap (w : World) (D j : Nat) (la : List Int) : Prop where
  ex : ∃ (nn : Nat) (d : DataW Unit), w.ownsMap Tryd.prog 3 (plainElem Tryd.prog 3) D nn d ∧ nn ≤ j ∧ (∀ r : Nat, r < 4 → Maps.has d (.int .i64 (r : Int)) = decide (0 ≤ atL la r)) ∧ ∀ r : Nat, r < 4 → 0 ≤ atL la r → d.atKey (.int .i64 (r : Int)) (.lit (.int .i64 0)) = .lit (.int .i64 (atL la r))
theorem LMap.lt {w : World} {D j : Nat} {la : List Int} (h : LMap w D j la) : D < w.heap.size := by
  obtain ⟨nn, d, h1, _⟩ := h
  exact h1.lt
theorem LMap.turn {w w' : World} {D j B : Nat} {la : List Int} (h : LMap w D j la) (ht : Turn B w w') (hB : D ≠ B) : LMap w' D j la := by
  obtain ⟨nn, d, h1, h2⟩ := h
  refine ⟨nn, d, ?_, h2⟩
  have hl := h1.lt
  obtain ⟨e, clock, hb, F, hs, hD⟩ := h1
  exact ⟨e, clock, (ht.block D hl hB).trans hb, F, hs, hD⟩
theorem LMap.below {w w' : World} {D j : Nat} {la : List Int} (h : LMap w D j la) (hb : Below w.heap.size w w') : LMap w' D j la := h.turn (B := w.heap.size) (Turn.of_below hb) (by have := h.lt; omega)
theorem LMap.new (w : World) : LMap (w.alloc (.map #[] 0)) w.heap.size 0 [-1, -1, -1, -1] :=
  ⟨0, .map [], World.ownsMap_made w _ _ _, Nat.le_refl _, fun r hr => by
    have : r = 0 ∨ r = 1 ∨ r = 2 ∨ r = 3 := by omega
    rcases this with rfl | rfl | rfl | rfl <;> rfl, fun r hr h => by
    have : r = 0 ∨ r = 1 ∨ r = 2 ∨ r = 3 := by omega
    rcases this with rfl | rfl | rfl | rfl <;> (exact absurd (show (0 : Int) ≤ -1 from h) (by decide))⟩
theorem LMap.more {w : World} {D j j' : Nat} {la : List Int} (h : LMap w D j la) (hj : j ≤ j') : LMap w D j' la := by
  obtain ⟨nn, d, h1, h2, h3⟩ := h
  exact ⟨nn, d, h1, by omega, h3⟩
theorem lit_int_ne {r s : Nat} (h : r ≠ s) : Lit.int .i64 (r : Int) ≠ Lit.int .i64 (s : Int) := fun e => h (by have := (Lit.int.inj e).2; omega)
theorem LMap.put {w' : World} {D j nn : Nat} {la : List Int} {d : DataW Unit} (hmap : Maps.IsMap d) (hn : nn ≤ j) (h3 : ∀ r : Nat, r < 4 → Maps.has d (.int .i64 (r : Int)) = decide (0 ≤ atL la r)) (h4 : ∀ r : Nat, r < 4 → 0 ≤ atL la r → d.atKey (.int .i64 (r : Int)) (.lit (.int .i64 0)) = .lit (.int .i64 (atL la r))) (hla : la.length = 4) {r : Nat} (hr : r < 4) {v : Int} (hv : 0 ≤ v)
    (hown : w'.ownsMap Tryd.prog 3 (plainElem Tryd.prog 3) D (nn + 1) (d.put (.int .i64 (r : Int)) (.lit (.int .i64 v)))) : LMap w' D (j + 1) (la.set r v) := by
  have kl : WideAt.IsKeyLit (.int .i64 (r : Int)) := trivial
  have at_ : ∀ s : Nat, s < 4 → atL (la.set r v) (s : Int) = if s = r then v else atL la s := fun s hs => by
    have := atL_set la (r : Int) (s : Int) v (by omega) (by omega) (by omega)
    rw [Int.toNat_natCast] at this
    rw [this]
    by_cases e : s = r
    · rw [if_pos e, if_pos (by omega)]
    · rw [if_neg e, if_neg (by omega)]
  refine ⟨nn + 1, _, hown, by omega, fun s hs => ?_, fun s hs h0 => ?_⟩
  · rw [at_ s hs]
    by_cases e : s = r
    · subst e
      rw [Maps.has_put_same hmap kl, if_pos rfl, decide_eq_true hv]
    · rw [Maps.has_put_other (lit_int_ne e), h3 s hs, if_neg e]
  · rw [at_ s hs] at h0 ⊢
    by_cases e : s = r
    · subst e
      rw [Maps.atKey_put_same hmap kl, if_pos rfl]
    · rw [if_neg e] at h0 ⊢
      rw [Maps.atKey_put_other (lit_int_ne e), h4 s hs h0]
/-- Where words are now: what was taken so far, and noughts. -/
def nowL (ops : List Opn) (n j : Nat) : List Int := (copyS ops j).al ++ List.replicate (n - j) 0
theorem now_len {ops : List Opn} {j : Nat} (h : j ≤ ops.length) : (nowL ops ops.length j).length = ops.length := by
  obtain ⟨_, l2, _⟩ := copyS_len ops j h
  unfold nowL
  rw [List.length_append, l2, List.length_replicate]
  omega
theorem now_at {ops : List Opn} {j : Nat} (h : j ≤ ops.length) {k : Int} (h0 : 0 ≤ k) (hk : k < j) : atL (nowL ops ops.length j) k = atL (copyS ops j).al k := by
  obtain ⟨_, l2, _⟩ := copyS_len ops j h
  unfold nowL atL
  rw [List.getD_eq_getElem?_getD, List.getElem?_append_left (by omega), List.getD_eq_getElem?_getD]
theorem now_next {ops : List Opn} {j : Nat} {o : Opn} (h : ops[j]? = some o) : nowL ops ops.length (j + 1) = (nowL ops ops.length j).set j (sameO (aliasO o (copyS ops j).al) (copyS ops j).la j) := by
  have hj := (List.getElem?_eq_some_iff.1 h).1
  obtain ⟨_, l2, _⟩ := copyS_len ops j (by omega)
  unfold nowL
  rw [copyS_next h, List.set_append_right _ _ (by omega), l2, Nat.sub_self]
  simp only []
  obtain ⟨d, hd⟩ : ∃ d, ops.length - j = d + 1 := ⟨ops.length - j - 1, by omega⟩
  rw [hd, List.replicate_succ, List.set_cons_zero, List.append_assoc, show ops.length - (j + 1) = d by omega]
  rfl
theorem now_end (ops : List Opn) : nowL ops ops.length ops.length = (copyS ops ops.length).al := by unfold nowL; simp
theorem alias_now {b : Bk} (hok : okB b = true) {j : Nat} {o : Opn} (h : b.ops[j]? = some o) : aliasO o (nowL b.ops b.ops.length j) = aliasO o (copyS b.ops j).al := by
  have hj := (List.getElem?_eq_some_iff.1 h).1
  obtain ⟨_, p1, _, p3, _⟩ := op_parts ((ok_parts hok).2.2.2.1 j o h)
  unfold aliasO
  have X : (if mvX o.kd = true then atL (nowL b.ops b.ops.length j) o.x else o.x) = (if mvX o.kd = true then atL (copyS b.ops j).al o.x else o.x) := by
    split
    · rename_i e
      obtain ⟨m, _, e1, e2, _⟩ := val_take (p1 e)
      exact now_at (by omega) (by omega) (by omega)
    · rfl
  have Y : (if mvY o.kd = true then atL (nowL b.ops b.ops.length j) o.y else o.y) = (if mvY o.kd = true then atL (copyS b.ops j).al o.y else o.y) := by
    split
    · rename_i e
      obtain ⟨m, _, e1, e2, _⟩ := val_take (p3 e)
      exact now_at (by omega) (by omega) (by omega)
    · rfl
  rw [X, Y]
theorem alias_x {ops : List Opn} {j : Nat} {kd0 ox0 oy0 ok0 ot0 : Int} (hc : CpOk ops j (copyS ops j)) (hv : mvX kd0 = true → valB (ops.take j) ox0 = true) (e8 : kd0 = 8) (hj : j ≤ 48) : 0 ≤ (aliasO ⟨kd0, ox0, oy0, ok0, ot0⟩ (copyS ops j).al).x ∧ (aliasO ⟨kd0, ox0, oy0, ok0, ot0⟩ (copyS ops j).al).x ≤ 48 := by
  subst e8
  obtain ⟨m, o', z1, z2, z3, z4⟩ := val_take (hv rfl)
  obtain ⟨m', o2, y1, y2, _, _⟩ := hc.al m o' z2 z3 z4
  have : (aliasO ⟨8, ox0, oy0, ok0, ot0⟩ (copyS ops j).al).x = (m' : Int) := by
    show (if mvX 8 = true then atL (copyS ops j).al ox0 else ox0) = _
    rw [if_pos (show mvX 8 = true from rfl), z1]
    exact y1
  rw [this]
  omega
/-- A list of numbers in a block of its own, read. -/
theorem rec_row {w : World} {Z : Nat} {xs : List Int} (h : Rec Z (vals xs) w) (hl : xs.length ≤ 1000000) : Row w Z (.slice (some ⟨Z, 0, none⟩) xs.length xs.length) xs :=
  ⟨some ⟨Z, 0, none⟩, xs.length, 0, rfl, Nat.le_refl _, by unfold maxLen; omega, (fun e => by cases e), Or.inr ⟨rfl, fun i x hx => by rw [Nat.zero_add]; exact h.cell i _ (by simp [vals, hx])⟩⟩
theorem made_zero (n : Nat) : madeCells #[.int .i64 0] n = (List.replicate n (Value.int .i64 0)).toArray := by
  apply Array.ext'
  simp [madeCells, Nat.mod_one]
  rw [List.eq_replicate_iff]
  refine ⟨by simp, fun b hb => ?_⟩
  simp at hb
  exact hb.2.symm
theorem made_rec (u : World) (n : Nat) : Rec u.heap.size (vals (List.replicate n 0)) (u.alloc (.cells (madeCells #[.int .i64 0] n) 3)) := by
  have e : madeCells #[.int .i64 0] n = (vals (List.replicate n 0)).toArray := by
    rw [made_zero]
    simp [vals]
  rw [e]
  exact Rec.new u _ _
/-- An operation stored into a box. -/
theorem layO {w : World} {ops : Array Oper} {rest : List Oper} {o : Oper} {a : Act} {Q : Exit → Act → World → Prop} (hgd : o.guard = none) (hds : o.dst = none) (x y : Operand) (ho : o.op = .store 41 x y)
    (Z : Nat) (x0 x1 x2 x3 x4 : Value) (hB : Rec Z [x0, x1, x2, x3, x4] w) (hx : a.eval x = .pointer (some ⟨Z, 0, none⟩)) (kd ox oy ok ot : Int) (hy : a.eval y = .agg #[.int .i64 kd, .int .i64 ox, .int .i64 oy, .int .i64 ok, .int .i64 ot])
    (h : ∀ w' : World, Hid (Rec Z [.int .i64 kd, .int .i64 ox, .int .i64 oy, .int .i64 ok, .int .i64 ot] w') → Hid (Turn Z w w') → wpList Tryd.prog ops Q rest a w') :
    wpList Tryd.prog ops Q (o :: rest) a w := by
  refine wpList_plain hgd fun K hK => ?_
  have z0 := hB.cell 0 _ rfl
  have z1 := hB.cell 1 _ rfl
  have z2 := hB.cell 2 _ rfl
  have z3 := hB.cell 3 _ rfl
  have z4 := hB.cell 4 _ rfl
  have y0 := hB.soft 0
  have y1 := hB.soft 1
  have y2 := hB.soft 2
  have y3 := hB.soft 3
  have y4 := hB.soft 4
  have key := hK _ _ (h _ (rec_fiveS hB (.int .i64 kd) (.int .i64 ox) (.int .i64 oy) (.int .i64 ok) (.int .i64 ot)) (set5_turn ..))
  unfold set5 at key
  obtain ⟨dst, op, ty, pos, aft, gd⟩ := o
  simp only [] at hgd hds ho
  subst hgd hds ho
  clear h hK hB
  unfold Oper.wp
  simp only [execOp, hx, hy]
  go_simp
  exact key
def cpyF (b : Bk) : Bk := endO b (copyS b.ops b.ops.length).ops (copyS b.ops b.ops.length).al
theorem cpy_eq {b : Bk} (h : okB b = true) : copyB b = cpyF b := by unfold copyB; rw [if_pos h]; rfl
set_option maxRecDepth 8000 in
set_option maxHeartbeats 16000000 in
theorem takeKnown (b : Bk) (Z : Nat) (q : Option Addr) (n c : Nat) (w : World) (ht : Based w Z q) (h : Hd w Z q n c b) (hok : okB b = true) :
    Calls Tryd.prog 41 #[.pointer (some ⟨Z, 0, none⟩)] w fun e w' => Wy w Z q (cpyF b) e w' := by
  have AN := hide (fun j o => alias_now hok (j := j) (o := o))
  have EOK := hide hok
  obtain ⟨h1, h2, h3, h4, h5⟩ := ok_parts hok
  unfold cpyF
  obtain ⟨pc, ln, ops, en, bx, by_, bk⟩ := b
  simp only [] at h1 h2 h3 h4 h5 AN EOK ⊢
  obtain ⟨R, eR⟩ : ∃ R, endO (⟨pc, ln, ops, en, bx, by_, bk⟩ : Bk) (copyS ops ops.length).ops (copyS ops ops.length).al = R := ⟨_, rfl⟩
  rw [eR]
  have ER := hide eR
  have hl := h.ops.len
  simp only [] at hl
  have OPS := hide h4
  have END := hide h5
  have RB0 := h.box
  have OB0 := h.ops
  simp only [] at RB0 OB0
  have FAR := hide h.far
  have QL : Hid (Z < w.heap.size ∧ ∀ g, q = some ⟨g, 0, none⟩ → g < w.heap.size) := ⟨h.box.lt, fun g e => h.ops.lt e⟩
  have TB0 := ht
  have hmm := @run_makeMap Tryd.prog
  have bM : Below w.heap.size w ((w.alloc (.map #[] 0)).alloc (.cells (madeCells #[.int .i64 0] n) 3)) := ((Below.refl _ _).alloc (Nat.le_refl _) _).alloc (by simp) _
  have hmk := run_make_row' (P := Tryd.prog) 57 3 (.int .i64 0) 8 Tryd.underlying57 (by kernel_rfl) rfl .i64 .i64 n (by omega) (by omega) (w.alloc (.map #[] 0))
  have rn := made_rec (w.alloc (.map #[] 0)) n
  have lm := (LMap.new w).below ((Below.refl _ (w.alloc (.map #[] 0))).alloc (Nat.le_refl _) (.cells (madeCells #[.int .i64 0] n) 3))
  rw [show (w.alloc (.map #[] 0)).heap.size = w.heap.size + 1 by simp] at rn hmk
  have z2 := (RB0.below ((Below.refl _ w).alloc (Nat.le_refl _) (.map #[] 0))).cell 2 _ rfl
  have RB := hide (RB0.below bM)
  have OB := hide (OB0.below bM)
  have KW : Hid (Keep (Its Z q) w ((w.alloc (.map #[] 0)).alloc (.cells (madeCells #[.int .i64 0] n) 3))) := Pol.Keep.of_below bM
  have BM := hide bM
  have RN := hide rn
  have LM := hide lm
  have z2b := RB.out.cell 2 _ rfl
  have TB := hide TB0
  have HL := hide hl
  have n48 : n ≤ 48 := by omega
  clear eR h hok h4 h5 RB0 OB0 bM rn lm TB0 ht hl h3
  go_enter Tryd.func41, Tryd.ntmps41
  go_wp2
  clear z2 z2b hmk hmm
  generalize ((w.alloc (.map #[] 0)).alloc (.cells (madeCells #[.int .i64 0] n) 3)) = W2 at RB OB KW RN LM BM ⊢
  go_loopw [22] (fun i wr => ∃ j : Nat, j ≤ n ∧ i = .int .i64 j ∧ Hid (Rec Z [.int .i64 pc, .int .i64 ln, .slice q n c, .int .i64 en, .int .i64 bx, .int .i64 by_, .int .i64 bk] wr) ∧ Hid (Ob wr q n c (mixC ops j)) ∧ Hid (Rec (w.heap.size + 1) (vals (nowL ops n j)) wr) ∧ Hid (LMap wr w.heap.size j (copyS ops j).la) ∧ Hid (Keep (Its Z q) w wr)) (fun i _ => n - (intOf i).toNat)
  case atStart => exact ⟨0, by omega, rfl, RB, hide (by unfold mixC; simpa [copyS] using OB.out), hide (by unfold nowL; simpa [copyS] using RN.out), LM, KW⟩
  case round =>
    clear RB OB KW RN LM BM
    obtain ⟨j, hj, rfl, RB, OB, RN, LM, KW⟩ := hrel
    have jl : j ≤ ops.length := by rw [HL.out]; exact hj
    have NL : Hid ((nowL ops n j).length = n) := show _ = _ by have := now_len jl; rw [HL.out] at this; exact this
    by_cases hlt : j < n
    · obtain ⟨g, rfl, W0⟩ := OB.out.some hlt
      have WO := hide W0
      obtain ⟨o, et⟩ : ∃ o, ops[j]? = some o := ⟨_, List.getElem?_eq_getElem (by rw [HL.out]; exact hlt)⟩
      have et2 := mix_at et
      obtain ⟨c0, ca, cb, cc, cd⟩ := (W0.at_ j o et2).1
      have OP := op_parts (OPS.out j o et)
      have EL := AN.out j o et
      rw [HL.out] at EL
      have RR := rec_row RN.out (by rw [NL.out]; omega)
      rw [NL.out] at RR
      have NX := hide (copyS_next et)
      have MN := hide (mix_next et)
      have NN := hide (now_next et)
      rw [HL.out] at NN
      have IX : Hid ((mvX o.kd = true → ∃ m : Nat, o.x = m ∧ m < (nowL ops n j).length) ∧ (mvY o.kd = true → ∃ m : Nat, o.y = m ∧ m < (nowL ops n j).length)) := ⟨fun hx => by rw [NL.out]; obtain ⟨m, _, e, h1, _⟩ := val_take (OP.2.1 hx); exact ⟨m, e, by omega⟩, fun hy => by rw [NL.out]; obtain ⟨m, _, e, h1, _⟩ := val_take (OP.2.2.2.1 hy); exact ⟨m, e, by omega⟩⟩
      have KR : Hid (o.kd = 2 ∨ o.kd = 8 → 0 ≤ o.k ∧ o.k ≤ 3) := OP.2.2.2.2.2.1
      have OK1 := hide OP.1
      have XV : Hid (mvX o.kd = true → valB (ops.take j) o.x = true) := OP.2.1
      have CI := hide (copy_inv (b := (⟨pc, ln, ops, en, bx, by_, bk⟩ : Bk)) EOK.out j jl)
      obtain ⟨kd0, ox0, oy0, ok0, ot0⟩ := o
      simp only [] at c0 ca cb cc cd EL NX MN NN IX KR OK1 XV
      have MX := W0.mx
      have ML := W0.le
      unfold maxLen at MX
      have lk : ((j : Nat) : Int) < (n : Nat) := by omega
      have FZ : Hid (g ≠ Z) := FAR.out g rfl
      have RO := hide (Rec.new wr [.int .i64 kd0, .int .i64 ox0, .int .i64 oy0, .int .i64 ok0, .int .i64 ot0] 41)
      have bo : Below wr.heap.size wr (wr.alloc (.cells #[.int .i64 kd0, .int .i64 ox0, .int .i64 oy0, .int .i64 ok0, .int .i64 ot0] 41)) := (Below.refl _ _).alloc (Nat.le_refl _) _
      have LO : Hid (Z < wr.heap.size ∧ g < wr.heap.size ∧ w.heap.size + 1 < wr.heap.size ∧ w.heap.size ≤ wr.heap.size) := ⟨RB.out.lt, WO.out.lt, RN.out.lt, KW.out.size⟩
      replace RB := hide (RB.out.below bo)
      replace WO := hide (WO.out.below bo)
      replace RN := hide (RN.out.below bo)
      replace LM := hide (LM.out.below bo)
      replace KW := hide (keep_below KW.out bo)
      replace RR := RR.below bo
      have EL2 := hide EL
      have RR2 := hide RR
      clear bo et et2 OP OB W0 EL RR
      go_wp2_with fail
      clear c0 ca cb cc cd
      obtain ⟨ob, eob⟩ : ∃ z, wr.heap.size = z := ⟨_, rfl⟩
      rw [eob] at RO LO ⊢
      generalize wr.alloc (.cells #[.int .i64 kd0, .int .i64 ox0, .int .i64 oy0, .int .i64 ok0, .int .i64 ot0] 41) = w1 at RB WO RN LM KW RO RR2 ⊢
      have CALL := movedOp ⟨kd0, ox0, oy0, ok0, ot0⟩ (nowL ops n j) (w.heap.size + 1) _ w1 RR2.out (TB.out.tbs KW.out) OK1.out IX.out.1 IX.out.2
      rw [EL2.out] at CALL
      have KD : (aliasO ⟨kd0, ox0, oy0, ok0, ot0⟩ (copyS ops j).al).kd = kd0 := rfl
      have KK : (aliasO ⟨kd0, ox0, oy0, ok0, ot0⟩ (copyS ops j).al).k = ok0 := rfl
      obtain ⟨O, eO⟩ : ∃ O, aliasO ⟨kd0, ox0, oy0, ok0, ot0⟩ (copyS ops j).al = O := ⟨_, rfl⟩
      rw [eO] at CALL NX MN NN KD KK
      rw [← KD, ← KK] at KR
      have OXB : Hid (O.kd = 8 → 0 ≤ O.x ∧ O.x ≤ 48) := fun e8 => by
        rw [← eO] at e8 ⊢
        exact alias_x CI.out XV.out (show kd0 = 8 from e8) (by omega)
      obtain ⟨kd, ox, oy, ok, ot⟩ := O
      simp only [] at CALL NX MN NN KR OXB
      refine CALL.mono ?_
      rintro e w2 ⟨rfl, hb⟩
      replace RB := hide (RB.out.below hb)
      replace WO := hide (WO.out.below hb)
      replace RN := hide (RN.out.below hb)
      replace LM := hide (LM.out.below hb)
      replace RO := hide (RO.out.below hb)
      replace KW := hide (keep_below KW.out hb)
      clear hb CALL eO KD KK EL2 RR2 eob OK1 IX
      go_wp2_with (refine layO rfl rfl _ _ rfl ob _ _ _ _ _ RO.out rfl _ _ _ _ _ rfl ?_; intro w3 RO3 T3; refine Hid.out ?_)
      replace RB := hide (RB.out.turn T3.out (by have := LO.out; omega))
      replace WO := hide (WO.out.turn T3.out (by have := LO.out; omega))
      replace RN := hide (RN.out.turn T3.out (by have := LO.out; omega))
      replace LM := hide (LM.out.turn T3.out (by have := LO.out; omega))
      replace KW := hide (keep_turn KW.out T3.out (Or.inr LO.out.2.2.2))
      clear T3 RO
      refine hide ?_
      go_wp2_with fail
      refine (wpIn_wide (n := 0)).1 ?_
      have bA : Below w3.heap.size w3 w3.drew := (Below.refl _ _).drew
      replace RB := hide (RB.out.below bA)
      replace WO := hide (WO.out.below bA)
      replace RN := hide (RN.out.below bA)
      replace LM := hide (LM.out.below bA)
      replace RO3 := hide (RO3.out.below bA)
      replace KW := hide (keep_below KW.out bA)
      clear bA
      refine PhaseN.region (S := fun v => Rec Z [.int .i64 pc, .int .i64 ln, .slice (some ⟨g, 0, none⟩) n c, .int .i64 en, .int .i64 bx, .int .i64 by_, .int .i64 bk] v ∧ Rec ob [.int .i64 kd, .int .i64 ox, .int .i64 oy, .int .i64 ok, .int .i64 ot] v) (fun i => [0, 1, 2, 3, 4, 5, 6, 7, 8, 9].contains i) (by kernel_rfl) ?_
      generalize w3.drew = d1 at RB WO RN LM RO3 KW ⊢
      have hHeld : Rec Z [.int .i64 pc, .int .i64 ln, .slice (some ⟨g, 0, none⟩) n c, .int .i64 en, .int .i64 bx, .int .i64 by_, .int .i64 bk] d1 ∧ Rec ob [.int .i64 kd, .int .i64 ox, .int .i64 oy, .int .i64 ok, .int .i64 ot] d1 := ⟨RB.out, RO3.out⟩
      refine PhaseN.takeP (i := 0) (v := ?_) 30 rfl (by rfl) (by kernel_rfl) (by kernel_rfl) (by kernel_rfl) (fun _ _ _ h => h) (Or.inl ⟨by kernel_rfl, ?_⟩) ?_
      rotate_left
      · intro w' hSw
        go_simp
        first | done | with_reducible rfl
      try simp only [Act.put, List.setIfInBounds_toArray, List.set]
      refine PhaseN.takeP (i := 1) (v := ?_) 31 rfl (by rfl) (by kernel_rfl) (by kernel_rfl) (by kernel_rfl) (fun _ _ _ h => h) (Or.inl ⟨by kernel_rfl, ?_⟩) ?_
      rotate_left
      · intro w' hSw
        go_simp
        first | done | with_reducible rfl
      try simp only [Act.put, List.setIfInBounds_toArray, List.set]
      refine PhaseN.takeP (i := 2) (v := ?_) 32 rfl (by rfl) (by kernel_rfl) (by kernel_rfl) (by kernel_rfl) (fun _ _ _ h => h) (Or.inl ⟨by kernel_rfl, ?_⟩) ?_
      rotate_left
      · intro w' hSw
        go_simp
        first | done | with_reducible rfl
      try simp only [Act.put, List.setIfInBounds_toArray, List.set]
      refine PhaseN.takeP (i := 3) (v := ?_) 33 rfl (by rfl) (by kernel_rfl) (by kernel_rfl) (by kernel_rfl) (fun _ _ _ h => h) (Or.inl ⟨by kernel_rfl, ?_⟩) ?_
      rotate_left
      · intro w' hSw
        go_simp
        first | done | with_reducible rfl
      try simp only [Act.put, List.setIfInBounds_toArray, List.set]
      refine PhaseN.takeP (i := 5) (v := ?_) 35 rfl (by rfl) (by kernel_rfl) (by kernel_rfl) (by kernel_rfl) (fun _ _ _ h => h) (Or.inl ⟨by kernel_rfl, ?_⟩) ?_
      rotate_left
      · intro w' hSw
        go_simp
        first | done | with_reducible rfl
      try simp only [Act.put, List.setIfInBounds_toArray, List.set]
      refine PhaseN.takeP (i := 6) (v := ?_) 36 rfl (by rfl) (by kernel_rfl) (by kernel_rfl) (by kernel_rfl) (fun _ _ _ h => h) (Or.inl ⟨by kernel_rfl, ?_⟩) ?_
      rotate_left
      · intro w' hSw
        go_simp
        first | done | with_reducible rfl
      try simp only [Act.put, List.setIfInBounds_toArray, List.set]
      refine PhaseN.takeP (i := 7) (v := ?_) 37 rfl (by rfl) (by kernel_rfl) (by kernel_rfl) (by kernel_rfl) (fun _ _ _ h => h) (Or.inl ⟨by kernel_rfl, ?_⟩) ?_
      rotate_left
      · intro w' hSw
        go_simp
        first | done | with_reducible rfl
      try simp only [Act.put, List.setIfInBounds_toArray, List.set]
      refine PhaseN.takeP (i := 9) (v := ?_) 39 rfl (by rfl) (by kernel_rfl) (by kernel_rfl) (by kernel_rfl) (fun _ _ _ h => h) (Or.inl ⟨by kernel_rfl, ?_⟩) ?_
      rotate_left
      · intro w' hSw
        go_simp
        first | done | with_reducible rfl
      try simp only [Act.put, List.setIfInBounds_toArray, List.set]
      refine PhaseN.takeD (i := 4) (v := ?_) [4, 10, 11, 12, 13] 34 rfl (by rfl) (by kernel_rfl) (by kernel_rfl) (by kernel_rfl) (by kernel_rfl) (by kernel_rfl) (fun _ _ _ h => h) (Or.inl ⟨by kernel_rfl, ?_⟩) hHeld ?_
      rotate_left
      · intro w' hSw
        (try dsimp only at hSw)
        have z2 := hSw.1.cell 2 _ rfl
        go_simp
        first | done | with_reducible rfl
      try simp only [Act.put, List.setIfInBounds_toArray, List.set]
      refine PhaseN.takeD (i := 8) (v := ?_) [8, 10, 11, 12, 13] 38 rfl (by rfl) (by kernel_rfl) (by kernel_rfl) (by kernel_rfl) (by kernel_rfl) (by kernel_rfl) (fun _ _ _ h => h) (Or.inl ⟨by kernel_rfl, ?_⟩) hHeld ?_
      rotate_left
      · intro w' hSw
        (try dsimp only at hSw)
        have y0 := hSw.2.cell 0 _ rfl; have y1 := hSw.2.cell 1 _ rfl; have y2 := hSw.2.cell 2 _ rfl; have y3 := hSw.2.cell 3 _ rfl; have y4 := hSw.2.cell 4 _ rfl
        go_simp
        first | done | with_reducible rfl
      try simp only [Act.put, List.setIfInBounds_toArray, List.set]
      clear hHeld
      refine PhaseN.takeP (i := 10) (v := ?_) 40 rfl (by rfl) (by kernel_rfl) (by kernel_rfl) (by kernel_rfl) (fun _ _ _ h => h) (Or.inl ⟨by kernel_rfl, ?_⟩) ?_
      rotate_left
      · intro w' hSw
        go_simp
        first | done | with_reducible rfl
      try simp only [Act.put, List.setIfInBounds_toArray, List.set]
      obtain ⟨om, eom⟩ : ∃ o, (mixC ops j)[j]? = some o := ⟨_, List.getElem?_eq_getElem (by rw [WO.out.len]; exact hlt)⟩
      obtain ⟨⟨c0, c1, c2, c3, c4⟩, ⟨s0, s1, s2, s3, s4⟩⟩ := WO.out.at_ j om eom
      refine PhaseN.one (i := 11) (by kernel_rfl) rfl (by kernel_rfl) (fun K hK => ?_)
      unfold Oper.wpIn
      refine ⟨fun _ _ => trivial, ?_⟩
      go_simp
      have tN := set5_turn d1 g (j * 5) (.int .i64 kd) (.int .i64 ox) (.int .i64 oy) (.int .i64 ok) (.int .i64 ot)
      have WN := WO.out.set hlt rfl ⟨kd, ox, oy, ok, ot⟩
      rw [← MN.out] at WN
      have RBn := RB.out.turn tN (fun e => FZ.out e.symm)
      have RNn := RN.out.turn tN (by have := QL.out.2 g rfl; omega)
      have LMn := LM.out.turn tN (by have := QL.out.2 g rfl; omega)
      have ROn := RO3.out.turn tN (by have := LO.out; omega)
      have KWn := keep_turn KW.out tN (Or.inl (Or.inr rfl))
      unfold set5 at tN WN RBn RNn LMn ROn KWn
      simp only [] at WN
      refine hK _ _ (fun h => absurd h (by decide)) ?_
      clear hK K c0 c1 c2 c3 c4 s0 s1 s2 s3 s4 eom
      try simp only [Act.put, List.setIfInBounds_toArray, List.set]
      generalize (((((d1.setCell ⟨g, j * 5, none⟩ (.int .i64 kd)).setCell ⟨g, j * 5 + 1, none⟩ (.int .i64 ox)).setCell ⟨g, j * 5 + 2, none⟩ (.int .i64 oy)).setCell ⟨g, j * 5 + 3, none⟩ (.int .i64 ok)).setCell ⟨g, j * 5 + 4, none⟩ (.int .i64 ot)) = d2 at tN WN RBn RNn LMn ROn KWn ⊢
      replace WO := hide WN
      replace RB := hide RBn
      replace RN := hide RNn
      replace LM := hide LMn
      replace RO3 := hide ROn
      replace KW := hide KWn
      clear tN WN RBn RNn LMn ROn KWn
      refine PhaseN.takeP (i := 12) (v := ?_) 41 rfl (by rfl) (by kernel_rfl) (by kernel_rfl) (by kernel_rfl) (fun _ _ _ h => h) (Or.inl ⟨by kernel_rfl, ?_⟩) ?_
      rotate_left
      · intro w' hSw
        go_simp
        first | done | with_reducible rfl
      try simp only [Act.put, List.setIfInBounds_toArray, List.set]
      obtain ⟨v0, ev0⟩ : ∃ v, (nowL ops n j)[j]? = some v := ⟨_, List.getElem?_eq_getElem (by rw [NL.out]; exact hlt)⟩
      have cn := RN.out.cell j (.int .i64 v0) (by simp [vals, ev0])
      have fn := RN.out.soft j
      refine PhaseN.one (i := 13) (by kernel_rfl) rfl (by kernel_rfl) (fun K hK => ?_)
      unfold Oper.wpIn
      refine ⟨fun _ _ => trivial, ?_⟩
      go_simp
      have tN := (Turn.refl (w.heap.size + 1) d2).setCell (p := ⟨w.heap.size + 1, j, none⟩) rfl (.int .i64 (j : Int))
      have RNn := RN.out.set j (.int .i64 (j : Int)) (by rw [vals_len, NL.out]; exact hlt) rfl
      rw [vals_set] at RNn
      have WOn := WO.out.turn tN (by have := QL.out.2 g rfl; omega)
      have RBn := RB.out.turn tN (by have := QL.out.1; omega)
      have LMn := LM.out.turn tN (by omega)
      have ROn := RO3.out.turn tN (by have := LO.out; omega)
      have KWn := keep_turn KW.out tN (Or.inr (by omega))
      refine hK _ _ (fun h => absurd h (by decide)) ?_
      clear hK K cn fn ev0
      try simp only [Act.put, List.setIfInBounds_toArray, List.set]
      generalize d2.setCell ⟨w.heap.size + 1, j, none⟩ (.int .i64 (j : Int)) = d3 at tN RNn WOn RBn LMn ROn KWn ⊢
      replace WO := hide WOn
      replace RB := hide RBn
      replace RN := hide RNn
      replace LM := hide LMn
      replace RO3 := hide ROn
      replace KW := hide KWn
      clear tN WOn RBn RNn LMn ROn KWn
      refine PhaseN.done (by kernel_rfl) ?_ _
      have o0 := RO3.out.cell 0 _ rfl
      have o1 := RO3.out.cell 1 _ rfl
      have o3 := RO3.out.cell 3 _ rfl
      obtain ⟨_, _, l3⟩ := copyS_len ops j jl
      obtain ⟨la, ela⟩ : ∃ la, (copyS ops j).la = la := ⟨_, rfl⟩
      rw [ela] at LM NX NN l3
      have reg : (kd = 2 ∨ kd = 8) → ∃ r : Nat, ok = r ∧ r < 4 := fun h => by have := KR.out h; exact ⟨ok.toNat, by omega, by omega⟩
      clear KR MN

      by_cases e2 : kd = 2
      · subst e2
        obtain ⟨r, rfl, r4⟩ := reg (Or.inl rfl)
        have CL := CI.out.la (r : Int) (by omega) (by omega)
        rw [ela] at CL
        clear reg ela
        obtain ⟨nn, dm, hown, hnn, hh3, hh4⟩ := LM.out
        have wfR : (Lit.int .i64 (r : Int)).wf = true := by
          have h := wrap64_wf (r : Int)
          rwa [IntWalk.wrap64_in _ ⟨by omega, by omega⟩] at h
        have hkey := Maps.keyOf_int_mk (P := Tryd.prog) (k := 3) Tryd.underlying3 wfR
        have H3 := hide (hh3 r r4)
        have H4 := hide (hh4 r r4)
        go_wp2_with (at_lookup; refine wpList_lookup_own_ok_int _ rfl _ _ 78 rfl 3 3 .i64 (Maps.int_keyed Tryd.underlying3) Tryd.underlying78 Tryd.underlying3 (Tryd.zeroValue3 _) w.heap.size nn dm rfl hown _ _ rfl hkey ?_; intro cv hat hwc; rw [H3.out]; refine Hid.out ?_)
        clear hown hnn hh3 hh4 hkey wfR
        refine hide ?_
        by_cases hv : 0 ≤ atL la (r : Int)
        · have ec : cv = atL la (r : Int) := by
            have := H4.out hv
            rw [hat] at this
            simpa using this
          subst ec
          clear hat hwc H3 H4
          obtain ⟨mm, _, em, lm, _⟩ := CL hv
          rw [em] at hv ⊢
          rw [decide_eq_true hv]
          clear CL
          have cn := RN.out.cell j (.int .i64 (j : Int)) (by simp only [vals, List.getElem?_map]; rw [List.getElem?_set_self (by rw [NL.out]; exact hlt)]; rfl)
          have fn := RN.out.soft j
          have tN := (Turn.refl (w.heap.size + 1) d3).setCell (p := ⟨w.heap.size + 1, j, none⟩) rfl (.int .i64 (mm : Int))
          have RNn := RN.out.set j (.int .i64 (mm : Int)) (by rw [vals_len, List.length_set, NL.out]; exact hlt) rfl
          rw [vals_set, List.set_set] at RNn
          have WOn := hide (WO.out.turn tN (by have := QL.out.2 g rfl; omega))
          have RBn := hide (RB.out.turn tN (by have := QL.out.1; omega))
          have LMn := hide (LM.out.turn tN (by omega))
          have ROn := hide (RO3.out.turn tN (by have := LO.out; omega))
          have KWn := hide (keep_turn KW.out tN (Or.inr (by omega)))
          have RNm := hide RNn
          clear RNn tN RB WO RN LM RO3 KW
          go_wp2_with fail
          clear cn fn o0 o1 o3
          generalize d3.setCell ⟨w.heap.size + 1, j, none⟩ (.int .i64 (mm : Int)) = d4 at WOn RBn LMn ROn KWn RNm ⊢
          have SA : sameO ⟨2, ox, oy, (r : Int), ot⟩ la j = (mm : Int) := by unfold sameO; simp only []; rw [em, if_pos ⟨by trivial, hv⟩]
          have SB : lastO ⟨2, ox, oy, (r : Int), ot⟩ la (sameO ⟨2, ox, oy, (r : Int), ot⟩ la j) = la.set r (mm : Int) := by rw [SA]; unfold lastO; simp only [if_true, Int.toNat_natCast]
          have AV : Hid (((nowL ops n j).set j (mm : Int))[j]? = some (mm : Int)) := show _ = _ from List.getElem?_set_self (by rw [NL.out]; exact hlt)
          have SM : Hid (mm ≤ 48) := show _ ≤ _ by omega
          clear em hv
          have rl := ROn.out.cell 0 _ rfl
          have ra := ROn.out.cell 3 _ rfl
          have cn := RNm.out.cell j (.int .i64 (mm : Int)) (by simp only [vals, List.getElem?_map]; rw [AV.out]; rfl)
          go_wp2_with fail
          refine region_tail 7 (by kernel_rfl) (by kernel_rfl) ?_
          simp only [List.take_succ_cons, List.take_zero, List.drop_succ_cons, List.drop_zero]
          repeat still_step
          refine wpStill_nil ?_
          have bd : Below d4.heap.size d4 d4.drew := (Below.refl _ _).drew
          have RB := hide (RBn.out.below bd)
          have WO := hide (WOn.out.below bd)
          have LM := hide (LMn.out.below bd)
          have RN := hide (RNm.out.below bd)
          have KW := hide (keep_below KWn.out bd)
          clear bd RBn WOn LMn RNm KWn rl ra cn ROn AV
          have l48 := SM.out
          obtain ⟨nn, dm, hown, hnn, hh3, hh4⟩ := LM.out
          have hmap := hown.isMap
          have wfV : (Lit.int .i64 ((mm : Int))).wf = true := by
            have h := wrap64_wf ((mm : Int))
            rwa [IntWalk.wrap64_in _ ⟨by omega, by omega⟩] at h
          have wfR : (Lit.int .i64 (r : Int)).wf = true := by
            have h := wrap64_wf (r : Int)
            rwa [IntWalk.wrap64_in _ ⟨by omega, by omega⟩] at h
          have hkey := Maps.keyOf_int_mk (P := Tryd.prog) (k := 3) Tryd.underlying3 wfR
          go_wp2_with (at_mapUpdate; refine wpList_mapUpdate_own _ rfl _ _ _ 78 rfl 3 3 (Maps.int_keyed Tryd.underlying3) Tryd.underlying78 _ w.heap.size nn dm rfl hown (by unfold maxLen; omega) _ _ _ rfl rfl hkey (.lit (.int .i64 ((mm : Int)))) [] (plainElem_int Tryd.underlying3 wfV) ?_; intro w9 hown9 hgrow9; refine Hid.out ?_)
          have T9 := Turn.of_grown hgrow9
          have LM9 := hide (LMap.put hmap hnn hh3 hh4 l3 r4 (v := (mm : Int)) (by omega) hown9)
          replace RB := hide (RB.out.turn T9 (by have := QL.out.1; omega))
          replace WO := hide (WO.out.turn T9 (by have := QL.out.2 g rfl; omega))
          replace RN := hide (RN.out.turn T9 (by omega))
          replace KW := hide (keep_turn KW.out T9 (Or.inr (Nat.le_refl _)))
          clear T9 hown hmap hown9 hgrow9 hh3 hh4 hkey
          have LN : Hid (LMap w9 w.heap.size (j + 1) (copyS ops (j + 1)).la) := by rw [NX.out, SB]; exact LM9.out
          have RN9 : Hid (Rec (w.heap.size + 1) (vals (nowL ops n (j + 1))) w9) := by rw [NN.out, SA]; exact RN.out
          clear SA SB NX NN
          refine hide ?_
          go_wp2
          exact ⟨⟨j + 1, by omega, by go_num, RB, hide (Or.inr ⟨g, rfl, WO.out⟩), RN9, LN, KW⟩, by simp [intOf]; omega⟩
        · rw [decide_eq_false hv]
          clear hat hwc H3 H4 CL
          have SA : sameO ⟨2, ox, oy, (r : Int), ot⟩ la j = (j : Int) := by unfold sameO; simp only []; rw [if_neg (fun h => hv h.2)]
          have SB : lastO ⟨2, ox, oy, (r : Int), ot⟩ la (sameO ⟨2, ox, oy, (r : Int), ot⟩ la j) = la.set r (j : Int) := by rw [SA]; unfold lastO; simp only [if_true, Int.toNat_natCast]
          have AV : Hid (((nowL ops n j).set j (j : Int))[j]? = some (j : Int)) := show _ = _ from List.getElem?_set_self (by rw [NL.out]; exact hlt)
          have SM : Hid (j ≤ 48) := show _ ≤ _ by omega
          have WOn := WO
          have RBn := RB
          have LMn := LM
          have ROn := RO3
          have KWn := KW
          have RNm := RN
          clear hv WO RB LM RO3 KW RN o0 o1 o3
          generalize d3 = d4 at WOn RBn LMn ROn KWn RNm ⊢
          have rl := ROn.out.cell 0 _ rfl
          have ra := ROn.out.cell 3 _ rfl
          have cn := RNm.out.cell j (.int .i64 (j : Int)) (by simp only [vals, List.getElem?_map]; rw [AV.out]; rfl)
          go_wp2_with fail
          refine region_tail 7 (by kernel_rfl) (by kernel_rfl) ?_
          simp only [List.take_succ_cons, List.take_zero, List.drop_succ_cons, List.drop_zero]
          repeat still_step
          refine wpStill_nil ?_
          have bd : Below d4.heap.size d4 d4.drew := (Below.refl _ _).drew
          have RB := hide (RBn.out.below bd)
          have WO := hide (WOn.out.below bd)
          have LM := hide (LMn.out.below bd)
          have RN := hide (RNm.out.below bd)
          have KW := hide (keep_below KWn.out bd)
          clear bd RBn WOn LMn RNm KWn rl ra cn ROn AV
          have l48 := SM.out
          obtain ⟨nn, dm, hown, hnn, hh3, hh4⟩ := LM.out
          have hmap := hown.isMap
          have wfV : (Lit.int .i64 ((j : Int))).wf = true := by
            have h := wrap64_wf ((j : Int))
            rwa [IntWalk.wrap64_in _ ⟨by omega, by omega⟩] at h
          have wfR : (Lit.int .i64 (r : Int)).wf = true := by
            have h := wrap64_wf (r : Int)
            rwa [IntWalk.wrap64_in _ ⟨by omega, by omega⟩] at h
          have hkey := Maps.keyOf_int_mk (P := Tryd.prog) (k := 3) Tryd.underlying3 wfR
          go_wp2_with (at_mapUpdate; refine wpList_mapUpdate_own _ rfl _ _ _ 78 rfl 3 3 (Maps.int_keyed Tryd.underlying3) Tryd.underlying78 _ w.heap.size nn dm rfl hown (by unfold maxLen; omega) _ _ _ rfl rfl hkey (.lit (.int .i64 ((j : Int)))) [] (plainElem_int Tryd.underlying3 wfV) ?_; intro w9 hown9 hgrow9; refine Hid.out ?_)
          have T9 := Turn.of_grown hgrow9
          have LM9 := hide (LMap.put hmap hnn hh3 hh4 l3 r4 (v := (j : Int)) (by omega) hown9)
          replace RB := hide (RB.out.turn T9 (by have := QL.out.1; omega))
          replace WO := hide (WO.out.turn T9 (by have := QL.out.2 g rfl; omega))
          replace RN := hide (RN.out.turn T9 (by omega))
          replace KW := hide (keep_turn KW.out T9 (Or.inr (Nat.le_refl _)))
          clear T9 hown hmap hown9 hgrow9 hh3 hh4 hkey
          have LN : Hid (LMap w9 w.heap.size (j + 1) (copyS ops (j + 1)).la) := by rw [NX.out, SB]; exact LM9.out
          have RN9 : Hid (Rec (w.heap.size + 1) (vals (nowL ops n (j + 1))) w9) := by rw [NN.out, SA]; exact RN.out
          clear SA SB NX NN
          refine hide ?_
          go_wp2
          exact ⟨⟨j + 1, by omega, by go_num, RB, hide (Or.inr ⟨g, rfl, WO.out⟩), RN9, LN, KW⟩, by simp [intOf]; omega⟩
      have n2 : (kd == 2) = false := beq_eq_false_iff_ne.2 e2
      by_cases e8 : kd = 8
      · subst e8
        obtain ⟨r, rfl, r4⟩ := reg (Or.inr rfl)
        have SA : sameO ⟨8, ox, oy, (r : Int), ot⟩ la j = (j : Int) := by unfold sameO; exact if_neg (fun h => absurd (show (8 : Int) = 2 from h.1) (by decide))
        have SB : lastO ⟨8, ox, oy, (r : Int), ot⟩ la (sameO ⟨8, ox, oy, (r : Int), ot⟩ la j) = la.set r ox := by unfold lastO; simp
        obtain ⟨o0x, o48⟩ : 0 ≤ ox ∧ ox ≤ 48 := OXB.out rfl
        clear reg ela
        obtain ⟨nn, dm, hown, hnn, hh3, hh4⟩ := LM.out
        have hmap := hown.isMap
        have wfV : (Lit.int .i64 (ox)).wf = true := by
          have h := wrap64_wf (ox)
          rwa [IntWalk.wrap64_in _ ⟨by omega, by omega⟩] at h
        have wfR : (Lit.int .i64 (r : Int)).wf = true := by
          have h := wrap64_wf (r : Int)
          rwa [IntWalk.wrap64_in _ ⟨by omega, by omega⟩] at h
        have hkey := Maps.keyOf_int_mk (P := Tryd.prog) (k := 3) Tryd.underlying3 wfR
        go_wp2_with (at_mapUpdate; refine wpList_mapUpdate_own _ rfl _ _ _ 78 rfl 3 3 (Maps.int_keyed Tryd.underlying3) Tryd.underlying78 _ w.heap.size nn dm rfl hown (by unfold maxLen; omega) _ _ _ rfl rfl hkey (.lit (.int .i64 (ox))) [] (plainElem_int Tryd.underlying3 wfV) ?_; intro w9 hown9 hgrow9; refine Hid.out ?_)
        have T9 := Turn.of_grown hgrow9
        have LM9 := hide (LMap.put hmap hnn hh3 hh4 l3 r4 (v := ox) (by omega) hown9)
        replace RB := hide (RB.out.turn T9 (by have := QL.out.1; omega))
        replace WO := hide (WO.out.turn T9 (by have := QL.out.2 g rfl; omega))
        replace RN := hide (RN.out.turn T9 (by omega))
        replace KW := hide (keep_turn KW.out T9 (Or.inr (Nat.le_refl _)))
        clear T9 hown hmap hown9 hgrow9 hh3 hh4 hkey
        have LN : Hid (LMap w9 w.heap.size (j + 1) (copyS ops (j + 1)).la) := by rw [NX.out, SB]; exact LM9.out
        have RN9 : Hid (Rec (w.heap.size + 1) (vals (nowL ops n (j + 1))) w9) := by rw [NN.out, SA]; exact RN.out
        clear SA SB NX NN
        refine hide ?_
        go_wp2
        exact ⟨⟨j + 1, by omega, by go_num, RB, hide (Or.inr ⟨g, rfl, WO.out⟩), RN9, LN, KW⟩, by simp [intOf]; omega⟩
      · have n8 : (kd == 8) = false := beq_eq_false_iff_ne.2 e8
        have SA : sameO ⟨kd, ox, oy, ok, ot⟩ la j = (j : Int) := by unfold sameO; exact if_neg (fun h => e2 h.1)
        have SB : lastO ⟨kd, ox, oy, ok, ot⟩ la (sameO ⟨kd, ox, oy, ok, ot⟩ la j) = la := by unfold lastO; simp only []; rw [if_neg e2, if_neg e8]
        have LN : Hid (LMap d3 w.heap.size (j + 1) (copyS ops (j + 1)).la) := by rw [NX.out, SB]; exact LM.out.more (by omega)
        have RN9 : Hid (Rec (w.heap.size + 1) (vals (nowL ops n (j + 1))) d3) := by rw [NN.out, SA]; exact RN.out
        clear SA SB NX NN reg
        go_wp2
        exact ⟨⟨j + 1, by omega, by go_num, RB, hide (Or.inr ⟨g, rfl, WO.out⟩), RN9, LN, KW⟩, by simp [intOf]; omega⟩
    · have lk : ¬ ((j : Nat) : Int) < (n : Nat) := by omega
      have ej : j = ops.length := by rw [HL.out]; omega
      have OB2 : Hid (Ob wr q n c (copyS ops ops.length).ops) := show Ob _ _ _ _ _ by rw [← mix_end, ← ej]; exact OB.out
      have NE : Hid (nowL ops n j = (copyS ops ops.length).al) := show _ = _ by rw [← HL.out, ej]; exact now_end ops
      have RR := rec_row RN.out (by rw [NL.out]; omega)
      rw [NL.out] at RR
      have RR2 := hide RR
      obtain ⟨e1, e2, _, e4, _⟩ := end_parts END.out
      have CALL := moveEnd (⟨pc, ln, ops, en, bx, by_, bk⟩ : Bk) (copyS ops ops.length).ops q n c Z (nowL ops n j) (w.heap.size + 1) _ wr RB.out RR2.out (TB.out.tbs KW.out) e1 (fun h => by rw [NL.out]; obtain ⟨m, _, e, l, _⟩ := val_get (e2 h); exact ⟨m, e, by rw [HL.out] at l; exact l⟩) (fun h => by rw [NL.out]; obtain ⟨m, _, e, l, _⟩ := val_get (e4 h); exact ⟨m, e, by rw [HL.out] at l; exact l⟩)
      rw [NE.out, ER.out] at CALL
      have CA := hide CALL
      clear CALL e1 e2 e4 RR RR2
      go_wp2_with fail
      refine CA.out.mono ?_
      rintro e u ⟨rfl, RZ, TZ⟩
      have OBn := OB2.out.turn TZ (fun g e => FAR.out g e)
      have EO : R.ops = (copyS ops ops.length).ops := by rw [← ER.out]; rfl
      have FIN : Hid (Wy w Z q R (.returned (.tuple #[])) u) := ⟨rfl, ⟨q, n, c, ⟨RZ, by rw [EO]; exact OBn, FAR.out⟩, Or.inl rfl⟩, keep_turn KW.out TZ (Or.inl (Or.inl rfl))⟩
      clear RZ TZ OBn EO CA
      go_wp2
      exact bodyPost_end (v := .tuple #[]) (by simp [results, Tryd.results41, go_sem]) rfl FIN.out
theorem cpyWay : Way 41 cpyF where
  en := fun args w => by kernel_rfl
  ok := fun b h => by rw [← cpy_eq h]; exact copy_ok h
  go := fun b Z q n c w ht h hok => takeKnown b Z q n c w ht h hok
theorem noCopy {b : Bk} (h : okB b = false) : copyB b = nilB := by unfold copyB; rw [h]; rfl
theorem lenCopy (b : Bk) : (copyB b).ops.length ≤ b.ops.length := by
  unfold copyB
  split
  · show (copyS b.ops b.ops.length).ops.length ≤ _
    rw [(copyS_len b.ops b.ops.length (Nat.le_refl _)).1]
    exact Nat.le_refl _
  · exact Nat.zero_le _

end Go.Proofs.YtflhehofgplcoaaDoor.Op
