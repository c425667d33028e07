/-
  Our own hand, the program's keep.
-/
import Derived.Test.YtflhehofgplcoaaDoorOiP
import Derived.Test.YtflhehofgplcoaaDoorOsM
namespace Go.Proofs.YtflhehofgplcoaaDoor.Op
set_option linter.unusedVariables false
set_option linter.unusedSimpArgs false
open Go.ChangeShapes Go.WideShapes Go.ChangeAt Go.RowKit IntS Flat Irk
open Ir Dt
open Mch (Rec)
open Pol (Keep)
open Push
/-- Where words are now: what is kept so far. -/
def nowK (ops : List Opn) (keep : List Bool) (n : Nat) : Nat → List Int
  | 0 => List.replicate n 0
  | j + 1 => if keep.getD j false = true then (nowK ops keep n j).set j ((dropS ops keep j).1.length : Int) else nowK ops keep n j
theorem nowK_len (ops : List Opn) (keep : List Bool) (n : Nat) : ∀ j, (nowK ops keep n j).length = n
  | 0 => by simp [nowK]
  | j + 1 => by
    unfold nowK
    split
    · rw [List.length_set]; exact nowK_len ops keep n j
    · exact nowK_len ops keep n j
theorem nowK_at {ops : List Opn} {keep : List Bool} {n : Nat} : ∀ (j : Nat), j ≤ n → ∀ i : Nat, i < j → keep.getD i false = true → atL (nowK ops keep n j) (i : Int) = ((dropS ops keep i).1.length : Int)
  | 0, _, i, hi, _ => by omega
  | j + 1, hj, i, hi, hk => by
    have hl := nowK_len ops keep n j
    unfold nowK
    by_cases e : i = j
    · subst e
      rw [if_pos hk]
      exact atL_get (List.getElem?_set_self (by omega))
    · have IH := nowK_at (ops := ops) (keep := keep) (n := n) j (by omega) i (by omega) hk
      split
      · have := atL_set (nowK ops keep n j) (j : Int) (i : Int) ((dropS ops keep j).1.length : Int) (by omega) (by omega) (by omega)
        rw [Int.toNat_natCast] at this
        rw [this, if_neg (by omega), IH]
      · exact IH
theorem alias_keep {b : Bk} (hok : okB b = true) {keep : List Bool} (R : Refs b keep) {j : Nat} {o : Opn} (h : b.ops[j]? = some o) (hk : keep.getD j false = true) : aliasO o (nowK b.ops keep b.ops.length (j + 1)) = aliasO o ((dropS b.ops keep j).2 ++ [((dropS b.ops keep j).1.length : Int)]) := by
  have hj := (List.getElem?_eq_some_iff.1 h).1
  obtain ⟨l1, _⟩ := dropS_len b.ops keep j (by omega)
  obtain ⟨_, p1, _, p3, _⟩ := op_parts ((ok_parts hok).2.2.2.1 j o h)
  have V : ∀ k : Int, valB (b.ops.take j) k = true → keep.getD k.toNat false = true → atL (nowK b.ops keep b.ops.length (j + 1)) k = atL ((dropS b.ops keep j).2 ++ [((dropS b.ops keep j).1.length : Int)]) k := fun k hv hr => by
    obtain ⟨m, _, rfl, e2, _⟩ := val_take hv
    rw [Int.toNat_natCast] at hr
    rw [nowK_at (j + 1) (by omega) m (by omega) hr, atL_app (by omega) (by omega), dropS_to b.ops keep j (by omega) m e2]
  unfold aliasO
  have X : (if mvX o.kd = true then atL (nowK b.ops keep b.ops.length (j + 1)) o.x else o.x) = (if mvX o.kd = true then atL ((dropS b.ops keep j).2 ++ [((dropS b.ops keep j).1.length : Int)]) o.x else o.x) := by
    split
    · rename_i e; exact V _ (p1 e) (R.x j o h hk e)
    · rfl
  have Y : (if mvY o.kd = true then atL (nowK b.ops keep b.ops.length (j + 1)) o.y else o.y) = (if mvY o.kd = true then atL ((dropS b.ops keep j).2 ++ [((dropS b.ops keep j).1.length : Int)]) o.y else o.y) := by
    split
    · rename_i e; exact V _ (p3 e) (R.y j o h hk e)
    · rfl
  rw [X, Y]
theorem end_keep {b : Bk} (hok : okB b = true) {keep : List Bool} (R : Refs b keep) : endO b (dropS b.ops keep b.ops.length).1 (nowK b.ops keep b.ops.length b.ops.length) = dropB b keep := by
  obtain ⟨_, p1, _, p3, _⟩ := end_parts (ok_parts hok).2.2.2.2
  have V : ∀ k : Int, valB b.ops k = true → keep.getD k.toNat false = true → atL (nowK b.ops keep b.ops.length b.ops.length) k = atL (dropS b.ops keep b.ops.length).2 k := fun k hv hr => by
    obtain ⟨m, _, rfl, e2, _⟩ := val_get hv
    rw [Int.toNat_natCast] at hr
    rw [nowK_at b.ops.length (Nat.le_refl _) m e2 hr, dropS_to b.ops keep b.ops.length (Nat.le_refl _) m e2]
  unfold dropB endO
  have X : (if b.en = 1 then b.x else atL (nowK b.ops keep b.ops.length b.ops.length) b.x) = (if b.en = 1 then b.x else atL (dropS b.ops keep b.ops.length).2 b.x) := by
    by_cases e : b.en = 1
    · rw [if_pos e, if_pos e]
    · rw [if_neg e, if_neg e]; exact V _ (p1 e) (R.ex e)
  have Y : (if b.en = 3 ∨ b.en = 4 then atL (nowK b.ops keep b.ops.length b.ops.length) b.y else b.y) = (if b.en = 3 ∨ b.en = 4 then atL (dropS b.ops keep b.ops.length).2 b.y else b.y) := by
    by_cases e : b.en = 3 ∨ b.en = 4
    · rw [if_pos e, if_pos e]; exact V _ (p3 e) (R.ey e)
    · rw [if_neg e, if_neg e]
  rw [X, Y]
set_option maxRecDepth 8000 in
set_option maxHeartbeats 16000000 in
theorem keepH (b : Bk) (keep : List Bool) (s : Nat) (Z : Nat) (q : Option Addr) (n c : Nat) (w : World) (ht : Based w Z q) (h : Hd w Z q n c b) (hok : okB b = true) (RF : Refs b keep) (hs : s < 2 ^ 64) (hb : ∀ i, i < n → s.testBit i = keep.getD i false) :
    Calls Tryd.prog 51 #[.pointer (some ⟨Z, 0, none⟩), .int .u64 (s : Int)] w fun e w' => Wy w Z q (dropB b keep) e w' := by
  have AN := hide (fun j o => alias_keep hok RF (j := j) (o := o))
  have EN := hide (end_keep hok RF)
  obtain ⟨h1, h2, h3, h4, h5⟩ := ok_parts hok
  obtain ⟨pc, ln, ops, en, bx, by_, bk⟩ := b
  simp only [] at h1 h2 h3 h4 h5 AN EN ⊢
  obtain ⟨R, eR⟩ : ∃ R, dropB (⟨pc, ln, ops, en, bx, by_, bk⟩ : Bk) keep = R := ⟨_, rfl⟩
  rw [eR] at EN ⊢
  have hl := h.ops.len
  simp only [] at hl
  have OPS := hide h4
  have END := hide h5
  have RB0 := h.box
  have OB0 := h.ops
  simp only [] at RB0 OB0
  have FAR := hide h.far
  have QL : Hid (Z < w.heap.size ∧ ∀ g, q = some ⟨g, 0, none⟩ → g < w.heap.size) := ⟨h.box.lt, fun g e => h.ops.lt e⟩
  have TB := hide ht
  have SB := hide hb
  have bM : Below w.heap.size w (w.alloc (.cells (madeCells #[.int .i64 0] n) 3)) := (Below.refl _ _).alloc (Nat.le_refl _) _
  have hmk := run_make_row' (P := Tryd.prog) 57 3 (.int .i64 0) 8 Tryd.underlying57 (by kernel_rfl) rfl .i64 .i64 n (by omega) (by omega) w
  have rn := made_rec w n
  have z2 := RB0.cell 2 _ rfl
  have RB := hide (RB0.below bM)
  have OB := hide (OB0.below bM)
  have KW : Hid (Keep (Its Z q) w (w.alloc (.cells (madeCells #[.int .i64 0] n) 3))) := Pol.Keep.of_below bM
  have RN : Hid (Rec w.heap.size (vals (nowK ops keep n 0)) (w.alloc (.cells (madeCells #[.int .i64 0] n) 3))) := rn
  have OO : Hid (OwnO (w.alloc (.cells (madeCells #[.int .i64 0] n) 3)) (w.heap.size + 1) (.slice none 0 0) []) := OwnF.nil _ _ _ _
  have z2b := RB.out.cell 2 _ rfl
  have HL := hide hl
  have n48 : n ≤ 48 := by omega
  have SW : Hid (w.heap.size + 1 ≤ (w.alloc (.cells (madeCells #[.int .i64 0] n) 3)).heap.size) := by show _ ≤ _; simp
  clear eR h hok h4 h5 RB0 OB0 bM rn ht hl h3 hb RF
  go_enter Tryd.func51, Tryd.ntmps51
  go_wp2
  clear z2 z2b hmk
  generalize (w.alloc (.cells (madeCells #[.int .i64 0] n) 3)) = W1 at RB OB KW RN OO SW ⊢
  go_loopw [4, 21] (fun so i wr => ∃ (j co : Nat) (qo : Option Addr) (out : List Opn), j ≤ n ∧ i = .int .i64 j ∧ so = .slice qo out.length co ∧ Hid (out = (dropS ops keep j).1) ∧ Hid (OwnO wr (w.heap.size + 1) (.slice qo out.length co) out) ∧ Hid (Rec Z [.int .i64 pc, .int .i64 ln, .slice q n c, .int .i64 en, .int .i64 bx, .int .i64 by_, .int .i64 bk] wr) ∧ Hid (Ob wr q n c ops) ∧ Hid (Rec w.heap.size (vals (nowK ops keep n j)) wr) ∧ Hid (Keep (Its Z q) w wr) ∧ Hid (w.heap.size + 1 ≤ wr.heap.size)) (fun _ i _ => n - (intOf i).toNat)
  case atStart => exact ⟨0, 0, none, [], by omega, rfl, rfl, rfl, OO, RB, OB, RN, KW, SW⟩
  case round =>
    clear OO RB OB RN KW SW
    obtain ⟨j, co, qo, out, hj, rfl, rfl, EO, OO, RB, OB, RN, KW, SW⟩ := hrel
    have jl : j ≤ ops.length := by rw [HL.out]; exact hj
    have LT : Hid (out.length ≤ j) := show _ ≤ _ by rw [EO.out]; exact (dropS_len ops keep j jl).2
    have NL := hide (nowK_len ops keep n j)
    by_cases hlt : j < n
    · obtain ⟨g, rfl, W0⟩ := OB.out.some hlt
      obtain ⟨o, et⟩ : ∃ o, ops[j]? = some o := ⟨_, List.getElem?_eq_getElem (by rw [HL.out]; exact hlt)⟩
      obtain ⟨c0, ca, cb, cc, cd⟩ := (W0.at_ j o et).1
      have OP := op_parts (OPS.out j o et)
      have NX := hide (dropS_next (keep := keep) et)
      have AJ := hide (AN.out j o et)
      rw [← EO.out] at NX AJ
      have OK1 := hide OP.1
      have IX : Hid ((mvX o.kd = true → ∃ m : Nat, o.x = m ∧ m < n) ∧ (mvY o.kd = true → ∃ m : Nat, o.y = m ∧ m < n)) := ⟨fun hx => by obtain ⟨m, _, e, h1, _⟩ := val_take (OP.2.1 hx); exact ⟨m, e, by omega⟩, fun hy => by obtain ⟨m, _, e, h1, _⟩ := val_take (OP.2.2.2.1 hy); exact ⟨m, e, by omega⟩⟩
      have MX := W0.mx
      have ML := W0.le
      unfold maxLen at MX
      have lk : ((j : Nat) : Int) < (n : Nat) := by omega
      obtain ⟨kd, ox, oy, ok, ot⟩ := o
      simp only [] at c0 ca cb cc cd NX AJ OK1 IX
      have RO := hide (Rec.new wr [.int .i64 kd, .int .i64 ox, .int .i64 oy, .int .i64 ok, .int .i64 ot] 41)
      have bo : Below wr.heap.size wr (wr.alloc (.cells #[.int .i64 kd, .int .i64 ox, .int .i64 oy, .int .i64 ok, .int .i64 ot] 41)) := (Below.refl _ _).alloc (Nat.le_refl _) _
      replace OO := hide (OO.out.below bo)
      replace RB := hide (RB.out.below bo)
      replace OB := hide (OB.out.below bo)
      replace RN := hide (RN.out.below bo)
      replace KW := hide (keep_below KW.out bo)
      have LO : Hid (w.heap.size + 1 ≤ wr.heap.size ∧ g < w.heap.size) := ⟨SW.out, QL.out.2 g rfl⟩
      replace SW := hide (Nat.le_trans SW.out bo.size)
      clear bo et OP W0
      go_wp2_with fail
      clear c0 ca cb cc cd
      obtain ⟨ob, eob⟩ : ∃ z, wr.heap.size = z := ⟨_, rfl⟩
      rw [eob] at RO LO ⊢
      generalize wr.alloc (.cells #[.int .i64 kd, .int .i64 ox, .int .i64 oy, .int .i64 ok, .int .i64 ot] 41) = w1 at OO RB OB RN KW RO SW ⊢
      refine (bitHas s j _ hs (by omega)).mono ?_
      rintro e w2 ⟨rfl, rfl⟩
      rw [SB.out j hlt]
      clear eob
      obtain ⟨kb, ek⟩ : ∃ z, keep.getD j false = z := ⟨_, rfl⟩
      rw [ek] at NX AJ ⊢
      have NK : nowK ops keep n (j + 1) = if kb = true then (nowK ops keep n j).set j ((dropS ops keep j).1.length : Int) else nowK ops keep n j := by rw [← ek]; rfl
      rw [← EO.out] at NK
      have NKH := hide NK
      clear ek NK
      cases kb with
      | false =>
        simp only [Bool.false_eq_true, if_false] at NX NKH
        have E2 : Hid (out = (dropS ops keep (j + 1)).1) := show _ = _ by rw [NX.out]
        have RN2 : Hid (Rec w.heap.size (vals (nowK ops keep n (j + 1))) w2) := by rw [NKH.out]; exact RN.out
        go_wp2
        exact ⟨⟨j + 1, co, qo, out, by omega, by go_num, rfl, E2, OO, RB, OB, RN2, KW, SW⟩, by simp [intOf]; omega⟩
      | true =>
        simp only [if_true] at NX NKH
        have AJ2 := AJ.out rfl
        rw [HL.out] at AJ2
        obtain ⟨v0, ev0⟩ : ∃ v, (nowK ops keep n j)[j]? = some v := ⟨_, List.getElem?_eq_getElem (by rw [NL.out]; exact hlt)⟩
        have cn := RN.out.cell j (.int .i64 v0) (by simp [vals, ev0])
        have fn := RN.out.soft j
        have tN := (Turn.refl w.heap.size w2).setCell (p := ⟨w.heap.size, j, none⟩) rfl (.int .i64 (out.length : Int))
        have RNn := RN.out.set j (.int .i64 (out.length : Int)) (by rw [vals_len, NL.out]; exact hlt) rfl
        rw [vals_set, ← NKH.out] at RNn
        have OOn := hide (OO.out.turn tN (Or.inl (by omega)))
        have RBn := hide (RB.out.turn tN (by have := QL.out.1; omega))
        have OBn := hide (OB.out.turn tN (fun g' e => by cases e; have := LO.out; omega))
        have ROn := hide (RO.out.turn tN (by have := LO.out; omega))
        have KWn := hide (keep_turn KW.out tN (Or.inr (Nat.le_refl _)))
        have SWn := hide (Nat.le_trans SW.out tN.size)
        have RNm := hide RNn
        have o0 := ROn.out.cell 0 _ rfl
        have o1 := ROn.out.cell 1 _ rfl
        have o2 := ROn.out.cell 2 _ rfl
        have o3 := ROn.out.cell 3 _ rfl
        have o4 := ROn.out.cell 4 _ rfl
        clear RNn tN OO RB OB RN KW RO SW ev0
        go_wp2_with fail
        clear cn fn o0 o1 o2 o3 o4
        generalize w2.setCell ⟨w.heap.size, j, none⟩ (.int .i64 (out.length : Int)) = w3 at OOn RBn OBn ROn KWn SWn RNm ⊢
        have NL2 := nowK_len ops keep n (j + 1)
        have RR := rec_row RNm.out (by rw [NL2]; omega)
        rw [NL2] at RR
        have CALL := movedOp ⟨kd, ox, oy, ok, ot⟩ (nowK ops keep n (j + 1)) w.heap.size _ w3 RR (TB.out.tbs KWn.out) OK1.out (fun hx => by rw [NL2]; exact IX.out.1 hx) (fun hy => by rw [NL2]; exact IX.out.2 hy)
        rw [AJ2] at CALL
        obtain ⟨O, eO⟩ : ∃ O, aliasO ⟨kd, ox, oy, ok, ot⟩ ((dropS ops keep j).2 ++ [(out.length : Int)]) = O := ⟨_, rfl⟩
        rw [eO] at CALL NX
        have CA := hide CALL
        clear CALL RR eO AJ AJ2 IX OK1
        refine CA.out.mono ?_
        rintro e w4 ⟨rfl, hb4⟩
        have OO4 := OOn.out.below hb4
        have RB4 := RBn.out.below hb4
        have OB4 := OBn.out.below hb4
        have RN4 := RNm.out.below hb4
        have KW4 := keep_below KWn.out hb4
        have SW4 := Nat.le_trans SWn.out hb4.size
        have b5 : Below w4.heap.size w4 (w4.alloc (.cells #[.int .i64 O.kd, .int .i64 O.x, .int .i64 O.y, .int .i64 O.k, .int .i64 O.t] 41)) := (Below.refl _ _).alloc (Nat.le_refl _) _
        have RN5 := Rec.new w4 [.int .i64 O.kd, .int .i64 O.x, .int .i64 O.y, .int .i64 O.k, .int .i64 O.t] 41
        have OO5 := OO4.below b5
        have SW5 : w.heap.size + 1 ≤ (w4.alloc (.cells #[.int .i64 O.kd, .int .i64 O.x, .int .i64 O.y, .int .i64 O.k, .int .i64 O.t] 41)).heap.size := Nat.le_trans SW4 b5.size
        obtain ⟨gx, cx, w6, hrun, OX, GX, LX, gr⟩ := run_pushO (ty := 26) OO5 (by have := LT.out; omega) SW5 w4.heap.size O RN5
        obtain ⟨T, T6, hT⟩ := grown_turn gr (OO5.q_form.imp (fun e => e.1) id)
        have TG : w.heap.size + 1 ≤ T := by
          rcases hT with e | e
          · exact (OO5.q_lt e).1
          · rw [e]; exact SW5
        have RB6 := hide ((RB4.below b5).turn T6 (by have := QL.out.1; omega))
        have OB6 := hide ((OB4.below b5).turn T6 (fun g' e => by cases e; have := LO.out; omega))
        have RN6 := hide ((RN4.below b5).turn T6 (by omega))
        have KW6 := hide (keep_turn (keep_below KW4 b5) T6 (Or.inr (by omega)))
        have SW6 := hide (Nat.le_trans SW5 T6.size)
        have OX6 := hide OX
        have E2 : Hid (out ++ [O] = (dropS ops keep (j + 1)).1) := show _ = _ by rw [NX.out]
        clear OO4 RB4 OB4 RN4 KW4 SW4 b5 RN5 OO5 SW5 OX GX LX gr T6 hT TG hb4 CA NX OOn RBn OBn ROn KWn SWn RNm
        go_wp2_with (at_builtin; refine push_list rfl _ _ rfl rfl rfl hrun ?_; refine Hid.out ?_)
        clear hrun
        refine hide ?_
        go_wp2
        exact ⟨⟨j + 1, cx, some ⟨gx, 0, none⟩, out ++ [O], by omega, by go_num, by simp, E2, OX6, RB6, OB6, RN6, KW6, SW6⟩, by simp [intOf]; omega⟩
    · have lk : ¬ ((j : Nat) : Int) < (n : Nat) := by omega
      have ej : j = ops.length := by rw [HL.out]; omega
      have jn : j = n := by omega
      have E2 : Hid (out = (dropS ops keep ops.length).1) := show _ = _ by rw [EO.out, ej]
      have RR := rec_row RN.out (by rw [NL.out]; omega)
      rw [NL.out] at RR
      obtain ⟨e1, e2, _, e4, _⟩ := end_parts END.out
      have CALL := moveEnd (⟨pc, ln, ops, en, bx, by_, bk⟩ : Bk) out q n c Z (nowK ops keep n j) w.heap.size _ wr RB.out RR (TB.out.tbs KW.out) e1 (fun h => by rw [NL.out]; obtain ⟨m, _, e, l, _⟩ := val_get (e2 h); exact ⟨m, e, by rw [HL.out] at l; exact l⟩) (fun h => by rw [NL.out]; obtain ⟨m, _, e, l, _⟩ := val_get (e4 h); exact ⟨m, e, by rw [HL.out] at l; exact l⟩)
      have EE : endO (⟨pc, ln, ops, en, bx, by_, bk⟩ : Bk) out (nowK ops keep n j) = R := by
        have := EN.out
        rw [← E2.out] at this
        rw [jn, ← HL.out]
        exact this
      rw [EE] at CALL
      have RO : R.ops = out := by rw [← EE]; rfl
      have CA := hide CALL
      have ROH := hide RO
      clear CALL RR e1 e2 e4 EE RO
      go_wp2_with fail
      refine CA.out.mono ?_
      rintro e u ⟨rfl, RZ, TZ⟩
      have OOu := hide (OO.out.turn TZ (Or.inl (by have := QL.out.1; omega)))
      have KWu := hide (keep_turn KW.out TZ (Or.inl (Or.inl rfl)))
      have RZu := hide RZ
      have f2 := RZ.soft 2
      have z2 := RZ.cell 2 _ rfl
      clear RZ TZ CA OO KW RB OB RN
      have T7 := (Turn.refl Z u).setCell (p := ⟨Z, 2, none⟩) rfl (.slice qo out.length co)
      have R7 := RZu.out.set 2 (.slice qo out.length co) (by simp) (show _ = [.int .i64 R.pc, .int .i64 R.ln, .slice qo out.length co, .int .i64 R.en, .int .i64 R.x, .int .i64 R.y, .int .i64 R.k] from rfl)
      have O7 := OOu.out.turn T7 (Or.inl (by have := QL.out.1; omega))
      have OB7 : Ob (u.setCell ⟨Z, 2, none⟩ (.slice qo out.length co)) qo out.length co R.ops := by
        rw [ROH.out]
        rcases O7.q_form with ⟨rfl, rfl, h0, _⟩ | ⟨G, rfl⟩
        · exact Or.inl ⟨rfl, h0, rfl, List.length_eq_zero_iff.1 h0⟩
        · exact Or.inr ⟨G, rfl, (OwnO.form' O7).2⟩
      have FIN : Hid (Wy w Z q R (.returned (.tuple #[])) (u.setCell ⟨Z, 2, none⟩ (.slice qo out.length co))) := ⟨rfl, ⟨qo, out.length, co, ⟨R7, OB7, fun g e => by have := (O7.q_lt e).1; have := QL.out.1; omega⟩, Or.inr (fun g e => by have := (O7.q_lt e).1; omega)⟩, keep_turn KWu.out T7 (Or.inl (Or.inl rfl))⟩
      clear T7 R7 O7 OB7
      go_wp2
      exact bodyPost_end (v := .tuple #[]) (by simp [results, Tryd.results51, go_sem]) rfl FIN.out

end Go.Proofs.YtflhehofgplcoaaDoor.Op
