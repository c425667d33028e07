/-
  Plain data: parts of sums, by kinds.
-/
import Derived.Test.YtclccaigkcilcaaDtI
namespace Go.Proofs.Ytclccaigkcilcaa.Dt
set_option linter.unusedVariables false
set_option linter.unusedSimpArgs false
open Go.ChangeShapes Go.WideShapes Go.ChangeAt Go.RowKit IntS Pol
theorem monoR_rd {w : World} {cs : List Value} {a0 : Int} {x1 : List Int} (h : monoR.rd w cs (a0, x1)) : ∃ (q1 : Option Addr) (c1 : Nat), cs = [.int .i64 a0, .slice q1 x1.length c1] ∧ intsK.rd w (.slice q1 x1.length c1) x1 := by
  obtain ⟨vs0, e0, h0⟩ := h
  obtain ⟨v1, e1, k1⟩ := h0
  obtain ⟨q1, c1, f1, _, _⟩ := LRd.form k1
  subst f1
  subst e1
  subst e0
  exact ⟨q1, c1, rfl, k1⟩
theorem monoR_mk {w : World} {a0 : Int} {x1 : List Int} {v1 : Value} (k1 : intsK.rd w v1 x1) : monoR.rd w [.int .i64 a0, v1] (a0, x1) := ⟨_, rfl, ⟨_, rfl, k1⟩⟩
theorem monoR_own {w : World} {A : Nat → Prop} {cs : List Value} {a0 : Int} {x1 : List Int} (h : monoR.ow w A cs (a0, x1)) : ∃ (q1 : Option Addr) (c1 : Nat) (A1 : Nat → Prop), cs = [.int .i64 a0, .slice q1 x1.length c1] ∧ intsK.ow w A1 (.slice q1 x1.length c1) x1 ∧ (∀ b, A1 b → A b) := by
  obtain ⟨vs0, e0, h0⟩ := h
  obtain ⟨v1, e1, k1⟩ := h0
  obtain ⟨q1, c1, f1, _, _⟩ := LRd.form (intsK.od k1)
  subst f1
  subst e1
  subst e0
  exact ⟨q1, c1, A, rfl, k1, (fun b hb => hb)⟩
theorem monoR_omk {w : World} {A : Nat → Prop} {a0 : Int} {x1 : List Int} {v1 : Value} {A1 : Nat → Prop} (k1 : intsK.ow w A1 v1 x1) (s1 : ∀ b, A1 b → A b)  : monoR.ow w A [.int .i64 a0, v1] (a0, x1) := ⟨_, rfl, ⟨_, rfl, intsK.ov k1 s1⟩⟩
theorem monoR_sz {a0 : Int} {x1 : List Int} : monoR.sz (a0, x1) = intsK.sz x1 := rfl
set_option maxRecDepth 8000 in
set_option maxHeartbeats 4000000 in
theorem szTrmMono (a0 : Int) (x1 : List Int) (cs : List Value) (left : Int) (w : World) (h : monoR.rd w cs (a0, x1)) (h0 : 0 ≤ left) (h1 : left ≤ 1048576) :
    Calls Try.prog 65 #[.agg cs.toArray, .int .i64 left] w fun e w' => ∃ r : Int, e = .returned (.int .i64 r) ∧ -1 ≤ r ∧ (0 ≤ r → r = left - (monoR.sz (a0, x1) : Nat)) ∧ Below w.heap.size w w' := by
  obtain ⟨q1, c1, rfl, k1⟩ := monoR_rd h
  have SZ := hide (monoR_sz (a0 := a0) (x1 := x1))
  obtain ⟨Z, eZ⟩ : ∃ Z, monoR.sz (a0, x1) = Z := ⟨_, rfl⟩
  rw [eZ] at SZ ⊢
  have bV : Below w.heap.size w (w.alloc (.cells #[.int .i64 a0, .slice q1 x1.length c1] 97)) := (Below.refl _ _).alloc (Nat.le_refl _) _
  have RR := hide (Rec.new w [.int .i64 a0, .slice q1 x1.length c1] 97)
  have H1 := hide (intsK.rb k1 bV)
  have BW := hide bV
  clear bV h eZ k1
  go_enter Try.func65, Try.ntmps65
  go_wp2_with fail
  refine (szIntS x1 _ left _ H1.out h0 h1).mono ?_
  rintro e u1 ⟨r1, rfl, p1, g1, hb⟩
  have G1 : Hid (0 ≤ r1 → r1 = left - (intsK.sz x1 : Nat)) := g1
  replace RR := hide (RR.out.below hb)
  replace BW := hide (BW.out.trans (hb.mono BW.out.size))
  clear g1 hb
  by_cases hs1 : r1 < 0
  · go_wp2
    go_ret
    exact ⟨-1, rfl, by omega, fun h => by omega, BW.out⟩
  have m1 : 0 ≤ r1 := by omega
  have b1 : r1 ≤ 1048576 := by have := G1.out m1; omega
  go_wp2
  go_ret
  exact ⟨r1, rfl, by omega, fun h => by have := SZ.out; have := G1.out m1; omega, BW.out⟩
set_option maxRecDepth 8000 in
set_option maxHeartbeats 4000000 in
theorem layTrmMono {w : World} {ops : Array Oper} {rest : List Oper} {o : Oper} {a : Act} {Q : Exit → Act → World → Prop} (hgd : o.guard = none) (hds : o.dst = none) (x y : Operand) (ho : o.op = .store 74 x y)
    (Z : Nat) (y0 : Value) (y1 : Value) (hB : Rec Z [y0, y1] w) (hx : a.eval x = .pointer (some ⟨Z, 0, none⟩)) (a0 : Int) (q1 : Option Addr) (n1 c1 : Nat) (hy : a.eval y = .agg #[.int .i64 a0, .slice q1 n1 c1])
    (h : ∀ w' : World, Hid (Rec Z [.int .i64 a0, .slice q1 n1 c1] w') → Hid (Turn Z w w') → wpList Try.prog ops Q rest a w') :
    wpList Try.prog ops Q (o :: rest) a w := by
  refine wpList_plain hgd fun K hK => ?_
  have z0 := hB.cell 0 _ rfl
  have s0 := hB.soft 0
  have z1 := hB.cell 1 _ rfl
  have s1 := hB.soft 1
  have key := hK _ _ (h _ ((hB.set 0 (.int .i64 a0) (by simp) (show _ = ([.int .i64 a0, y1] : List Value) from rfl)).set 1 (.slice q1 n1 c1) (by simp) (show _ = ([.int .i64 a0, .slice q1 n1 c1] : List Value) from rfl)) (((Turn.refl Z w).setCell (p := ⟨Z, 0, none⟩) rfl (.int .i64 a0)).setCell (p := ⟨Z, 1, none⟩) rfl (.slice q1 n1 c1)))
  obtain ⟨dst, op, ty, pos, aft, gd⟩ := o
  simp only [] at hgd hds ho
  subst hgd hds ho
  clear h hK
  unfold Oper.wp
  simp only [execOp, hx, hy]
  go_simp
  exact key
set_option maxRecDepth 8000 in
set_option maxHeartbeats 4000000 in
theorem putTrmMono_0 {w : World} {ops : Array Oper} {rest : List Oper} {o : Oper} {a : Act} {Q : Exit → Act → World → Prop} (hgd : o.guard = none) (hds : o.dst = none) (x y : Operand) (ho : o.op = .store 3 x y)
    (Z i : Nat) (cs : List Value) (hB : Rec Z cs w) (hi : i < cs.length) (hx : a.eval x = .pointer (some ⟨Z, i, none⟩)) (n : Int) (hy : a.eval y = .int .i64 n)
    (h : ∀ w' : World, Hid (Rec Z (cs.set i (.int .i64 n)) w') → Hid (Turn Z w w') → wpList Try.prog ops Q rest a w') :
    wpList Try.prog ops Q (o :: rest) a w := by
  refine wpList_plain hgd fun K hK => ?_
  have z0 := hB.cell i _ (List.getElem?_eq_getElem hi)
  have y0 := hB.soft i
  have key := hK _ _ (h _ (hB.set i (.int .i64 n) hi rfl) ((Turn.refl Z w).setCell (p := ⟨Z, i, none⟩) rfl _))
  obtain ⟨dst, op, ty, pos, aft, gd⟩ := o
  simp only [] at hgd hds ho
  subst hgd hds ho
  clear h hK
  unfold Oper.wp
  simp only [execOp, hx, hy]
  go_simp
  exact key
set_option maxRecDepth 8000 in
set_option maxHeartbeats 4000000 in
theorem putTrmMono_1 {w : World} {ops : Array Oper} {rest : List Oper} {o : Oper} {a : Act} {Q : Exit → Act → World → Prop} (hgd : o.guard = none) (hds : o.dst = none) (x y : Operand) (ho : o.op = .store 72 x y)
    (Z i : Nat) (cs : List Value) (hB : Rec Z cs w) (hi : i < cs.length) (hx : a.eval x = .pointer (some ⟨Z, i, none⟩)) (q : Option Addr) (n c : Nat) (hy : a.eval y = .slice q n c)
    (h : ∀ w' : World, Hid (Rec Z (cs.set i (.slice q n c)) w') → Hid (Turn Z w w') → wpList Try.prog ops Q rest a w') :
    wpList Try.prog ops Q (o :: rest) a w := by
  refine wpList_plain hgd fun K hK => ?_
  have z0 := hB.cell i _ (List.getElem?_eq_getElem hi)
  have y0 := hB.soft i
  have key := hK _ _ (h _ (hB.set i (.slice q n c) hi rfl) ((Turn.refl Z w).setCell (p := ⟨Z, i, none⟩) rfl _))
  obtain ⟨dst, op, ty, pos, aft, gd⟩ := o
  simp only [] at hgd hds ho
  subst hgd hds ho
  clear h hK
  unfold Oper.wp
  simp only [execOp, hx, hy]
  go_simp
  exact key
set_option maxRecDepth 8000 in
set_option maxHeartbeats 8000000 in
theorem toTrmMono (a0 : Int) (x1 : List Int) (cs : List Value) (w : World) (h : monoR.rd w cs (a0, x1)) (hs : monoR.sz (a0, x1) ≤ 1048576) :
    Calls Try.prog 66 #[.agg cs.toArray] w fun e w' => ∃ g1, e = .returned (.agg #[.int .i64 a0, .slice (some ⟨g1, 0, none⟩) x1.length x1.length]) ∧ monoR.ow w' (New w w') [.int .i64 a0, .slice (some ⟨g1, 0, none⟩) x1.length x1.length] (a0, x1) ∧ Below w.heap.size w w' := by
  obtain ⟨q1, c1, rfl, k1⟩ := monoR_rd h
  rw [monoR_sz] at hs
  have T := hide (Three.new w [.int .i64 a0, .slice q1 x1.length c1] [.int .i64 0, .slice none 0 0] [.int .i64 a0, .slice none 0 0] 97 74 74)
  have H1 := hide k1
  have S1 : Hid (intsK.sz x1 ≤ 1048576) := show _ ≤ _ by omega
  clear h hs k1
  go_enter Try.func66, Try.ntmps66
  go_wp2_with fail
  generalize ((w.alloc (.cells #[.int .i64 a0, .slice q1 x1.length c1] 97)).alloc (.cells #[.int .i64 0, .slice none 0 0] 74)).alloc (.cells #[.int .i64 a0, .slice none 0 0] 74) = c0 at T ⊢
  refine (toIntS x1 _ _ (intsK.rb H1.out T.out.bw) S1.out).mono ?_
  rintro e u1 ⟨g1, rfl, O1, hb⟩
  have W1 := hide O1
  clear O1
  have LO1 : Hid (w.heap.size + 1 + 1 < c0.heap.size) := T.out.o.lt
  have HI1 : Hid (u1.heap.size ≤ u1.heap.size) := Nat.le_refl _
  replace T := hide (T.out.below hb)
  clear hb H1 S1
  go_wp2_with (refine putTrmMono_1 rfl rfl _ _ rfl (w.heap.size + 1 + 1) 1 _ T.out.o (by simp) rfl _ _ _ rfl ?_; intro v1 RB TB; refine Hid.out ?_)
  replace T := hide (three_fill T.out TB.out (O' := [.int .i64 a0, .slice (some ⟨g1, 0, none⟩) x1.length x1.length]) RB.out)
  replace W1 := hide (intsK.ot W1.out TB.out (fun q => by have := LO1.out; have := q.1; omega))
  replace HI1 : Hid (u1.heap.size ≤ v1.heap.size) := Nat.le_trans HI1.out TB.out.size
  clear RB TB
  refine hide ?_
  have o0 := T.out.o.cell 0 _ rfl
  have o1 := T.out.o.cell 1 _ rfl
  go_wp2_with (refine layTrmMono rfl rfl _ _ rfl (w.heap.size + 1) _ _ T.out.z rfl _ _ _ _ rfl ?_; intro V RB TB; refine Hid.out ?_)
  replace W1 := hide (intsK.ot W1.out TB.out (fun q => by have := LO1.out; have := q.1; omega))
  replace HI1 : Hid (u1.heap.size ≤ V.heap.size) := Nat.le_trans HI1.out TB.out.size
  have BW := hide (T.out.bw.trans (TB.out.below (by omega) (Nat.le_of_lt T.out.a.lt)))
  have z0 := RB.out.cell 0 _ rfl
  have z1 := RB.out.cell 1 _ rfl
  have FIN := hide (monoR_omk (A := New w V) (a0 := a0) (x1 := x1) W1.out (fun b q => ⟨by have := LO1.out; have := q.1; omega, by have := HI1.out; have := q.2; omega⟩) )
  clear RB TB T o0 o1
  refine hide ?_
  go_wp2
  exact bodyPost_ret (v := .agg #[.int .i64 a0, .slice (some ⟨g1, 0, none⟩) x1.length x1.length]) (by simp [results, Try.results66, go_sem, z0, z1]) rfl ⟨g1, rfl, FIN.out, BW.out⟩
set_option maxRecDepth 8000 in
set_option maxHeartbeats 4000000 in
theorem eqTrmMono (a0 : Int) (x1 : List Int) (cs cs' : List Value) (w : World) (h : monoR.rd w cs (a0, x1)) (h' : monoR.rd w cs' (a0, x1)) :
    Calls Try.prog 72 #[.agg cs.toArray, .agg cs'.toArray] w fun e w' => e = .returned (.bool true) ∧ Below w.heap.size w w' := by
  obtain ⟨q1, c1, rfl, k1⟩ := monoR_rd h
  obtain ⟨p1, d1, rfl, l1⟩ := monoR_rd h'
  have bV : Below w.heap.size w ((w.alloc (.cells #[.int .i64 a0, .slice q1 x1.length c1] 74)).alloc (.cells #[.int .i64 a0, .slice p1 x1.length d1] 74)) := ((Below.refl _ _).alloc (Nat.le_refl _) _).alloc (by simp) _
  have RR := hide ((Rec.new w [.int .i64 a0, .slice q1 x1.length c1] 74).alloc (.cells #[.int .i64 a0, .slice p1 x1.length d1] 74))
  have RS := Rec.new (w.alloc (.cells #[.int .i64 a0, .slice q1 x1.length c1] 74)) [.int .i64 a0, .slice p1 x1.length d1] 74
  rw [show (w.alloc (.cells #[.int .i64 a0, .slice q1 x1.length c1] 74)).heap.size = w.heap.size + 1 by simp] at RS
  replace RS := hide RS
  have H1 := hide (intsK.rb k1 bV)
  have J1 := hide (intsK.rb l1 bV)
  have ne0 : (a0 != a0) = false := by simp
  have BW := hide bV
  clear bV h h' k1 l1
  go_enter Try.func72, Try.ntmps72
  go_wp2_with fail
  refine (eqIntS x1 _ _ _ H1.out J1.out).mono ?_
  rintro e u1 ⟨rfl, hb⟩
  replace RR := hide (RR.out.below hb)
  replace RS := hide (RS.out.below hb)
  replace BW := hide (BW.out.trans (hb.mono BW.out.size))
  clear hb
  have z0 := RR.out.cell 0 _ rfl
  have y0 := RS.out.cell 0 _ rfl
  have z1 := RR.out.cell 1 _ rfl
  have y1 := RS.out.cell 1 _ rfl
  go_wp2
  go_ret
  exact ⟨rfl, BW.out⟩
theorem polyK_len (k : Int) (xs : List (Int × List Int)) : (polyK.mr k xs).length = xs.length := markL_len xs k
set_option maxRecDepth 8000 in
set_option maxHeartbeats 4000000 in
theorem szTrmMonoS (xs : List (Int × List Int)) (v : Value) (left : Int) (w : World) (h : polyK.rd w v xs) (h0 : 0 ≤ left) (h1 : left ≤ 1048576) :
    Calls Try.prog 46 #[v, .int .i64 left] w fun e w' => ∃ r : Int, e = .returned (.int .i64 r) ∧ -1 ≤ r ∧ (0 ≤ r → r = left - (polyK.sz xs : Nat)) ∧ Below w.heap.size w w' := by
  obtain ⟨a, cap, B, off, rfl, h2, h3, hz, h4⟩ := h
  unfold maxLen at h3
  clear hz
  have SZ : Hid (polyK.sz xs = xs.length + sum monoR.sz xs) := show _ = _ from rfl
  obtain ⟨Z, eZ⟩ : ∃ Z, polyK.sz xs = Z := ⟨_, rfl⟩
  rw [eZ] at SZ ⊢
  clear eZ
  by_cases e1 : left < xs.length
  · have e2 : left - (xs.length : Int) < 0 := by omega
    clear h4 e1
    go_enter Try.func46, Try.ntmps46
    go_wp2
    go_ret
    exact ⟨-1, rfl, by omega, fun h => by omega, Below.refl _ _⟩
  have e2 : ¬ left - (xs.length : Int) < 0 := by omega
  obtain ⟨n, en⟩ : ∃ n, xs.length = n := ⟨_, rfl⟩
  have EN := hide en
  rw [en] at h2 e1 e2 SZ ⊢
  have H4 := hide h4
  clear en h4
  go_enter Try.func46, Try.ntmps46
  go_wp2
  go_loopw [1, 5] (fun l i wr => ∃ (k : Nat) (r : Int), k ≤ n ∧ i = .int .i64 k ∧ l = .int .i64 r ∧ 0 ≤ r ∧ r ≤ 1048576 ∧ Hid (r = left - n - (sum monoR.sz (xs.take k) : Nat)) ∧ Hid (Below w.heap.size w wr)) (fun _ i _ => n - (intOf i).toNat)
  case atStart => exact ⟨0, left - n, by omega, rfl, rfl, by omega, by omega, by show _ = _; simp [sum], Below.refl _ _⟩
  case round =>
    obtain ⟨k, r, hk, rfl, rfl, r0, r1, HR, HB⟩ := hrel
    by_cases hlt : k < n
    · obtain ⟨x, et⟩ : ∃ x, xs[k]? = some x := ⟨_, List.getElem?_eq_getElem (by rw [EN.out]; exact hlt)⟩
      obtain ⟨rfl, hc⟩ := H4.out.resolve_left (fun e => by rw [e] at et; simp at et)
      obtain ⟨cs, cc, hx⟩ := hc k x et
      replace cc := cc.below HB.out
      replace hx := monoR.rb hx HB.out
      have TN := hide (sum_take (f := monoR.sz) et)
      obtain ⟨a0, x1⟩ := x
      have HX := hide hx
      obtain ⟨q1, c1, rfl, _⟩ := monoR_rd hx
      have z0 : wr.cell? ⟨B, off + k * 2, none⟩ = some (.int .i64 a0) := cc 0 _ rfl
      have z1 : wr.cell? ⟨B, off + k * 2 + 1, none⟩ = some (.slice q1 x1.length c1) := cc 1 _ rfl
      have lk : ((k : Nat) : Int) < (n : Nat) := by omega
      clear et hc hx cc
      go_wp2_with fail
      refine (szTrmMono a0 x1 _ r _ HX.out r0 r1).mono ?_
      rintro e u ⟨r', rfl, q0, hr, hb⟩
      have HR2 := hide hr
      have HB2 := hide (HB.out.trans (hb.mono HB.out.size))
      clear hb hr z0 z1
      by_cases hs : r' < 0
      · go_wp2
        go_ret
        exact ⟨-1, rfl, by omega, fun h => by omega, HB2.out⟩
      · have HR3 : Hid (r' = left - n - (sum monoR.sz (xs.take (k + 1)) : Nat)) := show _ = _ by have := HR.out; have := TN.out; have := HR2.out (by omega); omega
        have rl : r' ≤ 1048576 := by have := HR2.out (by omega); omega
        go_wp2
        exact ⟨⟨k + 1, r', by omega, by go_num, rfl, by omega, rl, HR3, HB2⟩, by simp [intOf]; omega⟩
    · have HD : Hid (r = left - (Z : Nat)) := show _ = _ by
        have := HR.out
        rw [List.take_of_length_le (by rw [EN.out]; omega)] at this
        have := SZ.out
        omega
      go_wp2
      go_ret
      exact ⟨r, rfl, by omega, fun _ => HD.out, HB.out⟩
theorem makeTrmMonoS (n : Nat) (hn : n ≤ 1048576) (w : World) : (Instr.makeSlice 33 (.int .i64 (n : Int)) (.int .i64 (n : Int))).run Try.prog w = .ok (.slice (some ⟨w.heap.size, 0, none⟩) n n) (w.alloc (.cells (madeCells #[.int .i64 0, .slice none 0 0] (n * 2)) 74)) := by
  have hinfo : (Try.prog.info? 74).map (fun i => (i.zero, i.size, i.bytes)) = some (some (.agg #[.int .i64 0, .slice none 0 0]), 2, 32) := by kernel_rfl
  obtain ⟨i, hi, hzz⟩ := Option.map_eq_some_iff.1 hinfo
  simp only [Prod.mk.injEq] at hzz
  obtain ⟨hz, hs, hb⟩ := hzz
  have hr := run_make (P := Try.prog) w 33 74 i _ Try.underlying33 hi hz .i64 .i64 n n (by omega) (Int.le_refl _) (by rw [hb]; omega) (by omega)
  simp only [Int.toNat_natCast, hs] at hr
  exact hr
set_option maxRecDepth 8000 in
set_option maxHeartbeats 4000000 in
theorem toTrmMonoS (xs : List (Int × List Int)) (v : Value) (w : World) (h : polyK.rd w v xs) (hs : polyK.sz xs ≤ 1048576) :
    Calls Try.prog 49 #[v] w fun e w' => ∃ g, e = .returned (.slice (some ⟨g, 0, none⟩) xs.length xs.length) ∧ polyK.ow w' (New w w') (.slice (some ⟨g, 0, none⟩) xs.length xs.length) xs ∧ Below w.heap.size w w' := by
  obtain ⟨a, cap, B, off, rfl, h2, h3, hz, h4⟩ := h
  unfold maxLen at h3
  clear hz
  replace hs : xs.length + sum monoR.sz xs ≤ 1048576 := hs
  obtain ⟨n, en⟩ : ∃ n, xs.length = n := ⟨_, rfl⟩
  have EN := hide en
  have hn : n ≤ 1048576 := by omega
  have HS : Hid (sum monoR.sz xs ≤ 1048576) := show _ ≤ _ by omega
  have M0 : Hid (Fill monoR w n xs 0 (w.alloc (.cells (madeCells #[.int .i64 0, .slice none 0 0] (n * 2)) 74))) := Fill.new monoR w n xs 74 #[.int .i64 0, .slice none 0 0] rfl
  have hmk := makeTrmMonoS n hn w
  rw [en] at h2 ⊢
  have GO : Hid (∀ V g, LOw monoR V (New w V) (.slice (some ⟨g, 0, none⟩) n n) xs → polyK.ow V (New w V) (.slice (some ⟨g, 0, none⟩) n n) xs) := fun V g hV => hV
  have H4 := hide h4
  clear en h4 hs
  by_cases n0 : n = 0
  · subst n0
    have FF := hide (GO.out _ _ (M0.out.whole EN.out (by unfold maxLen; omega)))
    have FB := hide M0.out.below
    clear M0 H4 GO
    replace hmk : (Instr.makeSlice 33 (.int .i64 0) (.int .i64 0)).run Try.prog w = .ok (.slice (some ⟨w.heap.size, 0, none⟩) 0 0) (w.alloc (.cells (madeCells #[.int .i64 0, .slice none 0 0] (0 * 2)) 74)) := hmk
    generalize w.alloc (.cells (madeCells #[.int .i64 0, .slice none 0 0] (0 * 2)) 74) = U at hmk FF FB
    go_enter Try.func49, Try.ntmps49
    go_wp2
    refine wp_loop_rounds 1 ?_
    rw [rounds_succ]
    go_wp2
    go_ret
    exact ⟨w.heap.size, rfl, FF.out, FB.out⟩
  · obtain ⟨rfl, hc⟩ := H4.out.resolve_left (fun e => n0 (by rw [← EN.out, e]; rfl))
    have HC := hide hc
    clear hc H4
    generalize w.alloc (.cells (madeCells #[.int .i64 0, .slice none 0 0] (n * 2)) 74) = U at hmk M0
    go_enter Try.func49, Try.ntmps49
    go_wp2
    clear hmk
    go_loopw [4] (fun i wr => ∃ k : Nat, k ≤ n ∧ i = .int .i64 k ∧ Hid (Fill monoR w n xs k wr)) (fun i _ => n - (intOf i).toNat)
    case atStart => exact ⟨0, by omega, rfl, M0⟩
    case round =>
      obtain ⟨k, hk, rfl, HF⟩ := hrel
      by_cases hlt : k < n
      · obtain ⟨x, et⟩ : ∃ x, xs[k]? = some x := ⟨_, List.getElem?_eq_getElem (by rw [EN.out]; exact hlt)⟩
        obtain ⟨cs, cc, hx⟩ := HC.out k x et
        replace cc := cc.below HF.out.below
        replace hx := monoR.rb hx HF.out.below
        have LA : Hid (monoR.sz x ≤ 1048576) := show _ ≤ _ by have := sum_one (f := monoR.sz) et; have := HS.out; omega
        have ET := hide et
        obtain ⟨a0, x1⟩ := x
        have HX := hide hx
        obtain ⟨q1, c1, rfl, _⟩ := monoR_rd hx
        have z0 : wr.cell? ⟨B, off + k * 2, none⟩ = some (.int .i64 a0) := cc 0 _ rfl
        have z1 : wr.cell? ⟨B, off + k * 2 + 1, none⟩ = some (.slice q1 x1.length c1) := cc 1 _ rfl
        have lk : ((k : Nat) : Int) < (n : Nat) := by omega
        clear et hx cc
        go_wp2_with fail
        refine (toTrmMono a0 x1 _ _ HX.out LA.out).mono ?_
        rintro e u ⟨g1, rfl, RX, hb⟩
        have NX := hide (Fill.next HF.out hlt ET.out hb RX)
        obtain ⟨y0, e0⟩ := HF.out.left (k * 2) (by show _ < n * 2; omega)
        obtain ⟨y1, e1⟩ := HF.out.left (k * 2 + 1) (by show _ < n * 2; omega)
        have p0 := cell_below hb e0
        have p1 := cell_below hb e1
        have ff (i : Nat) (hi : i < n * 2) : u.frozen? ⟨w.heap.size, i, none⟩ = false := by rw [World.frozen?_of_block (w := wr) (a := ⟨w.heap.size, i, none⟩) (hb.block w.heap.size HF.out.lt)]; exact HF.out.soft _ hi
        have f0 := ff (k * 2) (by omega)
        have f1 := ff (k * 2 + 1) (by omega)
        have lw : w.heap.size < u.heap.size := Nat.lt_of_lt_of_le HF.out.lt hb.size
        rw [show k * monoR.n = k * 2 from rfl] at NX
        simp only [setN, Nat.add_assoc, Nat.reduceAdd] at NX
        clear hb RX e0 z0 e1 z1 HF HX ff
        go_wp2
        exact ⟨⟨k + 1, by omega, by go_num, NX⟩, by simp [intOf]; omega⟩
      · obtain rfl : k = n := by omega
        have FF := hide (GO.out _ _ (HF.out.whole EN.out (by unfold maxLen; omega)))
        have FB := hide HF.out.below
        clear HF GO
        go_wp2
        go_ret
        exact ⟨w.heap.size, rfl, FF.out, FB.out⟩
set_option maxRecDepth 8000 in
set_option maxHeartbeats 4000000 in
theorem eqTrmMonoS (xs : List (Int × List Int)) (v v' : Value) (w : World) (h : polyK.rd w v xs) (h' : polyK.rd w v' xs) :
    Calls Try.prog 56 #[v, v'] w fun e w' => e = .returned (.bool true) ∧ Below w.heap.size w w' := by
  obtain ⟨a, cap, B, off, rfl, h2, h3, hz, h4⟩ := h
  obtain ⟨a', cap', B', off', rfl, h2', h3', hz', h4'⟩ := h'
  unfold maxLen at h3 h3'
  clear hz hz'
  obtain ⟨n, en⟩ : ∃ n, xs.length = n := ⟨_, rfl⟩
  have EN := hide en
  rw [en] at h2 h2' ⊢
  have H4 := hide h4
  have H4' := hide h4'
  have nn : ((n : Int) != (n : Int)) = false := by simp
  clear en h4 h4'
  go_enter Try.func56, Try.ntmps56
  by_cases n0 : n = 0
  · subst n0
    go_wp2
    refine wp_loop_rounds 1 ?_
    rw [rounds_succ]
    go_wp2
    go_ret
    exact ⟨rfl, Below.refl _ _⟩
  · obtain ⟨rfl, hc⟩ := H4.out.resolve_left (fun e => n0 (by rw [← EN.out, e]; rfl))
    obtain ⟨rfl, hc'⟩ := H4'.out.resolve_left (fun e => n0 (by rw [← EN.out, e]; rfl))
    have HC := hide hc
    have HC' := hide hc'
    clear hc hc' H4 H4'
    go_wp2
    go_loopw [5] (fun i wr => ∃ k : Nat, k ≤ n ∧ i = .int .i64 k ∧ Hid (Below w.heap.size w wr)) (fun i _ => n - (intOf i).toNat)
    case atStart => exact ⟨0, by omega, rfl, Below.refl _ _⟩
    case round =>
      obtain ⟨k, hk, rfl, HB⟩ := hrel
      by_cases hlt : k < n
      · obtain ⟨x, et⟩ : ∃ x, xs[k]? = some x := ⟨_, List.getElem?_eq_getElem (by rw [EN.out]; exact hlt)⟩
        obtain ⟨cs, cc, hx⟩ := HC.out k x et
        obtain ⟨cs', cc', hx'⟩ := HC'.out k x et
        have HB2 : Hid (Below w.heap.size w wr.drew) := HB.out.drew
        replace cc := cc.below HB2.out
        replace cc' := cc'.below HB2.out
        replace hx := monoR.rb hx HB2.out
        replace hx' := monoR.rb hx' HB2.out
        obtain ⟨a0, x1⟩ := x
        have HX := hide hx
        have HX' := hide hx'
        obtain ⟨q1, c1, rfl, _⟩ := monoR_rd hx
        obtain ⟨p1, d1, rfl, _⟩ := monoR_rd hx'
        have z0 : wr.drew.cell? ⟨B, off + k * 2, none⟩ = some (.int .i64 a0) := cc 0 _ rfl
        have z1 : wr.drew.cell? ⟨B, off + k * 2 + 1, none⟩ = some (.slice q1 x1.length c1) := cc 1 _ rfl
        have y0 : wr.drew.cell? ⟨B', off' + k * 2, none⟩ = some (.int .i64 a0) := cc' 0 _ rfl
        have y1 : wr.drew.cell? ⟨B', off' + k * 2 + 1, none⟩ = some (.slice p1 x1.length d1) := cc' 1 _ rfl
        have lk : ((k : Nat) : Int) < (n : Nat) := by omega
        clear et hx hx' cc cc'
        go_wp2_with fail
        refine region_tail 8 (by kernel_rfl) (by kernel_rfl) ?_
        simp only [List.take_succ_cons, List.take_zero, List.drop_succ_cons, List.drop_zero]
        repeat still_step
        refine wpStill_nil ?_
        go_wp2_with fail
        refine (eqTrmMono a0 x1 _ _ _ HX.out HX'.out).mono ?_
        rintro e u ⟨rfl, hb⟩
        have HB3 := hide (HB2.out.trans (hb.mono HB2.out.size))
        clear hb
        go_wp2
        exact ⟨⟨k + 1, by omega, by go_num, HB3⟩, by simp [intOf]; omega⟩
      · go_wp2
        go_ret
        exact ⟨rfl, HB.out⟩
theorem monoR_nx {a0 : Int} {x1 : List Int} : monoR.nx (a0, x1) = 1 + (intsK.nx x1) := rfl
theorem monoR_mr {a0 : Int} {x1 : List Int} (k : Int) : monoR.mr k (a0, x1) = (k, intsK.mr (k + 1) x1) := rfl
set_option maxRecDepth 8000 in
set_option maxHeartbeats 8000000 in
theorem markTrmMonoS (xs : List (Int × List Int)) (k : Int) (A : Nat → Prop) (v : Value) (w : World) (h : polyK.ow w A v xs) (k0 : 0 ≤ k) (k1 : k + (polyK.nx xs : Nat) ≤ 1000000000) :
    Calls Try.prog 63 #[v, .int .i64 k] w fun e w' => e = .returned (.int .i64 (k + (polyK.nx xs : Nat))) ∧ polyK.ow w' A v (polyK.mr k xs) ∧ Keep A w w' := by
  obtain ⟨a, G, off, cap, E, rfl, h⟩ := h
  have h2 := h.le
  have h3 := h.mx
  unfold maxLen at h3
  obtain ⟨n, en⟩ : ∃ n, xs.length = n := ⟨_, rfl⟩
  have EN := hide en
  replace k1 : k + (sum monoR.nx xs : Nat) ≤ 1000000000 := k1
  have HS := hide k1
  have HW := hide h
  rw [en] at h2 ⊢
  have ML : Hid ((markL monoR k xs).length = n) := show _ = _ by rw [markL_len, en]
  have MW : Hid (mixL monoR k xs n = markL monoR k xs) := show _ = _ by rw [← en]; exact mixL_whole xs k
  have GO : Hid (∀ V, LW monoR V A a G off cap E (mixL monoR k xs n) → polyK.ow V A (.slice a n cap) (polyK.mr k xs)) := fun V hV => ⟨a, G, off, cap, E, (by show _ = Value.slice a (markL monoR k xs).length cap; rw [ML.out]), by show LW monoR V A a G off cap E (markL monoR k xs); rw [← MW.out]; exact hV⟩
  have KX : Hid (polyK.nx xs = sum monoR.nx xs) := show _ = _ from rfl
  rw [KX.out]
  obtain ⟨KE, eKE⟩ : ∃ KE, k + (sum monoR.nx xs : Nat) = KE := ⟨_, rfl⟩
  rw [eKE]
  have EKE := hide eKE
  obtain ⟨OUT, eO⟩ : ∃ O, polyK.mr k xs = O := ⟨_, rfl⟩
  rw [eO] at GO ⊢
  clear en h eKE eO k1
  go_enter Try.func63, Try.ntmps63
  by_cases n0 : n = 0
  · subst n0
    have FF : Hid (polyK.ow w A (.slice a 0 cap) OUT) := GO.out w (by rw [mixL_zero]; exact HW.out)
    have OZ : Hid (k = KE) := show _ = _ by rw [← EKE.out, show xs = [] from List.length_eq_zero_iff.1 EN.out]; simp [sum]
    clear GO
    go_wp2
    refine wp_loop_rounds 1 ?_
    rw [rounds_succ]
    go_wp2
    go_ret
    exact ⟨ret_int OZ.out, FF.out, Keep.refl _ _⟩
  · have hG := HW.out.at_.resolve_left (fun e => n0 (by rw [← EN.out, e]; rfl))
    obtain ⟨rfl, hG2⟩ := hG
    have GG := hide hG2
    clear hG2
    go_wp2
    go_loopw [1, 5] (fun q i wr => ∃ (j : Nat) (kk : Int), j ≤ n ∧ i = .int .i64 j ∧ q = .int .i64 kk ∧ Hid (kk = k + (sum monoR.nx (xs.take j) : Nat)) ∧ 0 ≤ kk ∧ kk ≤ 1000000000 ∧ Hid (LW monoR wr A (some ⟨G, off, none⟩) G off cap E (mixL monoR k xs j)) ∧ Hid (Keep A w wr)) (fun _ i _ => n - (intOf i).toNat)
    case atStart => exact ⟨0, k, by omega, rfl, rfl, by show _ = _; simp [sum], k0, by have := HS.out; omega, by show LW _ _ _ _ _ _ _ _ _; rw [mixL_zero]; exact HW.out, Keep.refl _ _⟩
    case round =>
      obtain ⟨j, kk, hj, rfl, rfl, HK, kk0, kk1, HP, HB⟩ := hrel
      by_cases hlt : j < n
      case neg =>
        obtain rfl : j = n := by omega
        have HD : Hid (kk = KE) := show _ = _ by rw [← EKE.out, HK.out, List.take_of_length_le (by rw [EN.out]; omega)]
        have FF := hide (GO.out wr HP.out)
        clear GO
        go_wp2
        go_ret
        exact ⟨ret_int HD.out, FF.out, HB.out⟩
      obtain ⟨x, et⟩ : ∃ x, xs[j]? = some x := ⟨_, List.getElem?_eq_getElem (by rw [EN.out]; exact hlt)⟩
      have em := (mixL_at (R := monoR) (k := k) (n := j) et).trans (by rw [if_neg (Nat.lt_irrefl _)])
      obtain ⟨cs, cc, cf, cx, cA, cG⟩ := HP.out.cells j x em
      have sz := sum_one (f := monoR.nx) et
      have ON := hide (sum_take (f := monoR.nx) et)
      have MX := hide (mixL_next (R := monoR) (k := k) et)
      have EM := hide em
      have KL : Hid (kk + (monoR.nx x : Nat) ≤ 1000000000) := show _ ≤ _ by have := HS.out; have := HK.out; omega
      obtain ⟨a0, x1⟩ := x
      rw [monoR_nx] at ON KL
      rw [monoR_mr] at MX
      obtain ⟨q1, c1, A1, rfl, k1, s1⟩ := monoR_own cx
      have lw : G < wr.heap.size := Nat.lt_of_lt_of_le GG.out.2 HB.out.size
      have lj : ((j : Nat) : Int) < (n : Nat) := by omega
      have RA : Hid (RowAt wr wr G (off + j * 2) 2 [.int .i64 a0, .slice q1 x1.length c1]) := ⟨lw, cc, rfl, fun _ _ => rfl, fun _ => rfl⟩
      have f0 : wr.frozen? ⟨G, off + j * 2, none⟩ = false := cf 0 (by show 0 < 2; omega) (by exact Or.inl rfl)
      have NG : Hid (¬ A1 G ∧ True) := ⟨(fun q => cG (s1 _ q)), trivial⟩
      have KW : Hid (Keep (fun b => b = G ∨ E j b) wr wr) := Keep.refl _ _
      have H1 := hide k1
      have CA := hide cA
      clear et em sz cc cf cx cA cG k1
      have w0_ : wr.cell? ⟨G, off + j * 2, none⟩ = _ := RA.out.at_ 0 _ rfl
      have v0_ : wr.frozen? ⟨G, off + j * 2, none⟩ = false := (RA.out.fr _).trans f0
      have TB := ((Turn.refl G wr).setCell (p := ⟨G, off + j * 2, none⟩) rfl (.int .i64 kk))
      have RA2 := hide (RA.out.set (f := 0) (q := off + j * 2) (by omega) (.int .i64 kk) rfl (show _ = ([.int .i64 kk, .slice q1 x1.length c1] : List Value) from rfl))
      have KW2 := hide (KW.out.trans ((Keep.of_turn TB).mono (fun b _ q => Or.inl q)))
      have H12 := hide (intsK.ot H1.out TB NG.out.1)
      have gl_ : G < wr.heap.size := RA.out.lt
      clear TB RA KW H1 
      have z1 : (wr.setCell ⟨G, off + j * 2, none⟩ (.int .i64 kk)).cell? ⟨G, off + j * 2 + 1, none⟩ = _ := RA2.out.at_ 1 _ rfl
      go_wp2_with fail
      generalize wr.setCell ⟨G, off + j * 2, none⟩ (.int .i64 kk) = U1 at RA2 KW2 H12  z1 ⊢
      have RA := RA2
      have KW := KW2
      have H1 := H12
      clear RA2 KW2 H12  w0_ v0_
      obtain ⟨k1_, ek1⟩ : ∃ z, kk + 1 = z := ⟨_, rfl⟩
      rw [ek1]
      have EK1 : Hid (k1_ = kk + 1) := ek1.symm
      have kb1 : 0 ≤ k1_ ∧ k1_ + (intsK.nx x1 : Nat) ≤ 1000000000 := by have := KL.out; omega
      clear ek1
      refine (markIntS x1 k1_ A1 _ _ H1.out kb1.1 kb1.2).mono ?_
      rintro e u1 ⟨rfl, O1, hk⟩
      have W1 := hide O1
      replace RA := hide (RA.out.keep hk NG.out.1)
      replace KW := hide (KW.out.trans (hk.mono (fun b _ q => Or.inr (s1 b q))))
      clear O1 hk H1 z1
      obtain ⟨r1_, er1⟩ : ∃ z, k1_ + (intsK.nx x1 : Nat) = z := ⟨_, rfl⟩
      rw [er1]
      have ER1 : Hid (r1_ = k1_ + (intsK.nx x1 : Nat)) := er1.symm
      have rb1 : 0 ≤ r1_ ∧ r1_ ≤ 1000000000 := by omega
      clear er1
      have NW := LW.mark HP.out EM.out KW.out (show CellsAt _ G (off + j * 2) _ from RA.out.at_) (show ∀ o, (o < off + j * 2 ∨ off + j * 2 + 2 ≤ o) → _ from RA.out.far) RA.out.fr (monoR_omk (A := E j) (a0 := kk) W1.out s1 )
      have NW2 : Hid (LW monoR u1 A (some ⟨G, off, none⟩) G off cap E (mixL monoR k xs (j + 1))) := show LW _ _ _ _ _ _ _ _ _ by
        rw [← MX.out]
        have eq : (kk, intsK.mr k1_ x1) = ((k + (sum monoR.nx (xs.take j) : Nat)), intsK.mr ((k + (sum monoR.nx (xs.take j) : Nat)) + 1) x1) := by
          have h0 := HK.out
          have q0_ : kk = (k + (sum monoR.nx (xs.take j) : Nat)) := by omega
          have q1_ : k1_ = (k + (sum monoR.nx (xs.take j) : Nat)) + 1 := by have := EK1.out; omega
          exact (Prod.ext q0_ (congrArg (fun z => intsK.mr z x1) q1_))
        rw [← eq]
        exact NW
      have QK := hide (HB.out.trans (KW.out.mono (fun b _ q => by
        rcases q with q | q
        · subst q; exact GG.out.1
        · exact CA.out b q)))
      have QE : Hid (r1_ = k + (sum monoR.nx (xs.take (j + 1)) : Nat)) := show _ = _ by have := ON.out; have := HK.out; have := EK1.out; have := ER1.out; omega
      have b9 : 0 ≤ r1_ ∧ r1_ ≤ 1000000000 := by have := KL.out; have := EK1.out; have := ER1.out; omega
      clear NW RA KW W1 HP HB GO
      go_wp2
      exact ⟨⟨j + 1, r1_, by omega, by go_num, rfl, QE, b9.1, b9.2, NW2, QK⟩, by simp [intOf]; omega⟩
set_option maxRecDepth 8000 in
set_option maxHeartbeats 8000000 in
theorem heldTrmMonoS (xs : List (Int × List Int)) (k : Int) (v : Value) (w : World) (h : polyK.rd w v (polyK.mr k xs)) (k0 : 0 ≤ k) (k1 : k + (polyK.nx xs : Nat) ≤ 1000000000) :
    Calls Try.prog 64 #[v, .int .i64 k] w fun e w' => e = .returned (.int .i64 (k + (polyK.nx xs : Nat))) ∧ Below w.heap.size w w' := by
  replace h : LRd monoR w v (markL monoR k xs) := h
  obtain ⟨a, cap, B, off, rfl, h2, h3, hz, h4⟩ := h
  unfold maxLen at h3
  clear hz
  obtain ⟨n, en⟩ : ∃ n, xs.length = n := ⟨_, rfl⟩
  have EN := hide en
  replace k1 : k + (sum monoR.nx xs : Nat) ≤ 1000000000 := k1
  have HS := hide k1
  rw [markL_len, en] at h2 ⊢
  have H4 := hide h4
  have KX : Hid (polyK.nx xs = sum monoR.nx xs) := show _ = _ from rfl
  rw [KX.out]
  obtain ⟨KE, eKE⟩ : ∃ KE, k + (sum monoR.nx xs : Nat) = KE := ⟨_, rfl⟩
  rw [eKE]
  have EKE := hide eKE
  clear en h4 eKE k1
  go_enter Try.func64, Try.ntmps64
  by_cases n0 : n = 0
  · subst n0
    have OZ : Hid (k = KE) := show _ = _ by rw [← EKE.out, show xs = [] from List.length_eq_zero_iff.1 EN.out]; simp [sum]
    go_wp2
    refine wp_loop_rounds 1 ?_
    rw [rounds_succ]
    go_wp2
    go_ret
    exact ⟨ret_int OZ.out, Below.refl _ _⟩
  · obtain ⟨rfl, hc⟩ := H4.out.resolve_left (fun e => n0 (by have := congrArg List.length e; rw [markL_len, EN.out] at this; exact this))
    have HC := hide hc
    clear hc H4
    go_wp2
    go_loopw [1, 5] (fun q i wr => ∃ (j : Nat) (kk : Int), j ≤ n ∧ i = .int .i64 j ∧ q = .int .i64 kk ∧ Hid (kk = k + (sum monoR.nx (xs.take j) : Nat)) ∧ 0 ≤ kk ∧ kk ≤ 1000000000 ∧ Hid (Below w.heap.size w wr)) (fun _ i _ => n - (intOf i).toNat)
    case atStart => exact ⟨0, k, by omega, rfl, rfl, by show _ = _; simp [sum], k0, by have := HS.out; omega, Below.refl _ _⟩
    case round =>
      obtain ⟨j, kk, hj, rfl, rfl, HK, kk0, kk1, HB⟩ := hrel
      by_cases hlt : j < n
      case neg =>
        obtain rfl : j = n := by omega
        have HD : Hid (kk = KE) := show _ = _ by rw [← EKE.out, HK.out, List.take_of_length_le (by rw [EN.out]; omega)]
        go_wp2
        go_ret
        exact ⟨ret_int HD.out, HB.out⟩
      obtain ⟨x, et⟩ : ∃ x, xs[j]? = some x := ⟨_, List.getElem?_eq_getElem (by rw [EN.out]; exact hlt)⟩
      obtain ⟨cs, cc, hx⟩ := HC.out j _ (markL_at et)
      replace cc := cc.below HB.out
      replace hx := monoR.rb hx HB.out
      have sz := sum_one (f := monoR.nx) et
      have ON := hide (sum_take (f := monoR.nx) et)
      have KL : Hid (kk + (monoR.nx x : Nat) ≤ 1000000000) := show _ ≤ _ by have := HS.out; have := HK.out; omega
      rw [← HK.out] at hx
      obtain ⟨a0, x1⟩ := x
      rw [monoR_nx] at ON KL
      rw [monoR_mr] at hx
      obtain ⟨k1_, ek1⟩ : ∃ z, kk + 1 = z := ⟨_, rfl⟩
      rw [ek1] at hx
      obtain ⟨r1_, er1⟩ : ∃ z, k1_ + (intsK.nx x1 : Nat) = z := ⟨_, rfl⟩
      try rw [er1] at hx
      have EK1 : Hid (k1_ = kk + 1) := ek1.symm
      have ER1 : Hid (r1_ = k1_ + (intsK.nx x1 : Nat)) := er1.symm
      have kb1 : 0 ≤ k1_ ∧ k1_ + (intsK.nx x1 : Nat) ≤ 1000000000 := by have := KL.out; omega
      have rb1 : 0 ≤ r1_ ∧ r1_ ≤ 1000000000 := by omega
      have nn1 : ¬ r1_ < 0 := by omega
      obtain ⟨q1, c1, rfl, k1⟩ := monoR_rd hx
      simp only [intsK_len] at k1 cc
      have z0 : wr.cell? ⟨B, off + j * 2, none⟩ = some (.int .i64 kk) := cc 0 _ rfl
      have z1 : wr.cell? ⟨B, off + j * 2 + 1, none⟩ = some (.slice q1 x1.length c1) := cc 1 _ rfl
      have Z0 := hide z0
      have ne0 : (kk != kk) = false := by simp
      have Z1 := hide z1
      have H1 := hide k1
      have lj : ((j : Nat) : Int) < (n : Nat) := by omega
      clear et sz hx cc k1 er1
      go_wp2_with fail
      try rw [ek1]
      refine (heldIntS x1 k1_ _ _ H1.out kb1.1 kb1.2).mono ?_
      rintro e u1 ⟨rfl, hb⟩
      rw [← ER1.out]
      replace HB := hide (HB.out.trans (hb.mono HB.out.size))
      replace Z0 := hide (cell_below hb Z0.out)
      replace z0 := Z0.out
      replace Z1 := hide (cell_below hb Z1.out)
      replace z1 := Z1.out
      clear hb H1 ek1
      have QE : Hid (r1_ = k + (sum monoR.nx (xs.take (j + 1)) : Nat)) := show _ = _ by have := ON.out; have := HK.out; have := EK1.out; have := ER1.out; omega
      have b9 : 0 ≤ r1_ ∧ r1_ ≤ 1000000000 := by have := KL.out; have := EK1.out; have := ER1.out; omega
      go_wp2
      exact ⟨⟨j + 1, r1_, by omega, by go_num, rfl, QE, b9.1, b9.2, HB⟩, by simp [intOf]; omega⟩
set_option maxRecDepth 8000 in
theorem monoR_hold {w : World} {n : Nat} {cs : List Value} (h : Shape.Holds Try.prog w (n + 3) 97 cs) : ∃ a0 x1, monoR.rd w cs (a0, x1) := by
  obtain ⟨hl, hf⟩ := Shape.holds_struct (n := n + 2) Try.underlying97 h
  have em : Try.prog.cellsOf 97 = 2 := by kernel_rfl
  rw [em] at hl
  have ec0 : Try.prog.cellsOf 3 = 1 := by kernel_rfl
  have ec1 : Try.prog.cellsOf 72 = 1 := by kernel_rfl
  obtain ⟨a0, e0, _⟩ := Shape.holds_int (n := n + 1) Try.underlying3 (hf _ (List.mem_of_getElem? (i := 0) rfl))
  obtain ⟨v1, x1, e1, k1⟩ := intsK_hold (n := n + 0) (hf _ (List.mem_of_getElem? (i := 1) rfl))
  match cs, hl with
  | [c0, c1], _ =>
    simp [ec0, ec1] at e0 e1
    subst e0 e1
    exact ⟨a0, x1, monoR_mk k1⟩
set_option maxRecDepth 8000 in
theorem polyK_hold {w : World} {n : Nat} {cs : List Value} (h : Shape.Holds Try.prog w (n + 4) 24 cs) : ∃ v xs, cs = [v] ∧ polyK.rd w v xs :=
  list_hold (R := monoR) (n := n + 3) Try.underlying24 (by kernel_rfl) (by decide) h (fun ys hy => by
    obtain ⟨a0, x1, hq⟩ := monoR_hold (n := n) hy
    exact ⟨_, hq⟩)
end Go.Proofs.Ytclccaigkcilcaa.Dt
