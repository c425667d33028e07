/-
  The laws' own functions over one thing that is kept.
-/
import Derived.Test.YthlpndligadnjaaDtC
namespace Go.Proofs.Ythlpndligadnjaa.Dt
set_option linter.unusedVariables false
set_option linter.unusedSimpArgs false
open Go.ChangeShapes Go.WideShapes Go.ChangeAt Go.RowKit IntS Pol Flat Irk
open Ir (Opn Bk bv ORow WORow RBk WBk OpAt SoftAt)
theorem cacR_sz {x0 : List Int} {a1 : Int} {a2 : Int} {x3 : List Opn} {a4 : Int} {a5 : Int} {a6 : Int} {a7 : Int} : cacR.sz (x0, a1, a2, x3, a4, a5, a6, a7) = intsK.sz x0 + (opsK.sz x3 + (0)) := rfl
set_option maxRecDepth 8000 in
set_option maxHeartbeats 4000000 in
theorem szCacEntry (x0 : List Int) (a1 : Int) (a2 : Int) (x3 : List Opn) (a4 : Int) (a5 : Int) (a6 : Int) (a7 : Int) (cs : List Value) (left : Int) (w : World) (h : cacR.rd w cs (x0, a1, a2, x3, a4, a5, a6, a7)) (h0 : 0 ≤ left) (h1 : left ≤ 1048576) :
    Calls Try.prog 13 #[.agg cs.toArray, .int .i64 left] w fun e w' => ∃ r : Int, e = .returned (.int .i64 r) ∧ -1 ≤ r ∧ (0 ≤ r → r = left - (cacR.sz (x0, a1, a2, x3, a4, a5, a6, a7) : Nat)) ∧ Below w.heap.size w w' := by
  obtain ⟨q0, c0, q3, c3, rfl, k0, k3⟩ := cacR_rd h
  have SZ := hide (cacR_sz (x0 := x0) (a1 := a1) (a2 := a2) (x3 := x3) (a4 := a4) (a5 := a5) (a6 := a6) (a7 := a7))
  obtain ⟨Z, eZ⟩ : ∃ Z, cacR.sz (x0, a1, a2, x3, a4, a5, a6, a7) = Z := ⟨_, rfl⟩
  rw [eZ] at SZ ⊢
  have bV : Below w.heap.size w (w.alloc (.cells #[.slice q0 x0.length c0, .int .i64 a1, .int .i64 a2, .slice q3 x3.length c3, .int .i64 a4, .int .i64 a5, .int .i64 a6, .int .i64 a7] 34)) := (Below.refl _ _).alloc (Nat.le_refl _) _
  have RR := hide (Rec.new w [.slice q0 x0.length c0, .int .i64 a1, .int .i64 a2, .slice q3 x3.length c3, .int .i64 a4, .int .i64 a5, .int .i64 a6, .int .i64 a7] 34)
  have H0 := hide (intsK.rb k0 bV)
  have H3 := hide (opsK.rb k3 bV)
  have BW := hide bV
  clear bV h eZ k0 k3
  go_enter Try.func13, Try.ntmps13
  go_wp2_with fail
  refine (Dt.szIntS x0 _ left _ H0.out h0 h1).mono ?_
  rintro e u0 ⟨r0, rfl, p0, g0, hb⟩
  have G0 : Hid (0 ≤ r0 → r0 = left - (intsK.sz x0 : Nat)) := g0
  replace RR := hide (RR.out.below hb)
  replace BW := hide (BW.out.trans (hb.mono BW.out.size))
  replace H3 := hide (opsK.rb H3.out hb)
  clear g0 hb
  by_cases hs0 : r0 < 0
  · go_wp2
    go_ret
    exact ⟨-1, rfl, by omega, fun h => by omega, BW.out⟩
  have m0 : 0 ≤ r0 := by omega
  have b0 : r0 ≤ 1048576 := by have := G0.out m0; omega
  have z1 := RR.out.cell 1 _ rfl
  have z2 := RR.out.cell 2 _ rfl
  have z3 := RR.out.cell 3 _ rfl
  have z4 := RR.out.cell 4 _ rfl
  have z5 := RR.out.cell 5 _ rfl
  have z6 := RR.out.cell 6 _ rfl
  have z7 := RR.out.cell 7 _ rfl
  go_wp2_with fail
  refine (szBlk a1 a2 x3 a4 a5 a6 a7 _ r0 _ (blk_mk H3.out) m0 b0).mono ?_
  rintro e u3 ⟨r3, rfl, p3, g3, hb⟩
  have G3 : Hid (0 ≤ r3 → r3 = r0 - (opsK.sz x3 : Nat)) := g3
  replace RR := hide (RR.out.below hb)
  replace BW := hide (BW.out.trans (hb.mono BW.out.size))
  clear g3 hb z1 z2 z3 z4 z5 z6 z7
  by_cases hs3 : r3 < 0
  · go_wp2
    go_ret
    exact ⟨-1, rfl, by omega, fun h => by omega, BW.out⟩
  have m3 : 0 ≤ r3 := by omega
  have b3 : r3 ≤ 1048576 := by have := G3.out m3; omega
  go_wp2
  go_ret
  exact ⟨r3, rfl, by omega, fun h => by have := SZ.out; have := G0.out m0; have := G3.out m3; omega, BW.out⟩
set_option maxRecDepth 8000 in
set_option maxHeartbeats 4000000 in
theorem layCacEntry {w : World} {ops : Array Oper} {rest : List Oper} {o : Oper} {a : Act} {Q : Exit → Act → World → Prop} (hgd : o.guard = none) (hds : o.dst = none) (x y : Operand) (ho : o.op = .store 41 x y)
    (Z : Nat) (y0 : Value) (y1 : Value) (y2 : Value) (y3 : Value) (y4 : Value) (y5 : Value) (y6 : Value) (y7 : Value) (hB : Rec Z [y0, y1, y2, y3, y4, y5, y6, y7] w) (hx : a.eval x = .pointer (some ⟨Z, 0, none⟩)) (q0 : Option Addr) (n0 d0 : Nat) (b1 : Int) (b2 : Int) (q3 : Option Addr) (n3 d3 : Nat) (b4 : Int) (b5 : Int) (b6 : Int) (b7 : Int) (hy : a.eval y = .agg #[.slice q0 n0 d0, .int .i64 b1, .int .i64 b2, .slice q3 n3 d3, .int .i64 b4, .int .i64 b5, .int .i64 b6, .int .i64 b7])
    (h : ∀ w' : World, Hid (Rec Z [.slice q0 n0 d0, .int .i64 b1, .int .i64 b2, .slice q3 n3 d3, .int .i64 b4, .int .i64 b5, .int .i64 b6, .int .i64 b7] w') → Hid (Turn Z w w') → wpList Try.prog ops Q rest a w') :
    wpList Try.prog ops Q (o :: rest) a w := by
  refine wpList_plain hgd fun K hK => ?_
  have z0 := hB.cell 0 _ rfl
  have s0 := hB.soft 0
  have z1 := hB.cell 1 _ rfl
  have s1 := hB.soft 1
  have z2 := hB.cell 2 _ rfl
  have s2 := hB.soft 2
  have z3 := hB.cell 3 _ rfl
  have s3 := hB.soft 3
  have z4 := hB.cell 4 _ rfl
  have s4 := hB.soft 4
  have z5 := hB.cell 5 _ rfl
  have s5 := hB.soft 5
  have z6 := hB.cell 6 _ rfl
  have s6 := hB.soft 6
  have z7 := hB.cell 7 _ rfl
  have s7 := hB.soft 7
  have key := hK _ _ (h _ ((((((((hB.set 0 (.slice q0 n0 d0) (by simp) (show _ = ([.slice q0 n0 d0, y1, y2, y3, y4, y5, y6, y7] : List Value) from rfl)).set 1 (.int .i64 b1) (by simp) (show _ = ([.slice q0 n0 d0, .int .i64 b1, y2, y3, y4, y5, y6, y7] : List Value) from rfl)).set 2 (.int .i64 b2) (by simp) (show _ = ([.slice q0 n0 d0, .int .i64 b1, .int .i64 b2, y3, y4, y5, y6, y7] : List Value) from rfl)).set 3 (.slice q3 n3 d3) (by simp) (show _ = ([.slice q0 n0 d0, .int .i64 b1, .int .i64 b2, .slice q3 n3 d3, y4, y5, y6, y7] : List Value) from rfl)).set 4 (.int .i64 b4) (by simp) (show _ = ([.slice q0 n0 d0, .int .i64 b1, .int .i64 b2, .slice q3 n3 d3, .int .i64 b4, y5, y6, y7] : List Value) from rfl)).set 5 (.int .i64 b5) (by simp) (show _ = ([.slice q0 n0 d0, .int .i64 b1, .int .i64 b2, .slice q3 n3 d3, .int .i64 b4, .int .i64 b5, y6, y7] : List Value) from rfl)).set 6 (.int .i64 b6) (by simp) (show _ = ([.slice q0 n0 d0, .int .i64 b1, .int .i64 b2, .slice q3 n3 d3, .int .i64 b4, .int .i64 b5, .int .i64 b6, y7] : List Value) from rfl)).set 7 (.int .i64 b7) (by simp) (show _ = ([.slice q0 n0 d0, .int .i64 b1, .int .i64 b2, .slice q3 n3 d3, .int .i64 b4, .int .i64 b5, .int .i64 b6, .int .i64 b7] : List Value) from rfl)) (((((((((Turn.refl Z w).setCell (p := ⟨Z, 0, none⟩) rfl (.slice q0 n0 d0)).setCell (p := ⟨Z, 1, none⟩) rfl (.int .i64 b1)).setCell (p := ⟨Z, 2, none⟩) rfl (.int .i64 b2)).setCell (p := ⟨Z, 3, none⟩) rfl (.slice q3 n3 d3)).setCell (p := ⟨Z, 4, none⟩) rfl (.int .i64 b4)).setCell (p := ⟨Z, 5, none⟩) rfl (.int .i64 b5)).setCell (p := ⟨Z, 6, none⟩) rfl (.int .i64 b6)).setCell (p := ⟨Z, 7, none⟩) rfl (.int .i64 b7)))
  obtain ⟨dst, op, ty, pos, aft, gd⟩ := o
  simp only [] at hgd hds ho
  subst hgd hds ho
  clear h hK
  unfold Oper.wp
  simp only [execOp, hx, hy]
  go_simp
  exact key
set_option maxRecDepth 8000 in
set_option maxHeartbeats 4000000 in
theorem putCacEntry_0 {w : World} {ops : Array Oper} {rest : List Oper} {o : Oper} {a : Act} {Q : Exit → Act → World → Prop} (hgd : o.guard = none) (hds : o.dst = none) (x y : Operand) (ho : o.op = .store 29 x y)
    (Z : Nat) (y0 : Value) (y1 : Value) (y2 : Value) (y3 : Value) (y4 : Value) (y5 : Value) (y6 : Value) (y7 : Value) (hB : Rec Z [y0, y1, y2, y3, y4, y5, y6, y7] w) (hx : a.eval x = .pointer (some ⟨Z, 0, none⟩)) (q0 : Option Addr) (n0 d0 : Nat) (hy : a.eval y = .slice q0 n0 d0)
    (h : ∀ w' : World, Hid (Rec Z [.slice q0 n0 d0, y1, y2, y3, y4, y5, y6, y7] w') → Hid (Turn Z w w') → wpList Try.prog ops Q rest a w') :
    wpList Try.prog ops Q (o :: rest) a w := by
  refine wpList_plain hgd fun K hK => ?_
  have z0 := hB.cell 0 _ rfl
  have s0 := hB.soft 0
  have key := hK _ _ (h _ (hB.set 0 (.slice q0 n0 d0) (by simp) (show _ = ([.slice q0 n0 d0, y1, y2, y3, y4, y5, y6, y7] : List Value) from rfl)) ((Turn.refl Z w).setCell (p := ⟨Z, 0, none⟩) rfl (.slice q0 n0 d0)))
  obtain ⟨dst, op, ty, pos, aft, gd⟩ := o
  simp only [] at hgd hds ho
  subst hgd hds ho
  clear h hK
  unfold Oper.wp
  simp only [execOp, hx, hy]
  go_simp
  exact key
set_option maxRecDepth 8000 in
set_option maxHeartbeats 4000000 in
theorem putCacEntry_1 {w : World} {ops : Array Oper} {rest : List Oper} {o : Oper} {a : Act} {Q : Exit → Act → World → Prop} (hgd : o.guard = none) (hds : o.dst = none) (x y : Operand) (ho : o.op = .store 39 x y)
    (Z : Nat) (y0 : Value) (y1 : Value) (y2 : Value) (y3 : Value) (y4 : Value) (y5 : Value) (y6 : Value) (y7 : Value) (hB : Rec Z [y0, y1, y2, y3, y4, y5, y6, y7] w) (hx : a.eval x = .pointer (some ⟨Z, 1, none⟩)) (b1 : Int) (b2 : Int) (q3 : Option Addr) (n3 d3 : Nat) (b4 : Int) (b5 : Int) (b6 : Int) (b7 : Int) (hy : a.eval y = .agg #[.int .i64 b1, .int .i64 b2, .slice q3 n3 d3, .int .i64 b4, .int .i64 b5, .int .i64 b6, .int .i64 b7])
    (h : ∀ w' : World, Hid (Rec Z [y0, .int .i64 b1, .int .i64 b2, .slice q3 n3 d3, .int .i64 b4, .int .i64 b5, .int .i64 b6, .int .i64 b7] w') → Hid (Turn Z w w') → wpList Try.prog ops Q rest a w') :
    wpList Try.prog ops Q (o :: rest) a w := by
  refine wpList_plain hgd fun K hK => ?_
  have z1 := hB.cell 1 _ rfl
  have s1 := hB.soft 1
  have z2 := hB.cell 2 _ rfl
  have s2 := hB.soft 2
  have z3 := hB.cell 3 _ rfl
  have s3 := hB.soft 3
  have z4 := hB.cell 4 _ rfl
  have s4 := hB.soft 4
  have z5 := hB.cell 5 _ rfl
  have s5 := hB.soft 5
  have z6 := hB.cell 6 _ rfl
  have s6 := hB.soft 6
  have z7 := hB.cell 7 _ rfl
  have s7 := hB.soft 7
  have key := hK _ _ (h _ (((((((hB.set 1 (.int .i64 b1) (by simp) (show _ = ([y0, .int .i64 b1, y2, y3, y4, y5, y6, y7] : List Value) from rfl)).set 2 (.int .i64 b2) (by simp) (show _ = ([y0, .int .i64 b1, .int .i64 b2, y3, y4, y5, y6, y7] : List Value) from rfl)).set 3 (.slice q3 n3 d3) (by simp) (show _ = ([y0, .int .i64 b1, .int .i64 b2, .slice q3 n3 d3, y4, y5, y6, y7] : List Value) from rfl)).set 4 (.int .i64 b4) (by simp) (show _ = ([y0, .int .i64 b1, .int .i64 b2, .slice q3 n3 d3, .int .i64 b4, y5, y6, y7] : List Value) from rfl)).set 5 (.int .i64 b5) (by simp) (show _ = ([y0, .int .i64 b1, .int .i64 b2, .slice q3 n3 d3, .int .i64 b4, .int .i64 b5, y6, y7] : List Value) from rfl)).set 6 (.int .i64 b6) (by simp) (show _ = ([y0, .int .i64 b1, .int .i64 b2, .slice q3 n3 d3, .int .i64 b4, .int .i64 b5, .int .i64 b6, y7] : List Value) from rfl)).set 7 (.int .i64 b7) (by simp) (show _ = ([y0, .int .i64 b1, .int .i64 b2, .slice q3 n3 d3, .int .i64 b4, .int .i64 b5, .int .i64 b6, .int .i64 b7] : List Value) from rfl)) ((((((((Turn.refl Z w).setCell (p := ⟨Z, 1, none⟩) rfl (.int .i64 b1)).setCell (p := ⟨Z, 2, none⟩) rfl (.int .i64 b2)).setCell (p := ⟨Z, 3, none⟩) rfl (.slice q3 n3 d3)).setCell (p := ⟨Z, 4, none⟩) rfl (.int .i64 b4)).setCell (p := ⟨Z, 5, none⟩) rfl (.int .i64 b5)).setCell (p := ⟨Z, 6, none⟩) rfl (.int .i64 b6)).setCell (p := ⟨Z, 7, none⟩) rfl (.int .i64 b7)))
  obtain ⟨dst, op, ty, pos, aft, gd⟩ := o
  simp only [] at hgd hds ho
  subst hgd hds ho
  clear h hK
  unfold Oper.wp
  simp only [execOp, hx, hy]
  go_simp
  exact key
set_option maxRecDepth 8000 in
set_option maxHeartbeats 8000000 in
theorem toCacEntry (x0 : List Int) (a1 : Int) (a2 : Int) (x3 : List Opn) (a4 : Int) (a5 : Int) (a6 : Int) (a7 : Int) (cs : List Value) (w : World) (h : cacR.rd w cs (x0, a1, a2, x3, a4, a5, a6, a7)) (hs : cacR.sz (x0, a1, a2, x3, a4, a5, a6, a7) ≤ 1048576) :
    Calls Try.prog 15 #[.agg cs.toArray] w fun e w' => ∃ g0 g3, e = .returned (.agg #[.slice (some ⟨g0, 0, none⟩) x0.length x0.length, .int .i64 a1, .int .i64 a2, .slice (some ⟨g3, 0, none⟩) x3.length x3.length, .int .i64 a4, .int .i64 a5, .int .i64 a6, .int .i64 a7]) ∧ cacR.ow w' (New w w') [.slice (some ⟨g0, 0, none⟩) x0.length x0.length, .int .i64 a1, .int .i64 a2, .slice (some ⟨g3, 0, none⟩) x3.length x3.length, .int .i64 a4, .int .i64 a5, .int .i64 a6, .int .i64 a7] (x0, a1, a2, x3, a4, a5, a6, a7) ∧ Below w.heap.size w w' := by
  obtain ⟨q0, c0, q3, c3, rfl, k0, k3⟩ := cacR_rd h
  rw [cacR_sz] at hs
  have T := hide (Three.new w [.slice q0 x0.length c0, .int .i64 a1, .int .i64 a2, .slice q3 x3.length c3, .int .i64 a4, .int .i64 a5, .int .i64 a6, .int .i64 a7] [.slice none 0 0, .int .i64 0, .int .i64 0, .slice none 0 0, .int .i64 0, .int .i64 0, .int .i64 0, .int .i64 0] [.slice none 0 0, .int .i64 0, .int .i64 0, .slice none 0 0, .int .i64 0, .int .i64 0, .int .i64 0, .int .i64 0] 34 41 41)
  have H0 := hide k0
  have S0 : Hid (intsK.sz x0 ≤ 1048576) := show _ ≤ _ by omega
  have H3 := hide k3
  have S3 : Hid (opsK.sz x3 ≤ 1048576) := show _ ≤ _ by omega
  clear h hs k0 k3
  go_enter Try.func15, Try.ntmps15
  go_wp2_with fail
  generalize ((w.alloc (.cells #[.slice q0 x0.length c0, .int .i64 a1, .int .i64 a2, .slice q3 x3.length c3, .int .i64 a4, .int .i64 a5, .int .i64 a6, .int .i64 a7] 34)).alloc (.cells #[.slice none 0 0, .int .i64 0, .int .i64 0, .slice none 0 0, .int .i64 0, .int .i64 0, .int .i64 0, .int .i64 0] 41)).alloc (.cells #[.slice none 0 0, .int .i64 0, .int .i64 0, .slice none 0 0, .int .i64 0, .int .i64 0, .int .i64 0, .int .i64 0] 41) = c0 at T ⊢
  refine (Dt.toIntS x0 _ _ (intsK.rb H0.out T.out.bw) S0.out).mono ?_
  rintro e u0 ⟨g0, rfl, O0, hb⟩
  have W0 := hide (O0)
  clear O0
  have LO0 : Hid (w.heap.size + 1 + 1 < c0.heap.size) := T.out.o.lt
  have HI0 : Hid (u0.heap.size ≤ u0.heap.size) := Nat.le_refl _
  replace T := hide (T.out.below hb)
  clear hb H0 S0
  go_wp2_with (refine putCacEntry_0 rfl rfl _ _ rfl (w.heap.size + 1 + 1) _ _ _ _ _ _ _ _ T.out.o rfl _ _ _ rfl ?_; intro v0 RB TB; refine Hid.out ?_)
  replace T := hide (three_fill T.out TB.out (O' := [.slice (some ⟨g0, 0, none⟩) x0.length x0.length, .int .i64 0, .int .i64 0, .slice none 0 0, .int .i64 0, .int .i64 0, .int .i64 0, .int .i64 0]) RB.out)
  replace W0 := hide (intsK.ot W0.out TB.out (fun q => by have := LO0.out; have := q.1; omega))
  replace HI0 : Hid (u0.heap.size ≤ v0.heap.size) := Nat.le_trans HI0.out TB.out.size
  clear RB TB
  refine hide ?_
  have ta1 := T.out.a.cell 1 _ rfl
  have ta2 := T.out.a.cell 2 _ rfl
  have ta3 := T.out.a.cell 3 _ rfl
  have ta4 := T.out.a.cell 4 _ rfl
  have ta5 := T.out.a.cell 5 _ rfl
  have ta6 := T.out.a.cell 6 _ rfl
  have ta7 := T.out.a.cell 7 _ rfl
  go_wp2_with fail
  refine (toBlk a1 a2 x3 a4 a5 a6 a7 _ _ (blk_mk (opsK.rb H3.out T.out.bw)) S3.out).mono ?_
  rintro e u3 ⟨g3, rfl, O3, hb⟩
  have W3 := hide (blk_ops O3)
  clear O3
  have LO3 : Hid (w.heap.size + 1 + 1 < v0.heap.size) := T.out.o.lt
  have HI3 : Hid (u3.heap.size ≤ u3.heap.size) := Nat.le_refl _
  replace T := hide (T.out.below hb)
  have M0_3 := HI0
  replace W0 := hide (intsK.ob W0.out hb)
  replace HI0 : Hid (u0.heap.size ≤ u3.heap.size) := Nat.le_trans HI0.out hb.size
  clear hb H3 S3 ta1 ta2 ta3 ta4 ta5 ta6 ta7
  go_wp2_with (refine putCacEntry_1 rfl rfl _ _ rfl (w.heap.size + 1 + 1) _ _ _ _ _ _ _ _ T.out.o rfl _ _ _ _ _ _ _ _ _ rfl ?_; intro v3 RB TB; refine Hid.out ?_)
  replace T := hide (three_fill T.out TB.out (O' := [.slice (some ⟨g0, 0, none⟩) x0.length x0.length, .int .i64 a1, .int .i64 a2, .slice (some ⟨g3, 0, none⟩) x3.length x3.length, .int .i64 a4, .int .i64 a5, .int .i64 a6, .int .i64 a7]) RB.out)
  replace W0 := hide (intsK.ot W0.out TB.out (fun q => by have := LO0.out; have := q.1; omega))
  replace HI0 : Hid (u0.heap.size ≤ v3.heap.size) := Nat.le_trans HI0.out TB.out.size
  replace W3 := hide (opsK.ot W3.out TB.out (fun q => by have := LO3.out; have := q.1; omega))
  replace HI3 : Hid (u3.heap.size ≤ v3.heap.size) := Nat.le_trans HI3.out TB.out.size
  clear RB TB
  refine hide ?_
  have o0 := T.out.o.cell 0 _ rfl
  have o1 := T.out.o.cell 1 _ rfl
  have o2 := T.out.o.cell 2 _ rfl
  have o3 := T.out.o.cell 3 _ rfl
  have o4 := T.out.o.cell 4 _ rfl
  have o5 := T.out.o.cell 5 _ rfl
  have o6 := T.out.o.cell 6 _ rfl
  have o7 := T.out.o.cell 7 _ rfl
  go_wp2_with (refine layCacEntry rfl rfl _ _ rfl (w.heap.size + 1) _ _ _ _ _ _ _ _ T.out.z rfl _ _ _ _ _ _ _ _ _ _ _ _ rfl ?_; intro V RB TB; refine Hid.out ?_)
  replace W0 := hide (intsK.ot W0.out TB.out (fun q => by have := LO0.out; have := q.1; omega))
  replace HI0 : Hid (u0.heap.size ≤ V.heap.size) := Nat.le_trans HI0.out TB.out.size
  replace W3 := hide (opsK.ot W3.out TB.out (fun q => by have := LO3.out; have := q.1; omega))
  replace HI3 : Hid (u3.heap.size ≤ V.heap.size) := Nat.le_trans HI3.out TB.out.size
  have BW := hide (T.out.bw.trans (TB.out.below (by omega) (Nat.le_of_lt T.out.a.lt)))
  have z0 := RB.out.cell 0 _ rfl
  have z1 := RB.out.cell 1 _ rfl
  have z2 := RB.out.cell 2 _ rfl
  have z3 := RB.out.cell 3 _ rfl
  have z4 := RB.out.cell 4 _ rfl
  have z5 := RB.out.cell 5 _ rfl
  have z6 := RB.out.cell 6 _ rfl
  have z7 := RB.out.cell 7 _ rfl
  have FIN := hide (cacR_omk (A := New w V) (x0 := x0) (a1 := a1) (a2 := a2) (x3 := x3) (a4 := a4) (a5 := a5) (a6 := a6) (a7 := a7) W0.out W3.out (fun b q => ⟨by have := LO0.out; have := q.1; omega, by have := HI0.out; have := q.2; omega⟩) (fun b q => ⟨by have := LO3.out; have := q.1; omega, by have := HI3.out; have := q.2; omega⟩) (fun b q r => by have := M0_3.out; have := q.2; have := r.1; omega))
  clear RB TB T o0 o1 o2 o3 o4 o5 o6 o7
  refine hide ?_
  go_wp2
  exact bodyPost_ret (v := .agg #[.slice (some ⟨g0, 0, none⟩) x0.length x0.length, .int .i64 a1, .int .i64 a2, .slice (some ⟨g3, 0, none⟩) x3.length x3.length, .int .i64 a4, .int .i64 a5, .int .i64 a6, .int .i64 a7]) (by simp [results, Try.results15, go_sem, z0, z1, z2, z3, z4, z5, z6, z7]) rfl ⟨g0, g3, rfl, FIN.out, BW.out⟩
set_option maxRecDepth 8000 in
set_option maxHeartbeats 4000000 in
theorem eqCacEntry (x0 : List Int) (a1 : Int) (a2 : Int) (x3 : List Opn) (a4 : Int) (a5 : Int) (a6 : Int) (a7 : Int) (cs cs' : List Value) (w : World) (h : cacR.rd w cs (x0, a1, a2, x3, a4, a5, a6, a7)) (h' : cacR.rd w cs' (x0, a1, a2, x3, a4, a5, a6, a7)) :
    Calls Try.prog 17 #[.agg cs.toArray, .agg cs'.toArray] w fun e w' => e = .returned (.bool true) ∧ Below w.heap.size w w' := by
  obtain ⟨q0, c0, q3, c3, rfl, k0, k3⟩ := cacR_rd h
  obtain ⟨p0, d0, p3, d3, rfl, l0, l3⟩ := cacR_rd h'
  have bV : Below w.heap.size w ((w.alloc (.cells #[.slice q0 x0.length c0, .int .i64 a1, .int .i64 a2, .slice q3 x3.length c3, .int .i64 a4, .int .i64 a5, .int .i64 a6, .int .i64 a7] 41)).alloc (.cells #[.slice p0 x0.length d0, .int .i64 a1, .int .i64 a2, .slice p3 x3.length d3, .int .i64 a4, .int .i64 a5, .int .i64 a6, .int .i64 a7] 41)) := ((Below.refl _ _).alloc (Nat.le_refl _) _).alloc (by simp) _
  have RR := hide ((Rec.new w [.slice q0 x0.length c0, .int .i64 a1, .int .i64 a2, .slice q3 x3.length c3, .int .i64 a4, .int .i64 a5, .int .i64 a6, .int .i64 a7] 41).alloc (.cells #[.slice p0 x0.length d0, .int .i64 a1, .int .i64 a2, .slice p3 x3.length d3, .int .i64 a4, .int .i64 a5, .int .i64 a6, .int .i64 a7] 41))
  have RS := Rec.new (w.alloc (.cells #[.slice q0 x0.length c0, .int .i64 a1, .int .i64 a2, .slice q3 x3.length c3, .int .i64 a4, .int .i64 a5, .int .i64 a6, .int .i64 a7] 41)) [.slice p0 x0.length d0, .int .i64 a1, .int .i64 a2, .slice p3 x3.length d3, .int .i64 a4, .int .i64 a5, .int .i64 a6, .int .i64 a7] 41
  rw [show (w.alloc (.cells #[.slice q0 x0.length c0, .int .i64 a1, .int .i64 a2, .slice q3 x3.length c3, .int .i64 a4, .int .i64 a5, .int .i64 a6, .int .i64 a7] 41)).heap.size = w.heap.size + 1 by simp] at RS
  replace RS := hide RS
  have H0 := hide (intsK.rb k0 bV)
  have J0 := hide (intsK.rb l0 bV)
  have H3 := hide (opsK.rb k3 bV)
  have J3 := hide (opsK.rb l3 bV)
  have BW := hide bV
  clear bV h h' k0 l0 k3 l3
  go_enter Try.func17, Try.ntmps17
  go_wp2_with fail
  refine (Dt.eqIntS x0 _ _ _ H0.out J0.out).mono ?_
  rintro e u0 ⟨rfl, hb⟩
  replace RR := hide (RR.out.below hb)
  replace RS := hide (RS.out.below hb)
  replace BW := hide (BW.out.trans (hb.mono BW.out.size))
  replace H3 := hide (opsK.rb H3.out hb)
  replace J3 := hide (opsK.rb J3.out hb)
  clear hb
  have z1 := RR.out.cell 1 _ rfl
  have y1 := RS.out.cell 1 _ rfl
  have z2 := RR.out.cell 2 _ rfl
  have y2 := RS.out.cell 2 _ rfl
  have z3 := RR.out.cell 3 _ rfl
  have y3 := RS.out.cell 3 _ rfl
  have z4 := RR.out.cell 4 _ rfl
  have y4 := RS.out.cell 4 _ rfl
  have z5 := RR.out.cell 5 _ rfl
  have y5 := RS.out.cell 5 _ rfl
  have z6 := RR.out.cell 6 _ rfl
  have y6 := RS.out.cell 6 _ rfl
  have z7 := RR.out.cell 7 _ rfl
  have y7 := RS.out.cell 7 _ rfl
  go_wp2_with fail
  refine (eqBlk a1 a2 x3 a4 a5 a6 a7 _ _ _ (blk_mk H3.out) (blk_mk J3.out)).mono ?_
  rintro e u3 ⟨rfl, hb⟩
  replace RR := hide (RR.out.below hb)
  replace RS := hide (RS.out.below hb)
  replace BW := hide (BW.out.trans (hb.mono BW.out.size))
  clear hb z1 y1 z2 y2 z3 y3 z4 y4 z5 y5 z6 y6 z7 y7
  go_wp2
  go_ret
  exact ⟨rfl, BW.out⟩
set_option maxRecDepth 8000 in
set_option maxHeartbeats 4000000 in
theorem markCacEntry (x0 : List Int) (a1 : Int) (a2 : Int) (x3 : List Opn) (a4 : Int) (a5 : Int) (a6 : Int) (a7 : Int) (k : Int) (A : Nat → Prop) (cs : List Value) (w : World) (h : cacR.ow w A cs (x0, a1, a2, x3, a4, a5, a6, a7)) (hA : ∀ b, A b → b < w.heap.size) (k0 : 0 ≤ k) (k1 : k + (intsK.nx x0 : Nat) + (opsK.nx x3 : Nat) ≤ 1000000000) :
    Calls Try.prog 19 #[.agg cs.toArray, .int .i64 k] w fun e w' => e = .returned (.int .i64 (k + (intsK.nx x0 : Nat) + (opsK.nx x3 : Nat))) ∧ Keep A w w' := by
  obtain ⟨q0, c0, q3, c3, A0, A3, rfl, kk0, kk3, s0, s3, d0_3⟩ := cacR_own h
  have K1 := hide k1
  have bV : Below w.heap.size w (w.alloc (.cells #[.slice q0 x0.length c0, .int .i64 a1, .int .i64 a2, .slice q3 x3.length c3, .int .i64 a4, .int .i64 a5, .int .i64 a6, .int .i64 a7] 41)) := (Below.refl _ _).alloc (Nat.le_refl _) _
  have RR := hide (Rec.new w [.slice q0 x0.length c0, .int .i64 a1, .int .i64 a2, .slice q3 x3.length c3, .int .i64 a4, .int .i64 a5, .int .i64 a6, .int .i64 a7] 41)
  have H0 := hide (intsK.ob kk0 bV)
  have H3 := hide (opsK.ob kk3 bV)
  have NB : Hid (¬ A w.heap.size) := fun q => by have := hA _ q; omega
  have KP : Hid (Keep A w _) := Keep.of_below bV
  obtain ⟨E, eE⟩ : ∃ E, k + (intsK.nx x0 : Nat) + (opsK.nx x3 : Nat) = E := ⟨_, rfl⟩
  rw [eE]
  have EE := hide eE
  clear bV h k1 eE kk0 kk3
  go_enter Try.func19, Try.ntmps19
  go_wp2_with fail
  refine (Dt.markIntS x0 k A0 _ _ H0.out k0 (show k + ((intsK.nx x0 : Nat) : Int) ≤ 1000000000 by have := K1.out; omega)).mono ?_
  rintro e u0 ⟨rfl, O0, hk⟩
  clear O0
  replace RR := hide (RR.out.keep hk (fun q => NB.out (s0 _ q)))
  replace KP := hide (KP.out.trans (hk.mono (fun b _ q => s0 b q)))
  replace H3 := hide (opsK.ok H3.out hk (fun b q r => d0_3 b r q))
  obtain ⟨r0, er0⟩ : ∃ z, k + ((intsK.nx x0 : Nat) : Int) = z := ⟨_, rfl⟩
  rw [show k + ((intsK.nx x0 : Nat) : Int) = r0 from er0]
  have ER0 := hide er0
  have rb0 : 0 ≤ r0 ∧ r0 ≤ 1000000000 := by have := K1.out; have := ER0.out; omega
  clear hk H0 er0
  have z1 := RR.out.cell 1 _ rfl
  have z2 := RR.out.cell 2 _ rfl
  have z3 := RR.out.cell 3 _ rfl
  have z4 := RR.out.cell 4 _ rfl
  have z5 := RR.out.cell 5 _ rfl
  have z6 := RR.out.cell 6 _ rfl
  have z7 := RR.out.cell 7 _ rfl
  go_wp2_with fail
  refine (markBlk a1 a2 x3 a4 a5 a6 a7 r0 A3 _ _ (blk_omk H3.out) (fun b q => by have := KP.out.size; have := hA b (s3 b q); omega) rb0.1 (show r0 + ((opsK.nx x3 : Nat) : Int) ≤ 1000000000 by have := K1.out; have := ER0.out; omega)).mono ?_
  rintro e u3 ⟨rfl, O3, hk⟩
  clear O3
  replace RR := hide (RR.out.keep hk (fun q => NB.out (s3 _ q)))
  replace KP := hide (KP.out.trans (hk.mono (fun b _ q => s3 b q)))
  obtain ⟨r3, er3⟩ : ∃ z, r0 + ((opsK.nx x3 : Nat) : Int) = z := ⟨_, rfl⟩
  rw [show r0 + ((blkR.nx (a1, a2, x3, a4, a5, a6, a7) : Nat) : Int) = r3 from er3]
  have ER3 := hide er3
  have rb3 : 0 ≤ r3 ∧ r3 ≤ 1000000000 := by have := K1.out; have := ER3.out; have := ER0.out; omega
  clear hk H3 er3 z1 z2 z3 z4 z5 z6 z7
  have FE : Hid (r3 = E) := show _ = _ by have := EE.out; have := ER0.out; have := ER3.out; omega
  clear RR
  go_wp2
  go_ret
  exact ⟨ret_int FE.out, KP.out⟩
set_option maxRecDepth 8000 in
theorem cacR_hold {w : World} {cs : List Value} (h : Shape.Holds Try.prog w 10 34 cs) : ∃ x0 a1 a2 x3 a4 a5 a6 a7, cacR.rd w cs (x0, a1, a2, x3, a4, a5, a6, a7) := by
  obtain ⟨hl, hf⟩ := Shape.holds_struct (n := 9) Try.underlying34 h
  have em : Try.prog.cellsOf 34 = 8 := by kernel_rfl
  rw [em] at hl
  have ec0 : Try.prog.cellsOf 29 = 1 := by kernel_rfl
  obtain ⟨v0, x0, e0, k0⟩ := intsK_hold (n := 7) (hf _ (List.mem_of_getElem? (i := 0) rfl))
  have ec1 : Try.prog.cellsOf 32 = 7 := by kernel_rfl
  obtain ⟨a1, a2, x3, a4, a5, a6, a7, hb1⟩ := blkR_hold (n := 0) (hf _ (List.mem_of_getElem? (i := 1) rfl))
  obtain ⟨q3, d3, e3, k3⟩ := blkR_rd hb1
  match cs, hl with
  | [c0, c1, c2, c3, c4, c5, c6, c7], _ =>
    simp [ec0, ec1] at e0 e3
    subst e0
    obtain ⟨e3_1, e3_2, e3_3, e3_4, e3_5, e3_6, e3_7⟩ := e3
    subst e3_1 e3_2 e3_3 e3_4 e3_5 e3_6 e3_7
    exact ⟨x0, a1, a2, x3, a4, a5, a6, a7, cacR_mk k0 k3⟩
set_option maxRecDepth 8000 in
theorem cacK_hold {w : World} {cs : List Value} (h : Shape.Holds Try.prog w 11 22 cs) : ∃ v xs, cs = [v] ∧ cacK.rd w v xs :=
  list_hold (R := cacR) (n := 10) Try.underlying22 (by kernel_rfl) (by decide) h (fun ys hy => by
    obtain ⟨x0, a1, a2, x3, a4, a5, a6, a7, hq⟩ := cacR_hold hy
    exact ⟨_, hq⟩)
end Go.Proofs.Ythlpndligadnjaa.Dt
