/-
  The laws' own functions over one pair.
-/
import Derived.Test.YthlpndligadnjaaDtC
namespace Go.Proofs.Ythlpndligadnjaa.Dt
set_option linter.unusedVariables false
set_option linter.unusedSimpArgs false
open Go.ChangeShapes Go.WideShapes Go.ChangeAt Go.RowKit IntS Pol Flat Irk
open Ir (Opn Bk bv ORow WORow RBk WBk OpAt SoftAt)
theorem cerR_sz {a0 : Int} {a1 : Int} {x2 : List Opn} {a3 : Int} {a4 : Int} {a5 : Int} {a6 : Int} {a7 : Int} {a8 : Int} {x9 : List Opn} {a10 : Int} {a11 : Int} {a12 : Int} {a13 : Int} : cerR.sz (a0, a1, x2, a3, a4, a5, a6, a7, a8, x9, a10, a11, a12, a13) = opsK.sz x2 + (opsK.sz x9 + (0)) := rfl
set_option maxRecDepth 8000 in
set_option maxHeartbeats 4000000 in
theorem szCerPair (a0 : Int) (a1 : Int) (x2 : List Opn) (a3 : Int) (a4 : Int) (a5 : Int) (a6 : Int) (a7 : Int) (a8 : Int) (x9 : List Opn) (a10 : Int) (a11 : Int) (a12 : Int) (a13 : Int) (cs : List Value) (left : Int) (w : World) (h : cerR.rd w cs (a0, a1, x2, a3, a4, a5, a6, a7, a8, x9, a10, a11, a12, a13)) (h0 : 0 ≤ left) (h1 : left ≤ 1048576) :
    Calls Try.prog 34 #[.agg cs.toArray, .int .i64 left] w fun e w' => ∃ r : Int, e = .returned (.int .i64 r) ∧ -1 ≤ r ∧ (0 ≤ r → r = left - (cerR.sz (a0, a1, x2, a3, a4, a5, a6, a7, a8, x9, a10, a11, a12, a13) : Nat)) ∧ Below w.heap.size w w' := by
  obtain ⟨q2, c2, q9, c9, rfl, k2, k9⟩ := cerR_rd h
  have SZ := hide (cerR_sz (a0 := a0) (a1 := a1) (x2 := x2) (a3 := a3) (a4 := a4) (a5 := a5) (a6 := a6) (a7 := a7) (a8 := a8) (x9 := x9) (a10 := a10) (a11 := a11) (a12 := a12) (a13 := a13))
  obtain ⟨Z, eZ⟩ : ∃ Z, cerR.sz (a0, a1, x2, a3, a4, a5, a6, a7, a8, x9, a10, a11, a12, a13) = Z := ⟨_, rfl⟩
  rw [eZ] at SZ ⊢
  have bV : Below w.heap.size w (w.alloc (.cells #[.int .i64 a0, .int .i64 a1, .slice q2 x2.length c2, .int .i64 a3, .int .i64 a4, .int .i64 a5, .int .i64 a6, .int .i64 a7, .int .i64 a8, .slice q9 x9.length c9, .int .i64 a10, .int .i64 a11, .int .i64 a12, .int .i64 a13] 62)) := (Below.refl _ _).alloc (Nat.le_refl _) _
  have RR := hide (Rec.new w [.int .i64 a0, .int .i64 a1, .slice q2 x2.length c2, .int .i64 a3, .int .i64 a4, .int .i64 a5, .int .i64 a6, .int .i64 a7, .int .i64 a8, .slice q9 x9.length c9, .int .i64 a10, .int .i64 a11, .int .i64 a12, .int .i64 a13] 62)
  have H2 := hide (opsK.rb k2 bV)
  have H9 := hide (opsK.rb k9 bV)
  have BW := hide bV
  clear bV h eZ k2 k9
  go_enter Try.func34, Try.ntmps34
  go_wp2_with fail
  refine (szBlk a0 a1 x2 a3 a4 a5 a6 _ left _ (blk_mk H2.out) h0 h1).mono ?_
  rintro e u2 ⟨r2, rfl, p2, g2, hb⟩
  have G2 : Hid (0 ≤ r2 → r2 = left - (opsK.sz x2 : Nat)) := g2
  replace RR := hide (RR.out.below hb)
  replace BW := hide (BW.out.trans (hb.mono BW.out.size))
  replace H9 := hide (opsK.rb H9.out hb)
  clear g2 hb
  by_cases hs2 : r2 < 0
  · go_wp2
    go_ret
    exact ⟨-1, rfl, by omega, fun h => by omega, BW.out⟩
  have m2 : 0 ≤ r2 := by omega
  have b2 : r2 ≤ 1048576 := by have := G2.out m2; omega
  have z7 := RR.out.cell 7 _ rfl
  have z8 := RR.out.cell 8 _ rfl
  have z9 := RR.out.cell 9 _ rfl
  have z10 := RR.out.cell 10 _ rfl
  have z11 := RR.out.cell 11 _ rfl
  have z12 := RR.out.cell 12 _ rfl
  have z13 := RR.out.cell 13 _ rfl
  go_wp2_with fail
  refine (szBlk a7 a8 x9 a10 a11 a12 a13 _ r2 _ (blk_mk H9.out) m2 b2).mono ?_
  rintro e u9 ⟨r9, rfl, p9, g9, hb⟩
  have G9 : Hid (0 ≤ r9 → r9 = r2 - (opsK.sz x9 : Nat)) := g9
  replace RR := hide (RR.out.below hb)
  replace BW := hide (BW.out.trans (hb.mono BW.out.size))
  clear g9 hb z7 z8 z9 z10 z11 z12 z13
  by_cases hs9 : r9 < 0
  · go_wp2
    go_ret
    exact ⟨-1, rfl, by omega, fun h => by omega, BW.out⟩
  have m9 : 0 ≤ r9 := by omega
  have b9 : r9 ≤ 1048576 := by have := G9.out m9; omega
  go_wp2
  go_ret
  exact ⟨r9, rfl, by omega, fun h => by have := SZ.out; have := G2.out m2; have := G9.out m9; omega, BW.out⟩
set_option maxRecDepth 8000 in
set_option maxHeartbeats 4000000 in
theorem layCerPair {w : World} {ops : Array Oper} {rest : List Oper} {o : Oper} {a : Act} {Q : Exit → Act → World → Prop} (hgd : o.guard = none) (hds : o.dst = none) (x y : Operand) (ho : o.op = .store 66 x y)
    (Z : Nat) (y0 : Value) (y1 : Value) (y2 : Value) (y3 : Value) (y4 : Value) (y5 : Value) (y6 : Value) (y7 : Value) (y8 : Value) (y9 : Value) (y10 : Value) (y11 : Value) (y12 : Value) (y13 : Value) (hB : Rec Z [y0, y1, y2, y3, y4, y5, y6, y7, y8, y9, y10, y11, y12, y13] w) (hx : a.eval x = .pointer (some ⟨Z, 0, none⟩)) (b0 : Int) (b1 : Int) (q2 : Option Addr) (n2 d2 : Nat) (b3 : Int) (b4 : Int) (b5 : Int) (b6 : Int) (b7 : Int) (b8 : Int) (q9 : Option Addr) (n9 d9 : Nat) (b10 : Int) (b11 : Int) (b12 : Int) (b13 : Int) (hy : a.eval y = .agg #[.int .i64 b0, .int .i64 b1, .slice q2 n2 d2, .int .i64 b3, .int .i64 b4, .int .i64 b5, .int .i64 b6, .int .i64 b7, .int .i64 b8, .slice q9 n9 d9, .int .i64 b10, .int .i64 b11, .int .i64 b12, .int .i64 b13])
    (h : ∀ w' : World, Hid (Rec Z [.int .i64 b0, .int .i64 b1, .slice q2 n2 d2, .int .i64 b3, .int .i64 b4, .int .i64 b5, .int .i64 b6, .int .i64 b7, .int .i64 b8, .slice q9 n9 d9, .int .i64 b10, .int .i64 b11, .int .i64 b12, .int .i64 b13] w') → Hid (Turn Z w w') → wpList Try.prog ops Q rest a w') :
    wpList Try.prog ops Q (o :: rest) a w := by
  refine wpList_plain hgd fun K hK => ?_
  have z0 := hB.cell 0 _ rfl
  have s0 := hB.soft 0
  have z1 := hB.cell 1 _ rfl
  have s1 := hB.soft 1
  have z2 := hB.cell 2 _ rfl
  have s2 := hB.soft 2
  have z3 := hB.cell 3 _ rfl
  have s3 := hB.soft 3
  have z4 := hB.cell 4 _ rfl
  have s4 := hB.soft 4
  have z5 := hB.cell 5 _ rfl
  have s5 := hB.soft 5
  have z6 := hB.cell 6 _ rfl
  have s6 := hB.soft 6
  have z7 := hB.cell 7 _ rfl
  have s7 := hB.soft 7
  have z8 := hB.cell 8 _ rfl
  have s8 := hB.soft 8
  have z9 := hB.cell 9 _ rfl
  have s9 := hB.soft 9
  have z10 := hB.cell 10 _ rfl
  have s10 := hB.soft 10
  have z11 := hB.cell 11 _ rfl
  have s11 := hB.soft 11
  have z12 := hB.cell 12 _ rfl
  have s12 := hB.soft 12
  have z13 := hB.cell 13 _ rfl
  have s13 := hB.soft 13
  have key := hK _ _ (h _ ((((((((((((((hB.set 0 (.int .i64 b0) (by simp) (show _ = ([.int .i64 b0, y1, y2, y3, y4, y5, y6, y7, y8, y9, y10, y11, y12, y13] : List Value) from rfl)).set 1 (.int .i64 b1) (by simp) (show _ = ([.int .i64 b0, .int .i64 b1, y2, y3, y4, y5, y6, y7, y8, y9, y10, y11, y12, y13] : List Value) from rfl)).set 2 (.slice q2 n2 d2) (by simp) (show _ = ([.int .i64 b0, .int .i64 b1, .slice q2 n2 d2, y3, y4, y5, y6, y7, y8, y9, y10, y11, y12, y13] : List Value) from rfl)).set 3 (.int .i64 b3) (by simp) (show _ = ([.int .i64 b0, .int .i64 b1, .slice q2 n2 d2, .int .i64 b3, y4, y5, y6, y7, y8, y9, y10, y11, y12, y13] : List Value) from rfl)).set 4 (.int .i64 b4) (by simp) (show _ = ([.int .i64 b0, .int .i64 b1, .slice q2 n2 d2, .int .i64 b3, .int .i64 b4, y5, y6, y7, y8, y9, y10, y11, y12, y13] : List Value) from rfl)).set 5 (.int .i64 b5) (by simp) (show _ = ([.int .i64 b0, .int .i64 b1, .slice q2 n2 d2, .int .i64 b3, .int .i64 b4, .int .i64 b5, y6, y7, y8, y9, y10, y11, y12, y13] : List Value) from rfl)).set 6 (.int .i64 b6) (by simp) (show _ = ([.int .i64 b0, .int .i64 b1, .slice q2 n2 d2, .int .i64 b3, .int .i64 b4, .int .i64 b5, .int .i64 b6, y7, y8, y9, y10, y11, y12, y13] : List Value) from rfl)).set 7 (.int .i64 b7) (by simp) (show _ = ([.int .i64 b0, .int .i64 b1, .slice q2 n2 d2, .int .i64 b3, .int .i64 b4, .int .i64 b5, .int .i64 b6, .int .i64 b7, y8, y9, y10, y11, y12, y13] : List Value) from rfl)).set 8 (.int .i64 b8) (by simp) (show _ = ([.int .i64 b0, .int .i64 b1, .slice q2 n2 d2, .int .i64 b3, .int .i64 b4, .int .i64 b5, .int .i64 b6, .int .i64 b7, .int .i64 b8, y9, y10, y11, y12, y13] : List Value) from rfl)).set 9 (.slice q9 n9 d9) (by simp) (show _ = ([.int .i64 b0, .int .i64 b1, .slice q2 n2 d2, .int .i64 b3, .int .i64 b4, .int .i64 b5, .int .i64 b6, .int .i64 b7, .int .i64 b8, .slice q9 n9 d9, y10, y11, y12, y13] : List Value) from rfl)).set 10 (.int .i64 b10) (by simp) (show _ = ([.int .i64 b0, .int .i64 b1, .slice q2 n2 d2, .int .i64 b3, .int .i64 b4, .int .i64 b5, .int .i64 b6, .int .i64 b7, .int .i64 b8, .slice q9 n9 d9, .int .i64 b10, y11, y12, y13] : List Value) from rfl)).set 11 (.int .i64 b11) (by simp) (show _ = ([.int .i64 b0, .int .i64 b1, .slice q2 n2 d2, .int .i64 b3, .int .i64 b4, .int .i64 b5, .int .i64 b6, .int .i64 b7, .int .i64 b8, .slice q9 n9 d9, .int .i64 b10, .int .i64 b11, y12, y13] : List Value) from rfl)).set 12 (.int .i64 b12) (by simp) (show _ = ([.int .i64 b0, .int .i64 b1, .slice q2 n2 d2, .int .i64 b3, .int .i64 b4, .int .i64 b5, .int .i64 b6, .int .i64 b7, .int .i64 b8, .slice q9 n9 d9, .int .i64 b10, .int .i64 b11, .int .i64 b12, y13] : List Value) from rfl)).set 13 (.int .i64 b13) (by simp) (show _ = ([.int .i64 b0, .int .i64 b1, .slice q2 n2 d2, .int .i64 b3, .int .i64 b4, .int .i64 b5, .int .i64 b6, .int .i64 b7, .int .i64 b8, .slice q9 n9 d9, .int .i64 b10, .int .i64 b11, .int .i64 b12, .int .i64 b13] : List Value) from rfl)) (((((((((((((((Turn.refl Z w).setCell (p := ⟨Z, 0, none⟩) rfl (.int .i64 b0)).setCell (p := ⟨Z, 1, none⟩) rfl (.int .i64 b1)).setCell (p := ⟨Z, 2, none⟩) rfl (.slice q2 n2 d2)).setCell (p := ⟨Z, 3, none⟩) rfl (.int .i64 b3)).setCell (p := ⟨Z, 4, none⟩) rfl (.int .i64 b4)).setCell (p := ⟨Z, 5, none⟩) rfl (.int .i64 b5)).setCell (p := ⟨Z, 6, none⟩) rfl (.int .i64 b6)).setCell (p := ⟨Z, 7, none⟩) rfl (.int .i64 b7)).setCell (p := ⟨Z, 8, none⟩) rfl (.int .i64 b8)).setCell (p := ⟨Z, 9, none⟩) rfl (.slice q9 n9 d9)).setCell (p := ⟨Z, 10, none⟩) rfl (.int .i64 b10)).setCell (p := ⟨Z, 11, none⟩) rfl (.int .i64 b11)).setCell (p := ⟨Z, 12, none⟩) rfl (.int .i64 b12)).setCell (p := ⟨Z, 13, none⟩) rfl (.int .i64 b13)))
  obtain ⟨dst, op, ty, pos, aft, gd⟩ := o
  simp only [] at hgd hds ho
  subst hgd hds ho
  clear h hK
  unfold Oper.wp
  simp only [execOp, hx, hy]
  go_simp
  exact key
set_option maxRecDepth 8000 in
set_option maxHeartbeats 4000000 in
theorem putCerPair_0 {w : World} {ops : Array Oper} {rest : List Oper} {o : Oper} {a : Act} {Q : Exit → Act → World → Prop} (hgd : o.guard = none) (hds : o.dst = none) (x y : Operand) (ho : o.op = .store 39 x y)
    (Z : Nat) (y0 : Value) (y1 : Value) (y2 : Value) (y3 : Value) (y4 : Value) (y5 : Value) (y6 : Value) (y7 : Value) (y8 : Value) (y9 : Value) (y10 : Value) (y11 : Value) (y12 : Value) (y13 : Value) (hB : Rec Z [y0, y1, y2, y3, y4, y5, y6, y7, y8, y9, y10, y11, y12, y13] w) (hx : a.eval x = .pointer (some ⟨Z, 0, none⟩)) (b0 : Int) (b1 : Int) (q2 : Option Addr) (n2 d2 : Nat) (b3 : Int) (b4 : Int) (b5 : Int) (b6 : Int) (hy : a.eval y = .agg #[.int .i64 b0, .int .i64 b1, .slice q2 n2 d2, .int .i64 b3, .int .i64 b4, .int .i64 b5, .int .i64 b6])
    (h : ∀ w' : World, Hid (Rec Z [.int .i64 b0, .int .i64 b1, .slice q2 n2 d2, .int .i64 b3, .int .i64 b4, .int .i64 b5, .int .i64 b6, y7, y8, y9, y10, y11, y12, y13] w') → Hid (Turn Z w w') → wpList Try.prog ops Q rest a w') :
    wpList Try.prog ops Q (o :: rest) a w := by
  refine wpList_plain hgd fun K hK => ?_
  have z0 := hB.cell 0 _ rfl
  have s0 := hB.soft 0
  have z1 := hB.cell 1 _ rfl
  have s1 := hB.soft 1
  have z2 := hB.cell 2 _ rfl
  have s2 := hB.soft 2
  have z3 := hB.cell 3 _ rfl
  have s3 := hB.soft 3
  have z4 := hB.cell 4 _ rfl
  have s4 := hB.soft 4
  have z5 := hB.cell 5 _ rfl
  have s5 := hB.soft 5
  have z6 := hB.cell 6 _ rfl
  have s6 := hB.soft 6
  have key := hK _ _ (h _ (((((((hB.set 0 (.int .i64 b0) (by simp) (show _ = ([.int .i64 b0, y1, y2, y3, y4, y5, y6, y7, y8, y9, y10, y11, y12, y13] : List Value) from rfl)).set 1 (.int .i64 b1) (by simp) (show _ = ([.int .i64 b0, .int .i64 b1, y2, y3, y4, y5, y6, y7, y8, y9, y10, y11, y12, y13] : List Value) from rfl)).set 2 (.slice q2 n2 d2) (by simp) (show _ = ([.int .i64 b0, .int .i64 b1, .slice q2 n2 d2, y3, y4, y5, y6, y7, y8, y9, y10, y11, y12, y13] : List Value) from rfl)).set 3 (.int .i64 b3) (by simp) (show _ = ([.int .i64 b0, .int .i64 b1, .slice q2 n2 d2, .int .i64 b3, y4, y5, y6, y7, y8, y9, y10, y11, y12, y13] : List Value) from rfl)).set 4 (.int .i64 b4) (by simp) (show _ = ([.int .i64 b0, .int .i64 b1, .slice q2 n2 d2, .int .i64 b3, .int .i64 b4, y5, y6, y7, y8, y9, y10, y11, y12, y13] : List Value) from rfl)).set 5 (.int .i64 b5) (by simp) (show _ = ([.int .i64 b0, .int .i64 b1, .slice q2 n2 d2, .int .i64 b3, .int .i64 b4, .int .i64 b5, y6, y7, y8, y9, y10, y11, y12, y13] : List Value) from rfl)).set 6 (.int .i64 b6) (by simp) (show _ = ([.int .i64 b0, .int .i64 b1, .slice q2 n2 d2, .int .i64 b3, .int .i64 b4, .int .i64 b5, .int .i64 b6, y7, y8, y9, y10, y11, y12, y13] : List Value) from rfl)) ((((((((Turn.refl Z w).setCell (p := ⟨Z, 0, none⟩) rfl (.int .i64 b0)).setCell (p := ⟨Z, 1, none⟩) rfl (.int .i64 b1)).setCell (p := ⟨Z, 2, none⟩) rfl (.slice q2 n2 d2)).setCell (p := ⟨Z, 3, none⟩) rfl (.int .i64 b3)).setCell (p := ⟨Z, 4, none⟩) rfl (.int .i64 b4)).setCell (p := ⟨Z, 5, none⟩) rfl (.int .i64 b5)).setCell (p := ⟨Z, 6, none⟩) rfl (.int .i64 b6)))
  obtain ⟨dst, op, ty, pos, aft, gd⟩ := o
  simp only [] at hgd hds ho
  subst hgd hds ho
  clear h hK
  unfold Oper.wp
  simp only [execOp, hx, hy]
  go_simp
  exact key
set_option maxRecDepth 8000 in
set_option maxHeartbeats 4000000 in
theorem putCerPair_7 {w : World} {ops : Array Oper} {rest : List Oper} {o : Oper} {a : Act} {Q : Exit → Act → World → Prop} (hgd : o.guard = none) (hds : o.dst = none) (x y : Operand) (ho : o.op = .store 39 x y)
    (Z : Nat) (y0 : Value) (y1 : Value) (y2 : Value) (y3 : Value) (y4 : Value) (y5 : Value) (y6 : Value) (y7 : Value) (y8 : Value) (y9 : Value) (y10 : Value) (y11 : Value) (y12 : Value) (y13 : Value) (hB : Rec Z [y0, y1, y2, y3, y4, y5, y6, y7, y8, y9, y10, y11, y12, y13] w) (hx : a.eval x = .pointer (some ⟨Z, 7, none⟩)) (b7 : Int) (b8 : Int) (q9 : Option Addr) (n9 d9 : Nat) (b10 : Int) (b11 : Int) (b12 : Int) (b13 : Int) (hy : a.eval y = .agg #[.int .i64 b7, .int .i64 b8, .slice q9 n9 d9, .int .i64 b10, .int .i64 b11, .int .i64 b12, .int .i64 b13])
    (h : ∀ w' : World, Hid (Rec Z [y0, y1, y2, y3, y4, y5, y6, .int .i64 b7, .int .i64 b8, .slice q9 n9 d9, .int .i64 b10, .int .i64 b11, .int .i64 b12, .int .i64 b13] w') → Hid (Turn Z w w') → wpList Try.prog ops Q rest a w') :
    wpList Try.prog ops Q (o :: rest) a w := by
  refine wpList_plain hgd fun K hK => ?_
  have z7 := hB.cell 7 _ rfl
  have s7 := hB.soft 7
  have z8 := hB.cell 8 _ rfl
  have s8 := hB.soft 8
  have z9 := hB.cell 9 _ rfl
  have s9 := hB.soft 9
  have z10 := hB.cell 10 _ rfl
  have s10 := hB.soft 10
  have z11 := hB.cell 11 _ rfl
  have s11 := hB.soft 11
  have z12 := hB.cell 12 _ rfl
  have s12 := hB.soft 12
  have z13 := hB.cell 13 _ rfl
  have s13 := hB.soft 13
  have key := hK _ _ (h _ (((((((hB.set 7 (.int .i64 b7) (by simp) (show _ = ([y0, y1, y2, y3, y4, y5, y6, .int .i64 b7, y8, y9, y10, y11, y12, y13] : List Value) from rfl)).set 8 (.int .i64 b8) (by simp) (show _ = ([y0, y1, y2, y3, y4, y5, y6, .int .i64 b7, .int .i64 b8, y9, y10, y11, y12, y13] : List Value) from rfl)).set 9 (.slice q9 n9 d9) (by simp) (show _ = ([y0, y1, y2, y3, y4, y5, y6, .int .i64 b7, .int .i64 b8, .slice q9 n9 d9, y10, y11, y12, y13] : List Value) from rfl)).set 10 (.int .i64 b10) (by simp) (show _ = ([y0, y1, y2, y3, y4, y5, y6, .int .i64 b7, .int .i64 b8, .slice q9 n9 d9, .int .i64 b10, y11, y12, y13] : List Value) from rfl)).set 11 (.int .i64 b11) (by simp) (show _ = ([y0, y1, y2, y3, y4, y5, y6, .int .i64 b7, .int .i64 b8, .slice q9 n9 d9, .int .i64 b10, .int .i64 b11, y12, y13] : List Value) from rfl)).set 12 (.int .i64 b12) (by simp) (show _ = ([y0, y1, y2, y3, y4, y5, y6, .int .i64 b7, .int .i64 b8, .slice q9 n9 d9, .int .i64 b10, .int .i64 b11, .int .i64 b12, y13] : List Value) from rfl)).set 13 (.int .i64 b13) (by simp) (show _ = ([y0, y1, y2, y3, y4, y5, y6, .int .i64 b7, .int .i64 b8, .slice q9 n9 d9, .int .i64 b10, .int .i64 b11, .int .i64 b12, .int .i64 b13] : List Value) from rfl)) ((((((((Turn.refl Z w).setCell (p := ⟨Z, 7, none⟩) rfl (.int .i64 b7)).setCell (p := ⟨Z, 8, none⟩) rfl (.int .i64 b8)).setCell (p := ⟨Z, 9, none⟩) rfl (.slice q9 n9 d9)).setCell (p := ⟨Z, 10, none⟩) rfl (.int .i64 b10)).setCell (p := ⟨Z, 11, none⟩) rfl (.int .i64 b11)).setCell (p := ⟨Z, 12, none⟩) rfl (.int .i64 b12)).setCell (p := ⟨Z, 13, none⟩) rfl (.int .i64 b13)))
  obtain ⟨dst, op, ty, pos, aft, gd⟩ := o
  simp only [] at hgd hds ho
  subst hgd hds ho
  clear h hK
  unfold Oper.wp
  simp only [execOp, hx, hy]
  go_simp
  exact key
set_option maxRecDepth 8000 in
set_option maxHeartbeats 8000000 in
theorem toCerPair (a0 : Int) (a1 : Int) (x2 : List Opn) (a3 : Int) (a4 : Int) (a5 : Int) (a6 : Int) (a7 : Int) (a8 : Int) (x9 : List Opn) (a10 : Int) (a11 : Int) (a12 : Int) (a13 : Int) (cs : List Value) (w : World) (h : cerR.rd w cs (a0, a1, x2, a3, a4, a5, a6, a7, a8, x9, a10, a11, a12, a13)) (hs : cerR.sz (a0, a1, x2, a3, a4, a5, a6, a7, a8, x9, a10, a11, a12, a13) ≤ 1048576) :
    Calls Try.prog 36 #[.agg cs.toArray] w fun e w' => ∃ g2 g9, e = .returned (.agg #[.int .i64 a0, .int .i64 a1, .slice (some ⟨g2, 0, none⟩) x2.length x2.length, .int .i64 a3, .int .i64 a4, .int .i64 a5, .int .i64 a6, .int .i64 a7, .int .i64 a8, .slice (some ⟨g9, 0, none⟩) x9.length x9.length, .int .i64 a10, .int .i64 a11, .int .i64 a12, .int .i64 a13]) ∧ cerR.ow w' (New w w') [.int .i64 a0, .int .i64 a1, .slice (some ⟨g2, 0, none⟩) x2.length x2.length, .int .i64 a3, .int .i64 a4, .int .i64 a5, .int .i64 a6, .int .i64 a7, .int .i64 a8, .slice (some ⟨g9, 0, none⟩) x9.length x9.length, .int .i64 a10, .int .i64 a11, .int .i64 a12, .int .i64 a13] (a0, a1, x2, a3, a4, a5, a6, a7, a8, x9, a10, a11, a12, a13) ∧ Below w.heap.size w w' := by
  obtain ⟨q2, c2, q9, c9, rfl, k2, k9⟩ := cerR_rd h
  rw [cerR_sz] at hs
  have T := hide (Three.new w [.int .i64 a0, .int .i64 a1, .slice q2 x2.length c2, .int .i64 a3, .int .i64 a4, .int .i64 a5, .int .i64 a6, .int .i64 a7, .int .i64 a8, .slice q9 x9.length c9, .int .i64 a10, .int .i64 a11, .int .i64 a12, .int .i64 a13] [.int .i64 0, .int .i64 0, .slice none 0 0, .int .i64 0, .int .i64 0, .int .i64 0, .int .i64 0, .int .i64 0, .int .i64 0, .slice none 0 0, .int .i64 0, .int .i64 0, .int .i64 0, .int .i64 0] [.int .i64 0, .int .i64 0, .slice none 0 0, .int .i64 0, .int .i64 0, .int .i64 0, .int .i64 0, .int .i64 0, .int .i64 0, .slice none 0 0, .int .i64 0, .int .i64 0, .int .i64 0, .int .i64 0] 62 66 66)
  have H2 := hide k2
  have S2 : Hid (opsK.sz x2 ≤ 1048576) := show _ ≤ _ by omega
  have H9 := hide k9
  have S9 : Hid (opsK.sz x9 ≤ 1048576) := show _ ≤ _ by omega
  clear h hs k2 k9
  go_enter Try.func36, Try.ntmps36
  go_wp2_with fail
  generalize ((w.alloc (.cells #[.int .i64 a0, .int .i64 a1, .slice q2 x2.length c2, .int .i64 a3, .int .i64 a4, .int .i64 a5, .int .i64 a6, .int .i64 a7, .int .i64 a8, .slice q9 x9.length c9, .int .i64 a10, .int .i64 a11, .int .i64 a12, .int .i64 a13] 62)).alloc (.cells #[.int .i64 0, .int .i64 0, .slice none 0 0, .int .i64 0, .int .i64 0, .int .i64 0, .int .i64 0, .int .i64 0, .int .i64 0, .slice none 0 0, .int .i64 0, .int .i64 0, .int .i64 0, .int .i64 0] 66)).alloc (.cells #[.int .i64 0, .int .i64 0, .slice none 0 0, .int .i64 0, .int .i64 0, .int .i64 0, .int .i64 0, .int .i64 0, .int .i64 0, .slice none 0 0, .int .i64 0, .int .i64 0, .int .i64 0, .int .i64 0] 66) = c0 at T ⊢
  refine (toBlk a0 a1 x2 a3 a4 a5 a6 _ _ (blk_mk (opsK.rb H2.out T.out.bw)) S2.out).mono ?_
  rintro e u2 ⟨g2, rfl, O2, hb⟩
  have W2 := hide (blk_ops O2)
  clear O2
  have LO2 : Hid (w.heap.size + 1 + 1 < c0.heap.size) := T.out.o.lt
  have HI2 : Hid (u2.heap.size ≤ u2.heap.size) := Nat.le_refl _
  replace T := hide (T.out.below hb)
  clear hb H2 S2
  go_wp2_with (refine putCerPair_0 rfl rfl _ _ rfl (w.heap.size + 1 + 1) _ _ _ _ _ _ _ _ _ _ _ _ _ _ T.out.o rfl _ _ _ _ _ _ _ _ _ rfl ?_; intro v2 RB TB; refine Hid.out ?_)
  replace T := hide (three_fill T.out TB.out (O' := [.int .i64 a0, .int .i64 a1, .slice (some ⟨g2, 0, none⟩) x2.length x2.length, .int .i64 a3, .int .i64 a4, .int .i64 a5, .int .i64 a6, .int .i64 0, .int .i64 0, .slice none 0 0, .int .i64 0, .int .i64 0, .int .i64 0, .int .i64 0]) RB.out)
  replace W2 := hide (opsK.ot W2.out TB.out (fun q => by have := LO2.out; have := q.1; omega))
  replace HI2 : Hid (u2.heap.size ≤ v2.heap.size) := Nat.le_trans HI2.out TB.out.size
  clear RB TB
  refine hide ?_
  have ta7 := T.out.a.cell 7 _ rfl
  have ta8 := T.out.a.cell 8 _ rfl
  have ta9 := T.out.a.cell 9 _ rfl
  have ta10 := T.out.a.cell 10 _ rfl
  have ta11 := T.out.a.cell 11 _ rfl
  have ta12 := T.out.a.cell 12 _ rfl
  have ta13 := T.out.a.cell 13 _ rfl
  go_wp2_with fail
  refine (toBlk a7 a8 x9 a10 a11 a12 a13 _ _ (blk_mk (opsK.rb H9.out T.out.bw)) S9.out).mono ?_
  rintro e u9 ⟨g9, rfl, O9, hb⟩
  have W9 := hide (blk_ops O9)
  clear O9
  have LO9 : Hid (w.heap.size + 1 + 1 < v2.heap.size) := T.out.o.lt
  have HI9 : Hid (u9.heap.size ≤ u9.heap.size) := Nat.le_refl _
  replace T := hide (T.out.below hb)
  have M2_9 := HI2
  replace W2 := hide (opsK.ob W2.out hb)
  replace HI2 : Hid (u2.heap.size ≤ u9.heap.size) := Nat.le_trans HI2.out hb.size
  clear hb H9 S9 ta7 ta8 ta9 ta10 ta11 ta12 ta13
  go_wp2_with (refine putCerPair_7 rfl rfl _ _ rfl (w.heap.size + 1 + 1) _ _ _ _ _ _ _ _ _ _ _ _ _ _ T.out.o rfl _ _ _ _ _ _ _ _ _ rfl ?_; intro v9 RB TB; refine Hid.out ?_)
  replace T := hide (three_fill T.out TB.out (O' := [.int .i64 a0, .int .i64 a1, .slice (some ⟨g2, 0, none⟩) x2.length x2.length, .int .i64 a3, .int .i64 a4, .int .i64 a5, .int .i64 a6, .int .i64 a7, .int .i64 a8, .slice (some ⟨g9, 0, none⟩) x9.length x9.length, .int .i64 a10, .int .i64 a11, .int .i64 a12, .int .i64 a13]) RB.out)
  replace W2 := hide (opsK.ot W2.out TB.out (fun q => by have := LO2.out; have := q.1; omega))
  replace HI2 : Hid (u2.heap.size ≤ v9.heap.size) := Nat.le_trans HI2.out TB.out.size
  replace W9 := hide (opsK.ot W9.out TB.out (fun q => by have := LO9.out; have := q.1; omega))
  replace HI9 : Hid (u9.heap.size ≤ v9.heap.size) := Nat.le_trans HI9.out TB.out.size
  clear RB TB
  refine hide ?_
  have o0 := T.out.o.cell 0 _ rfl
  have o1 := T.out.o.cell 1 _ rfl
  have o2 := T.out.o.cell 2 _ rfl
  have o3 := T.out.o.cell 3 _ rfl
  have o4 := T.out.o.cell 4 _ rfl
  have o5 := T.out.o.cell 5 _ rfl
  have o6 := T.out.o.cell 6 _ rfl
  have o7 := T.out.o.cell 7 _ rfl
  have o8 := T.out.o.cell 8 _ rfl
  have o9 := T.out.o.cell 9 _ rfl
  have o10 := T.out.o.cell 10 _ rfl
  have o11 := T.out.o.cell 11 _ rfl
  have o12 := T.out.o.cell 12 _ rfl
  have o13 := T.out.o.cell 13 _ rfl
  go_wp2_with (refine layCerPair rfl rfl _ _ rfl (w.heap.size + 1) _ _ _ _ _ _ _ _ _ _ _ _ _ _ T.out.z rfl _ _ _ _ _ _ _ _ _ _ _ _ _ _ _ _ _ _ rfl ?_; intro V RB TB; refine Hid.out ?_)
  replace W2 := hide (opsK.ot W2.out TB.out (fun q => by have := LO2.out; have := q.1; omega))
  replace HI2 : Hid (u2.heap.size ≤ V.heap.size) := Nat.le_trans HI2.out TB.out.size
  replace W9 := hide (opsK.ot W9.out TB.out (fun q => by have := LO9.out; have := q.1; omega))
  replace HI9 : Hid (u9.heap.size ≤ V.heap.size) := Nat.le_trans HI9.out TB.out.size
  have BW := hide (T.out.bw.trans (TB.out.below (by omega) (Nat.le_of_lt T.out.a.lt)))
  have z0 := RB.out.cell 0 _ rfl
  have z1 := RB.out.cell 1 _ rfl
  have z2 := RB.out.cell 2 _ rfl
  have z3 := RB.out.cell 3 _ rfl
  have z4 := RB.out.cell 4 _ rfl
  have z5 := RB.out.cell 5 _ rfl
  have z6 := RB.out.cell 6 _ rfl
  have z7 := RB.out.cell 7 _ rfl
  have z8 := RB.out.cell 8 _ rfl
  have z9 := RB.out.cell 9 _ rfl
  have z10 := RB.out.cell 10 _ rfl
  have z11 := RB.out.cell 11 _ rfl
  have z12 := RB.out.cell 12 _ rfl
  have z13 := RB.out.cell 13 _ rfl
  have FIN := hide (cerR_omk (A := New w V) (a0 := a0) (a1 := a1) (x2 := x2) (a3 := a3) (a4 := a4) (a5 := a5) (a6 := a6) (a7 := a7) (a8 := a8) (x9 := x9) (a10 := a10) (a11 := a11) (a12 := a12) (a13 := a13) W2.out W9.out (fun b q => ⟨by have := LO2.out; have := q.1; omega, by have := HI2.out; have := q.2; omega⟩) (fun b q => ⟨by have := LO9.out; have := q.1; omega, by have := HI9.out; have := q.2; omega⟩) (fun b q r => by have := M2_9.out; have := q.2; have := r.1; omega))
  clear RB TB T o0 o1 o2 o3 o4 o5 o6 o7 o8 o9 o10 o11 o12 o13
  refine hide ?_
  go_wp2
  exact bodyPost_ret (v := .agg #[.int .i64 a0, .int .i64 a1, .slice (some ⟨g2, 0, none⟩) x2.length x2.length, .int .i64 a3, .int .i64 a4, .int .i64 a5, .int .i64 a6, .int .i64 a7, .int .i64 a8, .slice (some ⟨g9, 0, none⟩) x9.length x9.length, .int .i64 a10, .int .i64 a11, .int .i64 a12, .int .i64 a13]) (by simp [results, Try.results36, go_sem, z0, z1, z2, z3, z4, z5, z6, z7, z8, z9, z10, z11, z12, z13]) rfl ⟨g2, g9, rfl, FIN.out, BW.out⟩
set_option maxRecDepth 8000 in
set_option maxHeartbeats 4000000 in
theorem eqCerPair (a0 : Int) (a1 : Int) (x2 : List Opn) (a3 : Int) (a4 : Int) (a5 : Int) (a6 : Int) (a7 : Int) (a8 : Int) (x9 : List Opn) (a10 : Int) (a11 : Int) (a12 : Int) (a13 : Int) (cs cs' : List Value) (w : World) (h : cerR.rd w cs (a0, a1, x2, a3, a4, a5, a6, a7, a8, x9, a10, a11, a12, a13)) (h' : cerR.rd w cs' (a0, a1, x2, a3, a4, a5, a6, a7, a8, x9, a10, a11, a12, a13)) :
    Calls Try.prog 38 #[.agg cs.toArray, .agg cs'.toArray] w fun e w' => e = .returned (.bool true) ∧ Below w.heap.size w w' := by
  obtain ⟨q2, c2, q9, c9, rfl, k2, k9⟩ := cerR_rd h
  obtain ⟨p2, d2, p9, d9, rfl, l2, l9⟩ := cerR_rd h'
  have bV : Below w.heap.size w ((w.alloc (.cells #[.int .i64 a0, .int .i64 a1, .slice q2 x2.length c2, .int .i64 a3, .int .i64 a4, .int .i64 a5, .int .i64 a6, .int .i64 a7, .int .i64 a8, .slice q9 x9.length c9, .int .i64 a10, .int .i64 a11, .int .i64 a12, .int .i64 a13] 66)).alloc (.cells #[.int .i64 a0, .int .i64 a1, .slice p2 x2.length d2, .int .i64 a3, .int .i64 a4, .int .i64 a5, .int .i64 a6, .int .i64 a7, .int .i64 a8, .slice p9 x9.length d9, .int .i64 a10, .int .i64 a11, .int .i64 a12, .int .i64 a13] 66)) := ((Below.refl _ _).alloc (Nat.le_refl _) _).alloc (by simp) _
  have RR := hide ((Rec.new w [.int .i64 a0, .int .i64 a1, .slice q2 x2.length c2, .int .i64 a3, .int .i64 a4, .int .i64 a5, .int .i64 a6, .int .i64 a7, .int .i64 a8, .slice q9 x9.length c9, .int .i64 a10, .int .i64 a11, .int .i64 a12, .int .i64 a13] 66).alloc (.cells #[.int .i64 a0, .int .i64 a1, .slice p2 x2.length d2, .int .i64 a3, .int .i64 a4, .int .i64 a5, .int .i64 a6, .int .i64 a7, .int .i64 a8, .slice p9 x9.length d9, .int .i64 a10, .int .i64 a11, .int .i64 a12, .int .i64 a13] 66))
  have RS := Rec.new (w.alloc (.cells #[.int .i64 a0, .int .i64 a1, .slice q2 x2.length c2, .int .i64 a3, .int .i64 a4, .int .i64 a5, .int .i64 a6, .int .i64 a7, .int .i64 a8, .slice q9 x9.length c9, .int .i64 a10, .int .i64 a11, .int .i64 a12, .int .i64 a13] 66)) [.int .i64 a0, .int .i64 a1, .slice p2 x2.length d2, .int .i64 a3, .int .i64 a4, .int .i64 a5, .int .i64 a6, .int .i64 a7, .int .i64 a8, .slice p9 x9.length d9, .int .i64 a10, .int .i64 a11, .int .i64 a12, .int .i64 a13] 66
  rw [show (w.alloc (.cells #[.int .i64 a0, .int .i64 a1, .slice q2 x2.length c2, .int .i64 a3, .int .i64 a4, .int .i64 a5, .int .i64 a6, .int .i64 a7, .int .i64 a8, .slice q9 x9.length c9, .int .i64 a10, .int .i64 a11, .int .i64 a12, .int .i64 a13] 66)).heap.size = w.heap.size + 1 by simp] at RS
  replace RS := hide RS
  have H2 := hide (opsK.rb k2 bV)
  have J2 := hide (opsK.rb l2 bV)
  have H9 := hide (opsK.rb k9 bV)
  have J9 := hide (opsK.rb l9 bV)
  have BW := hide bV
  clear bV h h' k2 l2 k9 l9
  go_enter Try.func38, Try.ntmps38
  go_wp2_with fail
  refine (eqBlk a0 a1 x2 a3 a4 a5 a6 _ _ _ (blk_mk H2.out) (blk_mk J2.out)).mono ?_
  rintro e u2 ⟨rfl, hb⟩
  replace RR := hide (RR.out.below hb)
  replace RS := hide (RS.out.below hb)
  replace BW := hide (BW.out.trans (hb.mono BW.out.size))
  replace H9 := hide (opsK.rb H9.out hb)
  replace J9 := hide (opsK.rb J9.out hb)
  clear hb
  have z7 := RR.out.cell 7 _ rfl
  have y7 := RS.out.cell 7 _ rfl
  have z8 := RR.out.cell 8 _ rfl
  have y8 := RS.out.cell 8 _ rfl
  have z9 := RR.out.cell 9 _ rfl
  have y9 := RS.out.cell 9 _ rfl
  have z10 := RR.out.cell 10 _ rfl
  have y10 := RS.out.cell 10 _ rfl
  have z11 := RR.out.cell 11 _ rfl
  have y11 := RS.out.cell 11 _ rfl
  have z12 := RR.out.cell 12 _ rfl
  have y12 := RS.out.cell 12 _ rfl
  have z13 := RR.out.cell 13 _ rfl
  have y13 := RS.out.cell 13 _ rfl
  go_wp2_with fail
  refine (eqBlk a7 a8 x9 a10 a11 a12 a13 _ _ _ (blk_mk H9.out) (blk_mk J9.out)).mono ?_
  rintro e u9 ⟨rfl, hb⟩
  replace RR := hide (RR.out.below hb)
  replace RS := hide (RS.out.below hb)
  replace BW := hide (BW.out.trans (hb.mono BW.out.size))
  clear hb z7 y7 z8 y8 z9 y9 z10 y10 z11 y11 z12 y12 z13 y13
  go_wp2
  go_ret
  exact ⟨rfl, BW.out⟩
set_option maxRecDepth 8000 in
set_option maxHeartbeats 4000000 in
theorem markCerPair (a0 : Int) (a1 : Int) (x2 : List Opn) (a3 : Int) (a4 : Int) (a5 : Int) (a6 : Int) (a7 : Int) (a8 : Int) (x9 : List Opn) (a10 : Int) (a11 : Int) (a12 : Int) (a13 : Int) (k : Int) (A : Nat → Prop) (cs : List Value) (w : World) (h : cerR.ow w A cs (a0, a1, x2, a3, a4, a5, a6, a7, a8, x9, a10, a11, a12, a13)) (hA : ∀ b, A b → b < w.heap.size) (k0 : 0 ≤ k) (k1 : k + (opsK.nx x2 : Nat) + (opsK.nx x9 : Nat) ≤ 1000000000) :
    Calls Try.prog 40 #[.agg cs.toArray, .int .i64 k] w fun e w' => e = .returned (.int .i64 (k + (opsK.nx x2 : Nat) + (opsK.nx x9 : Nat))) ∧ Keep A w w' := by
  obtain ⟨q2, c2, q9, c9, A2, A9, rfl, kk2, kk9, s2, s9, d2_9⟩ := cerR_own h
  have K1 := hide k1
  have bV : Below w.heap.size w (w.alloc (.cells #[.int .i64 a0, .int .i64 a1, .slice q2 x2.length c2, .int .i64 a3, .int .i64 a4, .int .i64 a5, .int .i64 a6, .int .i64 a7, .int .i64 a8, .slice q9 x9.length c9, .int .i64 a10, .int .i64 a11, .int .i64 a12, .int .i64 a13] 66)) := (Below.refl _ _).alloc (Nat.le_refl _) _
  have RR := hide (Rec.new w [.int .i64 a0, .int .i64 a1, .slice q2 x2.length c2, .int .i64 a3, .int .i64 a4, .int .i64 a5, .int .i64 a6, .int .i64 a7, .int .i64 a8, .slice q9 x9.length c9, .int .i64 a10, .int .i64 a11, .int .i64 a12, .int .i64 a13] 66)
  have H2 := hide (opsK.ob kk2 bV)
  have H9 := hide (opsK.ob kk9 bV)
  have NB : Hid (¬ A w.heap.size) := fun q => by have := hA _ q; omega
  have KP : Hid (Keep A w _) := Keep.of_below bV
  obtain ⟨E, eE⟩ : ∃ E, k + (opsK.nx x2 : Nat) + (opsK.nx x9 : Nat) = E := ⟨_, rfl⟩
  rw [eE]
  have EE := hide eE
  clear bV h k1 eE kk2 kk9
  go_enter Try.func40, Try.ntmps40
  go_wp2_with fail
  refine (markBlk a0 a1 x2 a3 a4 a5 a6 k A2 _ _ (blk_omk H2.out) (fun b q => by have := KP.out.size; have := hA b (s2 b q); omega) k0 (show k + ((opsK.nx x2 : Nat) : Int) ≤ 1000000000 by have := K1.out; omega)).mono ?_
  rintro e u2 ⟨rfl, O2, hk⟩
  clear O2
  replace RR := hide (RR.out.keep hk (fun q => NB.out (s2 _ q)))
  replace KP := hide (KP.out.trans (hk.mono (fun b _ q => s2 b q)))
  replace H9 := hide (opsK.ok H9.out hk (fun b q r => d2_9 b r q))
  obtain ⟨r2, er2⟩ : ∃ z, k + ((opsK.nx x2 : Nat) : Int) = z := ⟨_, rfl⟩
  rw [show k + ((blkR.nx (a0, a1, x2, a3, a4, a5, a6) : Nat) : Int) = r2 from er2]
  have ER2 := hide er2
  have rb2 : 0 ≤ r2 ∧ r2 ≤ 1000000000 := by have := K1.out; have := ER2.out; omega
  clear hk H2 er2
  have z7 := RR.out.cell 7 _ rfl
  have z8 := RR.out.cell 8 _ rfl
  have z9 := RR.out.cell 9 _ rfl
  have z10 := RR.out.cell 10 _ rfl
  have z11 := RR.out.cell 11 _ rfl
  have z12 := RR.out.cell 12 _ rfl
  have z13 := RR.out.cell 13 _ rfl
  go_wp2_with fail
  refine (markBlk a7 a8 x9 a10 a11 a12 a13 r2 A9 _ _ (blk_omk H9.out) (fun b q => by have := KP.out.size; have := hA b (s9 b q); omega) rb2.1 (show r2 + ((opsK.nx x9 : Nat) : Int) ≤ 1000000000 by have := K1.out; have := ER2.out; omega)).mono ?_
  rintro e u9 ⟨rfl, O9, hk⟩
  clear O9
  replace RR := hide (RR.out.keep hk (fun q => NB.out (s9 _ q)))
  replace KP := hide (KP.out.trans (hk.mono (fun b _ q => s9 b q)))
  obtain ⟨r9, er9⟩ : ∃ z, r2 + ((opsK.nx x9 : Nat) : Int) = z := ⟨_, rfl⟩
  rw [show r2 + ((blkR.nx (a7, a8, x9, a10, a11, a12, a13) : Nat) : Int) = r9 from er9]
  have ER9 := hide er9
  have rb9 : 0 ≤ r9 ∧ r9 ≤ 1000000000 := by have := K1.out; have := ER9.out; have := ER2.out; omega
  clear hk H9 er9 z7 z8 z9 z10 z11 z12 z13
  have FE : Hid (r9 = E) := show _ = _ by have := EE.out; have := ER2.out; have := ER9.out; omega
  clear RR
  go_wp2
  go_ret
  exact ⟨ret_int FE.out, KP.out⟩
set_option maxRecDepth 8000 in
theorem cerR_hold {w : World} {cs : List Value} (h : Shape.Holds Try.prog w 10 62 cs) : ∃ a0 a1 x2 a3 a4 a5 a6 a7 a8 x9 a10 a11 a12 a13, cerR.rd w cs (a0, a1, x2, a3, a4, a5, a6, a7, a8, x9, a10, a11, a12, a13) := by
  obtain ⟨hl, hf⟩ := Shape.holds_struct (n := 9) Try.underlying62 h
  have em : Try.prog.cellsOf 62 = 14 := by kernel_rfl
  rw [em] at hl
  have ec0 : Try.prog.cellsOf 32 = 7 := by kernel_rfl
  obtain ⟨a0, a1, x2, a3, a4, a5, a6, hb0⟩ := blkR_hold (n := 0) (hf _ (List.mem_of_getElem? (i := 0) rfl))
  obtain ⟨q2, d2, e2, k2⟩ := blkR_rd hb0
  have ec1 : Try.prog.cellsOf 32 = 7 := by kernel_rfl
  obtain ⟨a7, a8, x9, a10, a11, a12, a13, hb1⟩ := blkR_hold (n := 0) (hf _ (List.mem_of_getElem? (i := 1) rfl))
  obtain ⟨q9, d9, e9, k9⟩ := blkR_rd hb1
  match cs, hl with
  | [c0, c1, c2, c3, c4, c5, c6, c7, c8, c9, c10, c11, c12, c13], _ =>
    simp [ec0, ec1] at e2 e9
    obtain ⟨e2_0, e2_1, e2_2, e2_3, e2_4, e2_5, e2_6⟩ := e2
    subst e2_0 e2_1 e2_2 e2_3 e2_4 e2_5 e2_6
    obtain ⟨e9_7, e9_8, e9_9, e9_10, e9_11, e9_12, e9_13⟩ := e9
    subst e9_7 e9_8 e9_9 e9_10 e9_11 e9_12 e9_13
    exact ⟨a0, a1, x2, a3, a4, a5, a6, a7, a8, x9, a10, a11, a12, a13, cerR_mk k2 k9⟩
set_option maxRecDepth 8000 in
theorem cerK_hold {w : World} {cs : List Value} (h : Shape.Holds Try.prog w 11 51 cs) : ∃ v xs, cs = [v] ∧ cerK.rd w v xs :=
  list_hold (R := cerR) (n := 10) Try.underlying51 (by kernel_rfl) (by decide) h (fun ys hy => by
    obtain ⟨a0, a1, x2, a3, a4, a5, a6, a7, a8, x9, a10, a11, a12, a13, hq⟩ := cerR_hold hy
    exact ⟨_, hq⟩)
end Go.Proofs.Ythlpndligadnjaa.Dt
