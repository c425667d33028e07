/-
  The laws' own functions over one pair.
-/
import Derived.Test.YtlgpnogeoaoidaaDtC
namespace Go.Proofs.Ytlgpnogeoaoidaa.Dt
set_option linter.unusedVariables false
set_option linter.unusedSimpArgs false
open Go.ChangeShapes Go.WideShapes Go.ChangeAt Go.RowKit IntS Pol Flat Irk
open Ir (Opn Bk bv ORow WORow RBk WBk OpAt SoftAt)
theorem cerR_sz {a0 : Int} {a1 : Int} {x2 : List Opn} {a3 : Int} {a4 : Int} {a5 : Int} {a6 : Int} {a7 : Int} {a8 : Int} {x9 : List Opn} {a10 : Int} {a11 : Int} {a12 : Int} {a13 : Int} : cerR.sz (a0, a1, x2, a3, a4, a5, a6, a7, a8, x9, a10, a11, a12, a13) = opsK.sz x2 + (opsK.sz x9 + (0)) := rfl
set_option maxRecDepth 8000 in
set_option maxHeartbeats 4000000 in
theorem layCerPair {w : World} {ops : Array Oper} {rest : List Oper} {o : Oper} {a : Act} {Q : Exit → Act → World → Prop} (hgd : o.guard = none) (hds : o.dst = none) (x y : Operand) (ho : o.op = .store 67 x y)
    (Z : Nat) (y0 : Value) (y1 : Value) (y2 : Value) (y3 : Value) (y4 : Value) (y5 : Value) (y6 : Value) (y7 : Value) (y8 : Value) (y9 : Value) (y10 : Value) (y11 : Value) (y12 : Value) (y13 : Value) (hB : Rec Z [y0, y1, y2, y3, y4, y5, y6, y7, y8, y9, y10, y11, y12, y13] w) (hx : a.eval x = .pointer (some ⟨Z, 0, none⟩)) (b0 : Int) (b1 : Int) (q2 : Option Addr) (n2 d2 : Nat) (b3 : Int) (b4 : Int) (b5 : Int) (b6 : Int) (b7 : Int) (b8 : Int) (q9 : Option Addr) (n9 d9 : Nat) (b10 : Int) (b11 : Int) (b12 : Int) (b13 : Int) (hy : a.eval y = .agg #[.int .i64 b0, .int .i64 b1, .slice q2 n2 d2, .int .i64 b3, .int .i64 b4, .int .i64 b5, .int .i64 b6, .int .i64 b7, .int .i64 b8, .slice q9 n9 d9, .int .i64 b10, .int .i64 b11, .int .i64 b12, .int .i64 b13])
    (h : ∀ w' : World, Hid (Rec Z [.int .i64 b0, .int .i64 b1, .slice q2 n2 d2, .int .i64 b3, .int .i64 b4, .int .i64 b5, .int .i64 b6, .int .i64 b7, .int .i64 b8, .slice q9 n9 d9, .int .i64 b10, .int .i64 b11, .int .i64 b12, .int .i64 b13] w') → Hid (Turn Z w w') → wpList Try.prog ops Q rest a w') :
    wpList Try.prog ops Q (o :: rest) a w := by
  refine wpList_plain hgd fun K hK => ?_
  have z0 := hB.cell 0 _ rfl
  have s0 := hB.soft 0
  have z1 := hB.cell 1 _ rfl
  have s1 := hB.soft 1
  have z2 := hB.cell 2 _ rfl
  have s2 := hB.soft 2
  have z3 := hB.cell 3 _ rfl
  have s3 := hB.soft 3
  have z4 := hB.cell 4 _ rfl
  have s4 := hB.soft 4
  have z5 := hB.cell 5 _ rfl
  have s5 := hB.soft 5
  have z6 := hB.cell 6 _ rfl
  have s6 := hB.soft 6
  have z7 := hB.cell 7 _ rfl
  have s7 := hB.soft 7
  have z8 := hB.cell 8 _ rfl
  have s8 := hB.soft 8
  have z9 := hB.cell 9 _ rfl
  have s9 := hB.soft 9
  have z10 := hB.cell 10 _ rfl
  have s10 := hB.soft 10
  have z11 := hB.cell 11 _ rfl
  have s11 := hB.soft 11
  have z12 := hB.cell 12 _ rfl
  have s12 := hB.soft 12
  have z13 := hB.cell 13 _ rfl
  have s13 := hB.soft 13
  have key := hK _ _ (h _ ((((((((((((((hB.set 0 (.int .i64 b0) (by simp) (show _ = ([.int .i64 b0, y1, y2, y3, y4, y5, y6, y7, y8, y9, y10, y11, y12, y13] : List Value) from rfl)).set 1 (.int .i64 b1) (by simp) (show _ = ([.int .i64 b0, .int .i64 b1, y2, y3, y4, y5, y6, y7, y8, y9, y10, y11, y12, y13] : List Value) from rfl)).set 2 (.slice q2 n2 d2) (by simp) (show _ = ([.int .i64 b0, .int .i64 b1, .slice q2 n2 d2, y3, y4, y5, y6, y7, y8, y9, y10, y11, y12, y13] : List Value) from rfl)).set 3 (.int .i64 b3) (by simp) (show _ = ([.int .i64 b0, .int .i64 b1, .slice q2 n2 d2, .int .i64 b3, y4, y5, y6, y7, y8, y9, y10, y11, y12, y13] : List Value) from rfl)).set 4 (.int .i64 b4) (by simp) (show _ = ([.int .i64 b0, .int .i64 b1, .slice q2 n2 d2, .int .i64 b3, .int .i64 b4, y5, y6, y7, y8, y9, y10, y11, y12, y13] : List Value) from rfl)).set 5 (.int .i64 b5) (by simp) (show _ = ([.int .i64 b0, .int .i64 b1, .slice q2 n2 d2, .int .i64 b3, .int .i64 b4, .int .i64 b5, y6, y7, y8, y9, y10, y11, y12, y13] : List Value) from rfl)).set 6 (.int .i64 b6) (by simp) (show _ = ([.int .i64 b0, .int .i64 b1, .slice q2 n2 d2, .int .i64 b3, .int .i64 b4, .int .i64 b5, .int .i64 b6, y7, y8, y9, y10, y11, y12, y13] : List Value) from rfl)).set 7 (.int .i64 b7) (by simp) (show _ = ([.int .i64 b0, .int .i64 b1, .slice q2 n2 d2, .int .i64 b3, .int .i64 b4, .int .i64 b5, .int .i64 b6, .int .i64 b7, y8, y9, y10, y11, y12, y13] : List Value) from rfl)).set 8 (.int .i64 b8) (by simp) (show _ = ([.int .i64 b0, .int .i64 b1, .slice q2 n2 d2, .int .i64 b3, .int .i64 b4, .int .i64 b5, .int .i64 b6, .int .i64 b7, .int .i64 b8, y9, y10, y11, y12, y13] : List Value) from rfl)).set 9 (.slice q9 n9 d9) (by simp) (show _ = ([.int .i64 b0, .int .i64 b1, .slice q2 n2 d2, .int .i64 b3, .int .i64 b4, .int .i64 b5, .int .i64 b6, .int .i64 b7, .int .i64 b8, .slice q9 n9 d9, y10, y11, y12, y13] : List Value) from rfl)).set 10 (.int .i64 b10) (by simp) (show _ = ([.int .i64 b0, .int .i64 b1, .slice q2 n2 d2, .int .i64 b3, .int .i64 b4, .int .i64 b5, .int .i64 b6, .int .i64 b7, .int .i64 b8, .slice q9 n9 d9, .int .i64 b10, y11, y12, y13] : List Value) from rfl)).set 11 (.int .i64 b11) (by simp) (show _ = ([.int .i64 b0, .int .i64 b1, .slice q2 n2 d2, .int .i64 b3, .int .i64 b4, .int .i64 b5, .int .i64 b6, .int .i64 b7, .int .i64 b8, .slice q9 n9 d9, .int .i64 b10, .int .i64 b11, y12, y13] : List Value) from rfl)).set 12 (.int .i64 b12) (by simp) (show _ = ([.int .i64 b0, .int .i64 b1, .slice q2 n2 d2, .int .i64 b3, .int .i64 b4, .int .i64 b5, .int .i64 b6, .int .i64 b7, .int .i64 b8, .slice q9 n9 d9, .int .i64 b10, .int .i64 b11, .int .i64 b12, y13] : List Value) from rfl)).set 13 (.int .i64 b13) (by simp) (show _ = ([.int .i64 b0, .int .i64 b1, .slice q2 n2 d2, .int .i64 b3, .int .i64 b4, .int .i64 b5, .int .i64 b6, .int .i64 b7, .int .i64 b8, .slice q9 n9 d9, .int .i64 b10, .int .i64 b11, .int .i64 b12, .int .i64 b13] : List Value) from rfl)) (((((((((((((((Turn.refl Z w).setCell (p := ⟨Z, 0, none⟩) rfl (.int .i64 b0)).setCell (p := ⟨Z, 1, none⟩) rfl (.int .i64 b1)).setCell (p := ⟨Z, 2, none⟩) rfl (.slice q2 n2 d2)).setCell (p := ⟨Z, 3, none⟩) rfl (.int .i64 b3)).setCell (p := ⟨Z, 4, none⟩) rfl (.int .i64 b4)).setCell (p := ⟨Z, 5, none⟩) rfl (.int .i64 b5)).setCell (p := ⟨Z, 6, none⟩) rfl (.int .i64 b6)).setCell (p := ⟨Z, 7, none⟩) rfl (.int .i64 b7)).setCell (p := ⟨Z, 8, none⟩) rfl (.int .i64 b8)).setCell (p := ⟨Z, 9, none⟩) rfl (.slice q9 n9 d9)).setCell (p := ⟨Z, 10, none⟩) rfl (.int .i64 b10)).setCell (p := ⟨Z, 11, none⟩) rfl (.int .i64 b11)).setCell (p := ⟨Z, 12, none⟩) rfl (.int .i64 b12)).setCell (p := ⟨Z, 13, none⟩) rfl (.int .i64 b13)))
  obtain ⟨dst, op, ty, pos, aft, gd⟩ := o
  simp only [] at hgd hds ho
  subst hgd hds ho
  clear h hK
  unfold Oper.wp
  simp only [execOp, hx, hy]
  go_simp
  exact key
set_option maxRecDepth 8000 in
set_option maxHeartbeats 4000000 in
theorem putCerPair_0 {w : World} {ops : Array Oper} {rest : List Oper} {o : Oper} {a : Act} {Q : Exit → Act → World → Prop} (hgd : o.guard = none) (hds : o.dst = none) (x y : Operand) (ho : o.op = .store 62 x y)
    (Z : Nat) (y0 : Value) (y1 : Value) (y2 : Value) (y3 : Value) (y4 : Value) (y5 : Value) (y6 : Value) (y7 : Value) (y8 : Value) (y9 : Value) (y10 : Value) (y11 : Value) (y12 : Value) (y13 : Value) (hB : Rec Z [y0, y1, y2, y3, y4, y5, y6, y7, y8, y9, y10, y11, y12, y13] w) (hx : a.eval x = .pointer (some ⟨Z, 0, none⟩)) (b0 : Int) (b1 : Int) (q2 : Option Addr) (n2 d2 : Nat) (b3 : Int) (b4 : Int) (b5 : Int) (b6 : Int) (hy : a.eval y = .agg #[.int .i64 b0, .int .i64 b1, .slice q2 n2 d2, .int .i64 b3, .int .i64 b4, .int .i64 b5, .int .i64 b6])
    (h : ∀ w' : World, Hid (Rec Z [.int .i64 b0, .int .i64 b1, .slice q2 n2 d2, .int .i64 b3, .int .i64 b4, .int .i64 b5, .int .i64 b6, y7, y8, y9, y10, y11, y12, y13] w') → Hid (Turn Z w w') → wpList Try.prog ops Q rest a w') :
    wpList Try.prog ops Q (o :: rest) a w := by
  refine wpList_plain hgd fun K hK => ?_
  have z0 := hB.cell 0 _ rfl
  have s0 := hB.soft 0
  have z1 := hB.cell 1 _ rfl
  have s1 := hB.soft 1
  have z2 := hB.cell 2 _ rfl
  have s2 := hB.soft 2
  have z3 := hB.cell 3 _ rfl
  have s3 := hB.soft 3
  have z4 := hB.cell 4 _ rfl
  have s4 := hB.soft 4
  have z5 := hB.cell 5 _ rfl
  have s5 := hB.soft 5
  have z6 := hB.cell 6 _ rfl
  have s6 := hB.soft 6
  have key := hK _ _ (h _ (((((((hB.set 0 (.int .i64 b0) (by simp) (show _ = ([.int .i64 b0, y1, y2, y3, y4, y5, y6, y7, y8, y9, y10, y11, y12, y13] : List Value) from rfl)).set 1 (.int .i64 b1) (by simp) (show _ = ([.int .i64 b0, .int .i64 b1, y2, y3, y4, y5, y6, y7, y8, y9, y10, y11, y12, y13] : List Value) from rfl)).set 2 (.slice q2 n2 d2) (by simp) (show _ = ([.int .i64 b0, .int .i64 b1, .slice q2 n2 d2, y3, y4, y5, y6, y7, y8, y9, y10, y11, y12, y13] : List Value) from rfl)).set 3 (.int .i64 b3) (by simp) (show _ = ([.int .i64 b0, .int .i64 b1, .slice q2 n2 d2, .int .i64 b3, y4, y5, y6, y7, y8, y9, y10, y11, y12, y13] : List Value) from rfl)).set 4 (.int .i64 b4) (by simp) (show _ = ([.int .i64 b0, .int .i64 b1, .slice q2 n2 d2, .int .i64 b3, .int .i64 b4, y5, y6, y7, y8, y9, y10, y11, y12, y13] : List Value) from rfl)).set 5 (.int .i64 b5) (by simp) (show _ = ([.int .i64 b0, .int .i64 b1, .slice q2 n2 d2, .int .i64 b3, .int .i64 b4, .int .i64 b5, y6, y7, y8, y9, y10, y11, y12, y13] : List Value) from rfl)).set 6 (.int .i64 b6) (by simp) (show _ = ([.int .i64 b0, .int .i64 b1, .slice q2 n2 d2, .int .i64 b3, .int .i64 b4, .int .i64 b5, .int .i64 b6, y7, y8, y9, y10, y11, y12, y13] : List Value) from rfl)) ((((((((Turn.refl Z w).setCell (p := ⟨Z, 0, none⟩) rfl (.int .i64 b0)).setCell (p := ⟨Z, 1, none⟩) rfl (.int .i64 b1)).setCell (p := ⟨Z, 2, none⟩) rfl (.slice q2 n2 d2)).setCell (p := ⟨Z, 3, none⟩) rfl (.int .i64 b3)).setCell (p := ⟨Z, 4, none⟩) rfl (.int .i64 b4)).setCell (p := ⟨Z, 5, none⟩) rfl (.int .i64 b5)).setCell (p := ⟨Z, 6, none⟩) rfl (.int .i64 b6)))
  obtain ⟨dst, op, ty, pos, aft, gd⟩ := o
  simp only [] at hgd hds ho
  subst hgd hds ho
  clear h hK
  unfold Oper.wp
  simp only [execOp, hx, hy]
  go_simp
  exact key
set_option maxRecDepth 8000 in
set_option maxHeartbeats 4000000 in
theorem putCerPair_7 {w : World} {ops : Array Oper} {rest : List Oper} {o : Oper} {a : Act} {Q : Exit → Act → World → Prop} (hgd : o.guard = none) (hds : o.dst = none) (x y : Operand) (ho : o.op = .store 62 x y)
    (Z : Nat) (y0 : Value) (y1 : Value) (y2 : Value) (y3 : Value) (y4 : Value) (y5 : Value) (y6 : Value) (y7 : Value) (y8 : Value) (y9 : Value) (y10 : Value) (y11 : Value) (y12 : Value) (y13 : Value) (hB : Rec Z [y0, y1, y2, y3, y4, y5, y6, y7, y8, y9, y10, y11, y12, y13] w) (hx : a.eval x = .pointer (some ⟨Z, 7, none⟩)) (b7 : Int) (b8 : Int) (q9 : Option Addr) (n9 d9 : Nat) (b10 : Int) (b11 : Int) (b12 : Int) (b13 : Int) (hy : a.eval y = .agg #[.int .i64 b7, .int .i64 b8, .slice q9 n9 d9, .int .i64 b10, .int .i64 b11, .int .i64 b12, .int .i64 b13])
    (h : ∀ w' : World, Hid (Rec Z [y0, y1, y2, y3, y4, y5, y6, .int .i64 b7, .int .i64 b8, .slice q9 n9 d9, .int .i64 b10, .int .i64 b11, .int .i64 b12, .int .i64 b13] w') → Hid (Turn Z w w') → wpList Try.prog ops Q rest a w') :
    wpList Try.prog ops Q (o :: rest) a w := by
  refine wpList_plain hgd fun K hK => ?_
  have z7 := hB.cell 7 _ rfl
  have s7 := hB.soft 7
  have z8 := hB.cell 8 _ rfl
  have s8 := hB.soft 8
  have z9 := hB.cell 9 _ rfl
  have s9 := hB.soft 9
  have z10 := hB.cell 10 _ rfl
  have s10 := hB.soft 10
  have z11 := hB.cell 11 _ rfl
  have s11 := hB.soft 11
  have z12 := hB.cell 12 _ rfl
  have s12 := hB.soft 12
  have z13 := hB.cell 13 _ rfl
  have s13 := hB.soft 13
  have key := hK _ _ (h _ (((((((hB.set 7 (.int .i64 b7) (by simp) (show _ = ([y0, y1, y2, y3, y4, y5, y6, .int .i64 b7, y8, y9, y10, y11, y12, y13] : List Value) from rfl)).set 8 (.int .i64 b8) (by simp) (show _ = ([y0, y1, y2, y3, y4, y5, y6, .int .i64 b7, .int .i64 b8, y9, y10, y11, y12, y13] : List Value) from rfl)).set 9 (.slice q9 n9 d9) (by simp) (show _ = ([y0, y1, y2, y3, y4, y5, y6, .int .i64 b7, .int .i64 b8, .slice q9 n9 d9, y10, y11, y12, y13] : List Value) from rfl)).set 10 (.int .i64 b10) (by simp) (show _ = ([y0, y1, y2, y3, y4, y5, y6, .int .i64 b7, .int .i64 b8, .slice q9 n9 d9, .int .i64 b10, y11, y12, y13] : List Value) from rfl)).set 11 (.int .i64 b11) (by simp) (show _ = ([y0, y1, y2, y3, y4, y5, y6, .int .i64 b7, .int .i64 b8, .slice q9 n9 d9, .int .i64 b10, .int .i64 b11, y12, y13] : List Value) from rfl)).set 12 (.int .i64 b12) (by simp) (show _ = ([y0, y1, y2, y3, y4, y5, y6, .int .i64 b7, .int .i64 b8, .slice q9 n9 d9, .int .i64 b10, .int .i64 b11, .int .i64 b12, y13] : List Value) from rfl)).set 13 (.int .i64 b13) (by simp) (show _ = ([y0, y1, y2, y3, y4, y5, y6, .int .i64 b7, .int .i64 b8, .slice q9 n9 d9, .int .i64 b10, .int .i64 b11, .int .i64 b12, .int .i64 b13] : List Value) from rfl)) ((((((((Turn.refl Z w).setCell (p := ⟨Z, 7, none⟩) rfl (.int .i64 b7)).setCell (p := ⟨Z, 8, none⟩) rfl (.int .i64 b8)).setCell (p := ⟨Z, 9, none⟩) rfl (.slice q9 n9 d9)).setCell (p := ⟨Z, 10, none⟩) rfl (.int .i64 b10)).setCell (p := ⟨Z, 11, none⟩) rfl (.int .i64 b11)).setCell (p := ⟨Z, 12, none⟩) rfl (.int .i64 b12)).setCell (p := ⟨Z, 13, none⟩) rfl (.int .i64 b13)))
  obtain ⟨dst, op, ty, pos, aft, gd⟩ := o
  simp only [] at hgd hds ho
  subst hgd hds ho
  clear h hK
  unfold Oper.wp
  simp only [execOp, hx, hy]
  go_simp
  exact key
set_option maxRecDepth 8000 in
set_option maxHeartbeats 4000000 in
theorem eqCerPair (a0 : Int) (a1 : Int) (x2 : List Opn) (a3 : Int) (a4 : Int) (a5 : Int) (a6 : Int) (a7 : Int) (a8 : Int) (x9 : List Opn) (a10 : Int) (a11 : Int) (a12 : Int) (a13 : Int) (cs cs' : List Value) (w : World) (h : cerR.rd w cs (a0, a1, x2, a3, a4, a5, a6, a7, a8, x9, a10, a11, a12, a13)) (h' : cerR.rd w cs' (a0, a1, x2, a3, a4, a5, a6, a7, a8, x9, a10, a11, a12, a13)) :
    Calls Try.prog 45 #[.agg cs.toArray, .agg cs'.toArray] w fun e w' => e = .returned (.bool true) ∧ Below w.heap.size w w' := by
  obtain ⟨q2, c2, q9, c9, rfl, k2, k9⟩ := cerR_rd h
  obtain ⟨p2, d2, p9, d9, rfl, l2, l9⟩ := cerR_rd h'
  have bV : Below w.heap.size w ((w.alloc (.cells #[.int .i64 a0, .int .i64 a1, .slice q2 x2.length c2, .int .i64 a3, .int .i64 a4, .int .i64 a5, .int .i64 a6, .int .i64 a7, .int .i64 a8, .slice q9 x9.length c9, .int .i64 a10, .int .i64 a11, .int .i64 a12, .int .i64 a13] 67)).alloc (.cells #[.int .i64 a0, .int .i64 a1, .slice p2 x2.length d2, .int .i64 a3, .int .i64 a4, .int .i64 a5, .int .i64 a6, .int .i64 a7, .int .i64 a8, .slice p9 x9.length d9, .int .i64 a10, .int .i64 a11, .int .i64 a12, .int .i64 a13] 67)) := ((Below.refl _ _).alloc (Nat.le_refl _) _).alloc (by simp) _
  have RR := hide ((Rec.new w [.int .i64 a0, .int .i64 a1, .slice q2 x2.length c2, .int .i64 a3, .int .i64 a4, .int .i64 a5, .int .i64 a6, .int .i64 a7, .int .i64 a8, .slice q9 x9.length c9, .int .i64 a10, .int .i64 a11, .int .i64 a12, .int .i64 a13] 67).alloc (.cells #[.int .i64 a0, .int .i64 a1, .slice p2 x2.length d2, .int .i64 a3, .int .i64 a4, .int .i64 a5, .int .i64 a6, .int .i64 a7, .int .i64 a8, .slice p9 x9.length d9, .int .i64 a10, .int .i64 a11, .int .i64 a12, .int .i64 a13] 67))
  have RS := Rec.new (w.alloc (.cells #[.int .i64 a0, .int .i64 a1, .slice q2 x2.length c2, .int .i64 a3, .int .i64 a4, .int .i64 a5, .int .i64 a6, .int .i64 a7, .int .i64 a8, .slice q9 x9.length c9, .int .i64 a10, .int .i64 a11, .int .i64 a12, .int .i64 a13] 67)) [.int .i64 a0, .int .i64 a1, .slice p2 x2.length d2, .int .i64 a3, .int .i64 a4, .int .i64 a5, .int .i64 a6, .int .i64 a7, .int .i64 a8, .slice p9 x9.length d9, .int .i64 a10, .int .i64 a11, .int .i64 a12, .int .i64 a13] 67
  rw [show (w.alloc (.cells #[.int .i64 a0, .int .i64 a1, .slice q2 x2.length c2, .int .i64 a3, .int .i64 a4, .int .i64 a5, .int .i64 a6, .int .i64 a7, .int .i64 a8, .slice q9 x9.length c9, .int .i64 a10, .int .i64 a11, .int .i64 a12, .int .i64 a13] 67)).heap.size = w.heap.size + 1 by simp] at RS
  replace RS := hide RS
  have H2 := hide (opsK.rb k2 bV)
  have J2 := hide (opsK.rb l2 bV)
  have H9 := hide (opsK.rb k9 bV)
  have J9 := hide (opsK.rb l9 bV)
  have BW := hide bV
  clear bV h h' k2 l2 k9 l9
  go_enter Try.func45, Try.ntmps45
  go_wp2_with fail
  refine (eqBlk a0 a1 x2 a3 a4 a5 a6 _ _ _ (blk_mk H2.out) (blk_mk J2.out)).mono ?_
  rintro e u2 ⟨rfl, hb⟩
  replace RR := hide (RR.out.below hb)
  replace RS := hide (RS.out.below hb)
  replace BW := hide (BW.out.trans (hb.mono BW.out.size))
  replace H9 := hide (opsK.rb H9.out hb)
  replace J9 := hide (opsK.rb J9.out hb)
  clear hb
  have z7 := RR.out.cell 7 _ rfl
  have y7 := RS.out.cell 7 _ rfl
  have z8 := RR.out.cell 8 _ rfl
  have y8 := RS.out.cell 8 _ rfl
  have z9 := RR.out.cell 9 _ rfl
  have y9 := RS.out.cell 9 _ rfl
  have z10 := RR.out.cell 10 _ rfl
  have y10 := RS.out.cell 10 _ rfl
  have z11 := RR.out.cell 11 _ rfl
  have y11 := RS.out.cell 11 _ rfl
  have z12 := RR.out.cell 12 _ rfl
  have y12 := RS.out.cell 12 _ rfl
  have z13 := RR.out.cell 13 _ rfl
  have y13 := RS.out.cell 13 _ rfl
  go_wp2_with fail
  refine (eqBlk a7 a8 x9 a10 a11 a12 a13 _ _ _ (blk_mk H9.out) (blk_mk J9.out)).mono ?_
  rintro e u9 ⟨rfl, hb⟩
  replace RR := hide (RR.out.below hb)
  replace RS := hide (RS.out.below hb)
  replace BW := hide (BW.out.trans (hb.mono BW.out.size))
  clear hb z7 y7 z8 y8 z9 y9 z10 y10 z11 y11 z12 y12 z13 y13
  go_wp2
  go_ret
  exact ⟨rfl, BW.out⟩
end Go.Proofs.Ytlgpnogeoaoidaa.Dt
