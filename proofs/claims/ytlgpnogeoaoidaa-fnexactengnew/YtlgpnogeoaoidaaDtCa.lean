/-
  The laws' own functions over one thing that is kept.
-/
import Derived.Test.YtlgpnogeoaoidaaDtC
namespace Go.Proofs.Ytlgpnogeoaoidaa.Dt
set_option linter.unusedVariables false
set_option linter.unusedSimpArgs false
open Go.ChangeShapes Go.WideShapes Go.ChangeAt Go.RowKit IntS Pol Flat Irk
open Ir (Opn Bk bv ORow WORow RBk WBk OpAt SoftAt)
theorem cacR_sz {x0 : List Int} {a1 : Int} {a2 : Int} {x3 : List Opn} {a4 : Int} {a5 : Int} {a6 : Int} {a7 : Int} : cacR.sz (x0, a1, a2, x3, a4, a5, a6, a7) = intsK.sz x0 + (opsK.sz x3 + (0)) := rfl
set_option maxRecDepth 8000 in
set_option maxHeartbeats 4000000 in
theorem layCacEntry {w : World} {ops : Array Oper} {rest : List Oper} {o : Oper} {a : Act} {Q : Exit → Act → World → Prop} (hgd : o.guard = none) (hds : o.dst = none) (x y : Operand) (ho : o.op = .store 64 x y)
    (Z : Nat) (y0 : Value) (y1 : Value) (y2 : Value) (y3 : Value) (y4 : Value) (y5 : Value) (y6 : Value) (y7 : Value) (hB : Rec Z [y0, y1, y2, y3, y4, y5, y6, y7] w) (hx : a.eval x = .pointer (some ⟨Z, 0, none⟩)) (q0 : Option Addr) (n0 d0 : Nat) (b1 : Int) (b2 : Int) (q3 : Option Addr) (n3 d3 : Nat) (b4 : Int) (b5 : Int) (b6 : Int) (b7 : Int) (hy : a.eval y = .agg #[.slice q0 n0 d0, .int .i64 b1, .int .i64 b2, .slice q3 n3 d3, .int .i64 b4, .int .i64 b5, .int .i64 b6, .int .i64 b7])
    (h : ∀ w' : World, Hid (Rec Z [.slice q0 n0 d0, .int .i64 b1, .int .i64 b2, .slice q3 n3 d3, .int .i64 b4, .int .i64 b5, .int .i64 b6, .int .i64 b7] w') → Hid (Turn Z w w') → wpList Try.prog ops Q rest a w') :
    wpList Try.prog ops Q (o :: rest) a w := by
  refine wpList_plain hgd fun K hK => ?_
  have z0 := hB.cell 0 _ rfl
  have s0 := hB.soft 0
  have z1 := hB.cell 1 _ rfl
  have s1 := hB.soft 1
  have z2 := hB.cell 2 _ rfl
  have s2 := hB.soft 2
  have z3 := hB.cell 3 _ rfl
  have s3 := hB.soft 3
  have z4 := hB.cell 4 _ rfl
  have s4 := hB.soft 4
  have z5 := hB.cell 5 _ rfl
  have s5 := hB.soft 5
  have z6 := hB.cell 6 _ rfl
  have s6 := hB.soft 6
  have z7 := hB.cell 7 _ rfl
  have s7 := hB.soft 7
  have key := hK _ _ (h _ ((((((((hB.set 0 (.slice q0 n0 d0) (by simp) (show _ = ([.slice q0 n0 d0, y1, y2, y3, y4, y5, y6, y7] : List Value) from rfl)).set 1 (.int .i64 b1) (by simp) (show _ = ([.slice q0 n0 d0, .int .i64 b1, y2, y3, y4, y5, y6, y7] : List Value) from rfl)).set 2 (.int .i64 b2) (by simp) (show _ = ([.slice q0 n0 d0, .int .i64 b1, .int .i64 b2, y3, y4, y5, y6, y7] : List Value) from rfl)).set 3 (.slice q3 n3 d3) (by simp) (show _ = ([.slice q0 n0 d0, .int .i64 b1, .int .i64 b2, .slice q3 n3 d3, y4, y5, y6, y7] : List Value) from rfl)).set 4 (.int .i64 b4) (by simp) (show _ = ([.slice q0 n0 d0, .int .i64 b1, .int .i64 b2, .slice q3 n3 d3, .int .i64 b4, y5, y6, y7] : List Value) from rfl)).set 5 (.int .i64 b5) (by simp) (show _ = ([.slice q0 n0 d0, .int .i64 b1, .int .i64 b2, .slice q3 n3 d3, .int .i64 b4, .int .i64 b5, y6, y7] : List Value) from rfl)).set 6 (.int .i64 b6) (by simp) (show _ = ([.slice q0 n0 d0, .int .i64 b1, .int .i64 b2, .slice q3 n3 d3, .int .i64 b4, .int .i64 b5, .int .i64 b6, y7] : List Value) from rfl)).set 7 (.int .i64 b7) (by simp) (show _ = ([.slice q0 n0 d0, .int .i64 b1, .int .i64 b2, .slice q3 n3 d3, .int .i64 b4, .int .i64 b5, .int .i64 b6, .int .i64 b7] : List Value) from rfl)) (((((((((Turn.refl Z w).setCell (p := ⟨Z, 0, none⟩) rfl (.slice q0 n0 d0)).setCell (p := ⟨Z, 1, none⟩) rfl (.int .i64 b1)).setCell (p := ⟨Z, 2, none⟩) rfl (.int .i64 b2)).setCell (p := ⟨Z, 3, none⟩) rfl (.slice q3 n3 d3)).setCell (p := ⟨Z, 4, none⟩) rfl (.int .i64 b4)).setCell (p := ⟨Z, 5, none⟩) rfl (.int .i64 b5)).setCell (p := ⟨Z, 6, none⟩) rfl (.int .i64 b6)).setCell (p := ⟨Z, 7, none⟩) rfl (.int .i64 b7)))
  obtain ⟨dst, op, ty, pos, aft, gd⟩ := o
  simp only [] at hgd hds ho
  subst hgd hds ho
  clear h hK
  unfold Oper.wp
  simp only [execOp, hx, hy]
  go_simp
  exact key
set_option maxRecDepth 8000 in
set_option maxHeartbeats 4000000 in
theorem putCacEntry_0 {w : World} {ops : Array Oper} {rest : List Oper} {o : Oper} {a : Act} {Q : Exit → Act → World → Prop} (hgd : o.guard = none) (hds : o.dst = none) (x y : Operand) (ho : o.op = .store 22 x y)
    (Z : Nat) (y0 : Value) (y1 : Value) (y2 : Value) (y3 : Value) (y4 : Value) (y5 : Value) (y6 : Value) (y7 : Value) (hB : Rec Z [y0, y1, y2, y3, y4, y5, y6, y7] w) (hx : a.eval x = .pointer (some ⟨Z, 0, none⟩)) (q0 : Option Addr) (n0 d0 : Nat) (hy : a.eval y = .slice q0 n0 d0)
    (h : ∀ w' : World, Hid (Rec Z [.slice q0 n0 d0, y1, y2, y3, y4, y5, y6, y7] w') → Hid (Turn Z w w') → wpList Try.prog ops Q rest a w') :
    wpList Try.prog ops Q (o :: rest) a w := by
  refine wpList_plain hgd fun K hK => ?_
  have z0 := hB.cell 0 _ rfl
  have s0 := hB.soft 0
  have key := hK _ _ (h _ (hB.set 0 (.slice q0 n0 d0) (by simp) (show _ = ([.slice q0 n0 d0, y1, y2, y3, y4, y5, y6, y7] : List Value) from rfl)) ((Turn.refl Z w).setCell (p := ⟨Z, 0, none⟩) rfl (.slice q0 n0 d0)))
  obtain ⟨dst, op, ty, pos, aft, gd⟩ := o
  simp only [] at hgd hds ho
  subst hgd hds ho
  clear h hK
  unfold Oper.wp
  simp only [execOp, hx, hy]
  go_simp
  exact key
set_option maxRecDepth 8000 in
set_option maxHeartbeats 4000000 in
theorem putCacEntry_1 {w : World} {ops : Array Oper} {rest : List Oper} {o : Oper} {a : Act} {Q : Exit → Act → World → Prop} (hgd : o.guard = none) (hds : o.dst = none) (x y : Operand) (ho : o.op = .store 62 x y)
    (Z : Nat) (y0 : Value) (y1 : Value) (y2 : Value) (y3 : Value) (y4 : Value) (y5 : Value) (y6 : Value) (y7 : Value) (hB : Rec Z [y0, y1, y2, y3, y4, y5, y6, y7] w) (hx : a.eval x = .pointer (some ⟨Z, 1, none⟩)) (b1 : Int) (b2 : Int) (q3 : Option Addr) (n3 d3 : Nat) (b4 : Int) (b5 : Int) (b6 : Int) (b7 : Int) (hy : a.eval y = .agg #[.int .i64 b1, .int .i64 b2, .slice q3 n3 d3, .int .i64 b4, .int .i64 b5, .int .i64 b6, .int .i64 b7])
    (h : ∀ w' : World, Hid (Rec Z [y0, .int .i64 b1, .int .i64 b2, .slice q3 n3 d3, .int .i64 b4, .int .i64 b5, .int .i64 b6, .int .i64 b7] w') → Hid (Turn Z w w') → wpList Try.prog ops Q rest a w') :
    wpList Try.prog ops Q (o :: rest) a w := by
  refine wpList_plain hgd fun K hK => ?_
  have z1 := hB.cell 1 _ rfl
  have s1 := hB.soft 1
  have z2 := hB.cell 2 _ rfl
  have s2 := hB.soft 2
  have z3 := hB.cell 3 _ rfl
  have s3 := hB.soft 3
  have z4 := hB.cell 4 _ rfl
  have s4 := hB.soft 4
  have z5 := hB.cell 5 _ rfl
  have s5 := hB.soft 5
  have z6 := hB.cell 6 _ rfl
  have s6 := hB.soft 6
  have z7 := hB.cell 7 _ rfl
  have s7 := hB.soft 7
  have key := hK _ _ (h _ (((((((hB.set 1 (.int .i64 b1) (by simp) (show _ = ([y0, .int .i64 b1, y2, y3, y4, y5, y6, y7] : List Value) from rfl)).set 2 (.int .i64 b2) (by simp) (show _ = ([y0, .int .i64 b1, .int .i64 b2, y3, y4, y5, y6, y7] : List Value) from rfl)).set 3 (.slice q3 n3 d3) (by simp) (show _ = ([y0, .int .i64 b1, .int .i64 b2, .slice q3 n3 d3, y4, y5, y6, y7] : List Value) from rfl)).set 4 (.int .i64 b4) (by simp) (show _ = ([y0, .int .i64 b1, .int .i64 b2, .slice q3 n3 d3, .int .i64 b4, y5, y6, y7] : List Value) from rfl)).set 5 (.int .i64 b5) (by simp) (show _ = ([y0, .int .i64 b1, .int .i64 b2, .slice q3 n3 d3, .int .i64 b4, .int .i64 b5, y6, y7] : List Value) from rfl)).set 6 (.int .i64 b6) (by simp) (show _ = ([y0, .int .i64 b1, .int .i64 b2, .slice q3 n3 d3, .int .i64 b4, .int .i64 b5, .int .i64 b6, y7] : List Value) from rfl)).set 7 (.int .i64 b7) (by simp) (show _ = ([y0, .int .i64 b1, .int .i64 b2, .slice q3 n3 d3, .int .i64 b4, .int .i64 b5, .int .i64 b6, .int .i64 b7] : List Value) from rfl)) ((((((((Turn.refl Z w).setCell (p := ⟨Z, 1, none⟩) rfl (.int .i64 b1)).setCell (p := ⟨Z, 2, none⟩) rfl (.int .i64 b2)).setCell (p := ⟨Z, 3, none⟩) rfl (.slice q3 n3 d3)).setCell (p := ⟨Z, 4, none⟩) rfl (.int .i64 b4)).setCell (p := ⟨Z, 5, none⟩) rfl (.int .i64 b5)).setCell (p := ⟨Z, 6, none⟩) rfl (.int .i64 b6)).setCell (p := ⟨Z, 7, none⟩) rfl (.int .i64 b7)))
  obtain ⟨dst, op, ty, pos, aft, gd⟩ := o
  simp only [] at hgd hds ho
  subst hgd hds ho
  clear h hK
  unfold Oper.wp
  simp only [execOp, hx, hy]
  go_simp
  exact key
set_option maxRecDepth 8000 in
set_option maxHeartbeats 4000000 in
theorem eqCacEntry (x0 : List Int) (a1 : Int) (a2 : Int) (x3 : List Opn) (a4 : Int) (a5 : Int) (a6 : Int) (a7 : Int) (cs cs' : List Value) (w : World) (h : cacR.rd w cs (x0, a1, a2, x3, a4, a5, a6, a7)) (h' : cacR.rd w cs' (x0, a1, a2, x3, a4, a5, a6, a7)) :
    Calls Try.prog 44 #[.agg cs.toArray, .agg cs'.toArray] w fun e w' => e = .returned (.bool true) ∧ Below w.heap.size w w' := by
  obtain ⟨q0, c0, q3, c3, rfl, k0, k3⟩ := cacR_rd h
  obtain ⟨p0, d0, p3, d3, rfl, l0, l3⟩ := cacR_rd h'
  have bV : Below w.heap.size w ((w.alloc (.cells #[.slice q0 x0.length c0, .int .i64 a1, .int .i64 a2, .slice q3 x3.length c3, .int .i64 a4, .int .i64 a5, .int .i64 a6, .int .i64 a7] 64)).alloc (.cells #[.slice p0 x0.length d0, .int .i64 a1, .int .i64 a2, .slice p3 x3.length d3, .int .i64 a4, .int .i64 a5, .int .i64 a6, .int .i64 a7] 64)) := ((Below.refl _ _).alloc (Nat.le_refl _) _).alloc (by simp) _
  have RR := hide ((Rec.new w [.slice q0 x0.length c0, .int .i64 a1, .int .i64 a2, .slice q3 x3.length c3, .int .i64 a4, .int .i64 a5, .int .i64 a6, .int .i64 a7] 64).alloc (.cells #[.slice p0 x0.length d0, .int .i64 a1, .int .i64 a2, .slice p3 x3.length d3, .int .i64 a4, .int .i64 a5, .int .i64 a6, .int .i64 a7] 64))
  have RS := Rec.new (w.alloc (.cells #[.slice q0 x0.length c0, .int .i64 a1, .int .i64 a2, .slice q3 x3.length c3, .int .i64 a4, .int .i64 a5, .int .i64 a6, .int .i64 a7] 64)) [.slice p0 x0.length d0, .int .i64 a1, .int .i64 a2, .slice p3 x3.length d3, .int .i64 a4, .int .i64 a5, .int .i64 a6, .int .i64 a7] 64
  rw [show (w.alloc (.cells #[.slice q0 x0.length c0, .int .i64 a1, .int .i64 a2, .slice q3 x3.length c3, .int .i64 a4, .int .i64 a5, .int .i64 a6, .int .i64 a7] 64)).heap.size = w.heap.size + 1 by simp] at RS
  replace RS := hide RS
  have H0 := hide (intsK.rb k0 bV)
  have J0 := hide (intsK.rb l0 bV)
  have H3 := hide (opsK.rb k3 bV)
  have J3 := hide (opsK.rb l3 bV)
  have BW := hide bV
  clear bV h h' k0 l0 k3 l3
  go_enter Try.func44, Try.ntmps44
  go_wp2_with fail
  refine (Dt.eqIntS x0 _ _ _ H0.out J0.out).mono ?_
  rintro e u0 ⟨rfl, hb⟩
  replace RR := hide (RR.out.below hb)
  replace RS := hide (RS.out.below hb)
  replace BW := hide (BW.out.trans (hb.mono BW.out.size))
  replace H3 := hide (opsK.rb H3.out hb)
  replace J3 := hide (opsK.rb J3.out hb)
  clear hb
  have z1 := RR.out.cell 1 _ rfl
  have y1 := RS.out.cell 1 _ rfl
  have z2 := RR.out.cell 2 _ rfl
  have y2 := RS.out.cell 2 _ rfl
  have z3 := RR.out.cell 3 _ rfl
  have y3 := RS.out.cell 3 _ rfl
  have z4 := RR.out.cell 4 _ rfl
  have y4 := RS.out.cell 4 _ rfl
  have z5 := RR.out.cell 5 _ rfl
  have y5 := RS.out.cell 5 _ rfl
  have z6 := RR.out.cell 6 _ rfl
  have y6 := RS.out.cell 6 _ rfl
  have z7 := RR.out.cell 7 _ rfl
  have y7 := RS.out.cell 7 _ rfl
  go_wp2_with fail
  refine (eqBlk a1 a2 x3 a4 a5 a6 a7 _ _ _ (blk_mk H3.out) (blk_mk J3.out)).mono ?_
  rintro e u3 ⟨rfl, hb⟩
  replace RR := hide (RR.out.below hb)
  replace RS := hide (RS.out.below hb)
  replace BW := hide (BW.out.trans (hb.mono BW.out.size))
  clear hb z1 y1 z2 y2 z3 y3 z4 y4 z5 y5 z6 y6 z7 y7
  go_wp2
  go_ret
  exact ⟨rfl, BW.out⟩
end Go.Proofs.Ytlgpnogeoaoidaa.Dt
