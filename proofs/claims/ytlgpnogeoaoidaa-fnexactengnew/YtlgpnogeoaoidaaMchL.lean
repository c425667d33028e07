/-
  A machine stored into a block: the world behind it is told by the block alone.
-/
import Derived.Test.YtlgpnogeoaoidaaMchR
namespace Go.Proofs.Ytlgpnogeoaoidaa.Mch
open Go.ChangeShapes Go.WideShapes Go.ChangeAt Go.RowKit IntS
theorem Turn.ten {w : World} (Z : Nat) (v0 v1 v2 v3 v4 v5 v6 v7 v8 v9 : Value) : Turn Z w ((((((((((w.setCell ⟨Z, 0, none⟩ v0).setCell ⟨Z, 1, none⟩ v1).setCell ⟨Z, 2, none⟩ v2).setCell ⟨Z, 3, none⟩ v3).setCell ⟨Z, 4, none⟩ v4).setCell ⟨Z, 5, none⟩ v5).setCell ⟨Z, 6, none⟩ v6).setCell ⟨Z, 7, none⟩ v7).setCell ⟨Z, 8, none⟩ v8).setCell ⟨Z, 9, none⟩ v9) :=
  ((((((((((Turn.refl Z w).setCell (p := ⟨Z, 0, none⟩) rfl v0).setCell (p := ⟨Z, 1, none⟩) rfl v1).setCell (p := ⟨Z, 2, none⟩) rfl v2).setCell (p := ⟨Z, 3, none⟩) rfl v3).setCell (p := ⟨Z, 4, none⟩) rfl v4).setCell (p := ⟨Z, 5, none⟩) rfl v5).setCell (p := ⟨Z, 6, none⟩) rfl v6).setCell (p := ⟨Z, 7, none⟩) rfl v7).setCell (p := ⟨Z, 8, none⟩) rfl v8).setCell (p := ⟨Z, 9, none⟩) rfl v9
set_option maxRecDepth 8000 in
set_option maxHeartbeats 4000000 in
theorem wpList_lay {w : World} {ops : Array Oper} {rest : List Oper} {o : Oper} {a : Act} {Q : Exit → Act → World → Prop} (hgd : o.guard = none) (hds : o.dst = none) (x y : Operand) (ho : o.op = .store 26 x y)
    (Z : Nat) (x0 x1 x2 x3 x4 x5 x6 x7 x8 x9 : Value) (hB : Box Z 26 [x0, x1, x2, x3, x4, x5, x6, x7, x8, x9] w) (hx : a.eval x = .pointer (some ⟨Z, 0, none⟩))
    (q1 q2 q3 q4 : Option Addr) (n1 n2 n3 n4 j1 j2 j3 j4 : Nat) (pc save halt count : Int) (lets waits : Bool)
    (hy : a.eval y = .agg #[.slice q1 n1 j1, .int .i64 pc, .slice q2 n2 j2, .int .i64 save, .bool lets, .bool waits, .int .i64 halt, .slice q3 n3 j3, .slice q4 n4 j4, .int .i64 count])
    (h : ∀ w' : World, Hid (Box Z 26 [.slice q1 n1 j1, .int .i64 pc, .slice q2 n2 j2, .int .i64 save, .bool lets, .bool waits, .int .i64 halt, .slice q3 n3 j3, .slice q4 n4 j4, .int .i64 count] w') → Hid (Turn Z w w') → wpList Try.prog ops Q rest a w') :
    wpList Try.prog ops Q (o :: rest) a w := by
  refine wpList_plain hgd fun K hK => ?_
  have z0 := hB.r.cell 0 _ rfl
  have z1 := hB.r.cell 1 _ rfl
  have z2 := hB.r.cell 2 _ rfl
  have z3 := hB.r.cell 3 _ rfl
  have z4 := hB.r.cell 4 _ rfl
  have z5 := hB.r.cell 5 _ rfl
  have z6 := hB.r.cell 6 _ rfl
  have z7 := hB.r.cell 7 _ rfl
  have z8 := hB.r.cell 8 _ rfl
  have z9 := hB.r.cell 9 _ rfl
  have y0 := hB.r.soft 0
  have y1 := hB.r.soft 1
  have y2 := hB.r.soft 2
  have y3 := hB.r.soft 3
  have y4 := hB.r.soft 4
  have y5 := hB.r.soft 5
  have y6 := hB.r.soft 6
  have y7 := hB.r.soft 7
  have y8 := hB.r.soft 8
  have y9 := hB.r.soft 9
  have key := hK _ _ (h _ (hB.ten (.slice q1 n1 j1) (.int .i64 pc) (.slice q2 n2 j2) (.int .i64 save) (.bool lets) (.bool waits) (.int .i64 halt) (.slice q3 n3 j3) (.slice q4 n4 j4) (.int .i64 count)) (Turn.ten Z _ _ _ _ _ _ _ _ _ _))
  obtain ⟨dst, op, ty, pos, aft, gd⟩ := o
  simp only [] at hgd hds ho
  subst hgd hds ho
  clear h hK
  unfold Oper.wp
  simp only [execOp, hx, hy]
  go_simp
  exact key
theorem CMach.turn {w w' : World} {lo : Nat} {c : List Value} {m : M} (h : CMach w lo c m) {Z : Nat} {t : TypeId} (hZ : IsT w Z t) (ht : t ≠ 3) (hT : Turn Z w w') : CMach w' lo c m := by
  obtain ⟨b1, b2, b3, b4, o1, o2, o3, k1, k2, k3, k4, hc, h1, h2, h3, h4, hlo, hd, t1, t2, t3, t4⟩ := h
  exact ⟨b1, b2, b3, b4, o1, o2, o3, k1, k2, k3, k4, hc, h1.turn hT (Ne.symm (hZ.ne t1 ht)), h2.turn hT (Ne.symm (hZ.ne t2 ht)), h3.turn hT (Ne.symm (hZ.ne t3 ht)), h4.turn hT (Ne.symm (hZ.ne t4 ht)) t4.lt, hlo, hd, t1.turn hT (Ne.symm (hZ.ne t1 ht)), t2.turn hT (Ne.symm (hZ.ne t2 ht)), t3.turn hT (Ne.symm (hZ.ne t3 ht)), t4.turn hT (Ne.symm (hZ.ne t4 ht))⟩
theorem Box.turn {Z Y : Nat} {t : TypeId} {cs : List Value} {u u' : World} (h : Box Z t cs u) (hT : Turn Y u u') (hY : Z ≠ Y) : Box Z t cs u' := ⟨h.r.turn hT hY, h.t.turn hT hY⟩
end Go.Proofs.Ytlgpnogeoaoidaa.Mch
