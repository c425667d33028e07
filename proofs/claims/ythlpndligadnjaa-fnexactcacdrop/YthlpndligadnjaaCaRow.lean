/-
  What is kept, pairs: a ring's put.
-/
import Derived.Test.YthlpndligadnjaaCaB
namespace Go.Proofs.Ythlpndligadnjaa.Dt
set_option linter.unusedVariables false
set_option linter.unusedSimpArgs false
open Go.ChangeShapes Go.WideShapes Go.ChangeAt Go.RowKit IntS Pol Push Flat Irk
open Ir (Opn Bk bv ORow WORow RBk WBk OpAt SoftAt)
set_option maxRecDepth 8000 in
set_option maxHeartbeats 4000000 in
theorem rowInCacEntry {w : World} {o : Oper} {a : Act} {K : Act → World → Prop} {Q : Exit → Act → World → Prop} (x y : Operand) (ho : o.op = .store 41 x y) (G p : Nat) (y0 : Value) (y1 : Value) (y2 : Value) (y3 : Value) (y4 : Value) (y5 : Value) (y6 : Value) (y7 : Value) (hB : CellsAt w G p [y0, y1, y2, y3, y4, y5, y6, y7]) (hs : ∀ i, w.frozen? ⟨G, i, none⟩ = false) (hx : a.eval x = .pointer (some ⟨G, p, none⟩)) (q0 : Option Addr) (n0 d0 : Nat) (b1 : Int) (b2 : Int) (q3 : Option Addr) (n3 d3 : Nat) (b4 : Int) (b5 : Int) (b6 : Int) (b7 : Int) (hy : a.eval y = .agg #[.slice q0 n0 d0, .int .i64 b1, .int .i64 b2, .slice q3 n3 d3, .int .i64 b4, .int .i64 b5, .int .i64 b6, .int .i64 b7])
    (h : K (a.put o.dst undef) (setN w G p [.slice q0 n0 d0, .int .i64 b1, .int .i64 b2, .slice q3 n3 d3, .int .i64 b4, .int .i64 b5, .int .i64 b6, .int .i64 b7])) : Oper.wpIn Fence.wide 0 Try.prog o a w K Q := by
  have z0 : w.cell? ⟨G, p, none⟩ = some y0 := hB 0 _ rfl
  have s0 := hs p
  have z1 := hB 1 _ rfl
  have s1 := hs (p + 1)
  have z2 := hB 2 _ rfl
  have s2 := hs (p + 2)
  have z3 := hB 3 _ rfl
  have s3 := hs (p + 3)
  have z4 := hB 4 _ rfl
  have s4 := hs (p + 4)
  have z5 := hB 5 _ rfl
  have s5 := hs (p + 5)
  have z6 := hB 6 _ rfl
  have s6 := hs (p + 6)
  have z7 := hB 7 _ rfl
  have s7 := hs (p + 7)
  obtain ⟨dst, op, ty, pos, aft, gd⟩ := o
  simp only [] at ho h
  subst ho
  simp only [setN, Nat.add_assoc, Nat.reduceAdd] at h
  unfold Oper.wpIn
  refine ⟨fun _ _ => trivial, ?_⟩
  rw [show Fence.wide.round = none from rfl, Oper.semAt_none]
  simp only [execOp, hx, hy]
  go_simp
  exact h
set_option maxRecDepth 8000 in
set_option maxHeartbeats 4000000 in
theorem rowInCerPair {w : World} {o : Oper} {a : Act} {K : Act → World → Prop} {Q : Exit → Act → World → Prop} (x y : Operand) (ho : o.op = .store 66 x y) (G p : Nat) (y0 : Value) (y1 : Value) (y2 : Value) (y3 : Value) (y4 : Value) (y5 : Value) (y6 : Value) (y7 : Value) (y8 : Value) (y9 : Value) (y10 : Value) (y11 : Value) (y12 : Value) (y13 : Value) (hB : CellsAt w G p [y0, y1, y2, y3, y4, y5, y6, y7, y8, y9, y10, y11, y12, y13]) (hs : ∀ i, w.frozen? ⟨G, i, none⟩ = false) (hx : a.eval x = .pointer (some ⟨G, p, none⟩)) (b0 : Int) (b1 : Int) (q2 : Option Addr) (n2 d2 : Nat) (b3 : Int) (b4 : Int) (b5 : Int) (b6 : Int) (b7 : Int) (b8 : Int) (q9 : Option Addr) (n9 d9 : Nat) (b10 : Int) (b11 : Int) (b12 : Int) (b13 : Int) (hy : a.eval y = .agg #[.int .i64 b0, .int .i64 b1, .slice q2 n2 d2, .int .i64 b3, .int .i64 b4, .int .i64 b5, .int .i64 b6, .int .i64 b7, .int .i64 b8, .slice q9 n9 d9, .int .i64 b10, .int .i64 b11, .int .i64 b12, .int .i64 b13])
    (h : K (a.put o.dst undef) (setN w G p [.int .i64 b0, .int .i64 b1, .slice q2 n2 d2, .int .i64 b3, .int .i64 b4, .int .i64 b5, .int .i64 b6, .int .i64 b7, .int .i64 b8, .slice q9 n9 d9, .int .i64 b10, .int .i64 b11, .int .i64 b12, .int .i64 b13])) : Oper.wpIn Fence.wide 0 Try.prog o a w K Q := by
  have z0 : w.cell? ⟨G, p, none⟩ = some y0 := hB 0 _ rfl
  have s0 := hs p
  have z1 := hB 1 _ rfl
  have s1 := hs (p + 1)
  have z2 := hB 2 _ rfl
  have s2 := hs (p + 2)
  have z3 := hB 3 _ rfl
  have s3 := hs (p + 3)
  have z4 := hB 4 _ rfl
  have s4 := hs (p + 4)
  have z5 := hB 5 _ rfl
  have s5 := hs (p + 5)
  have z6 := hB 6 _ rfl
  have s6 := hs (p + 6)
  have z7 := hB 7 _ rfl
  have s7 := hs (p + 7)
  have z8 := hB 8 _ rfl
  have s8 := hs (p + 8)
  have z9 := hB 9 _ rfl
  have s9 := hs (p + 9)
  have z10 := hB 10 _ rfl
  have s10 := hs (p + 10)
  have z11 := hB 11 _ rfl
  have s11 := hs (p + 11)
  have z12 := hB 12 _ rfl
  have s12 := hs (p + 12)
  have z13 := hB 13 _ rfl
  have s13 := hs (p + 13)
  obtain ⟨dst, op, ty, pos, aft, gd⟩ := o
  simp only [] at ho h
  subst ho
  simp only [setN, Nat.add_assoc, Nat.reduceAdd] at h
  unfold Oper.wpIn
  refine ⟨fun _ _ => trivial, ?_⟩
  rw [show Fence.wide.round = none from rfl, Oper.semAt_none]
  simp only [execOp, hx, hy]
  go_simp
  exact h
end Go.Proofs.Ythlpndligadnjaa.Dt
