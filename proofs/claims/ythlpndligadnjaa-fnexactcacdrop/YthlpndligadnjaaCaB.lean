/-
  What is kept, pairs: copies of one.
-/
import Derived.Test.YthlpndligadnjaaCaA
import Derived.Test.YthlpndligadnjaaDtCa
import Derived.Test.YthlpndligadnjaaDtCc
namespace Go.Proofs.Ythlpndligadnjaa.Dt
set_option linter.unusedVariables false
set_option linter.unusedSimpArgs false
open Go.ChangeShapes Go.WideShapes Go.ChangeAt Go.RowKit IntS Pol Push Flat Irk
open Ir (Opn Bk bv ORow WORow RBk WBk OpAt SoftAt)
theorem infoCacEntry : ∃ i, Try.prog.info? 41 = some i ∧ i.zero = some (.agg #[.slice none 0 0, .int .i64 0, .int .i64 0, .slice none 0 0, .int .i64 0, .int .i64 0, .int .i64 0, .int .i64 0]) ∧ i.size = 8 ∧ i.bytes = 96 := by
  have hinfo : (Try.prog.info? 41).map (fun i => (i.zero, i.size, i.bytes)) = some (some (.agg #[.slice none 0 0, .int .i64 0, .int .i64 0, .slice none 0 0, .int .i64 0, .int .i64 0, .int .i64 0, .int .i64 0]), 8, 96) := by kernel_rfl
  obtain ⟨i, hi, h⟩ := Option.map_eq_some_iff.1 hinfo
  simp only [Prod.mk.injEq] at h
  exact ⟨i, hi, h.1, h.2.1, h.2.2⟩
theorem infoCerPair : ∃ i, Try.prog.info? 66 = some i ∧ i.zero = some (.agg #[.int .i64 0, .int .i64 0, .slice none 0 0, .int .i64 0, .int .i64 0, .int .i64 0, .int .i64 0, .int .i64 0, .int .i64 0, .slice none 0 0, .int .i64 0, .int .i64 0, .int .i64 0, .int .i64 0]) ∧ i.size = 14 ∧ i.bytes = 144 := by
  have hinfo : (Try.prog.info? 66).map (fun i => (i.zero, i.size, i.bytes)) = some (some (.agg #[.int .i64 0, .int .i64 0, .slice none 0 0, .int .i64 0, .int .i64 0, .int .i64 0, .int .i64 0, .int .i64 0, .int .i64 0, .slice none 0 0, .int .i64 0, .int .i64 0, .int .i64 0, .int .i64 0]), 14, 144) := by kernel_rfl
  obtain ⟨i, hi, h⟩ := Option.map_eq_some_iff.1 hinfo
  simp only [Prod.mk.injEq] at h
  exact ⟨i, hi, h.1, h.2.1, h.2.2⟩
set_option maxRecDepth 8000 in
set_option maxHeartbeats 4000000 in
theorem layInCacEntry {w : World} {o : Oper} {a : Act} {K : Act → World → Prop} {Q : Exit → Act → World → Prop} (x y : Operand) (ho : o.op = .store 41 x y) (Z : Nat) (y0 : Value) (y1 : Value) (y2 : Value) (y3 : Value) (y4 : Value) (y5 : Value) (y6 : Value) (y7 : Value) (hB : Rec Z [y0, y1, y2, y3, y4, y5, y6, y7] w) (hx : a.eval x = .pointer (some ⟨Z, 0, none⟩)) (q0 : Option Addr) (n0 d0 : Nat) (b1 : Int) (b2 : Int) (q3 : Option Addr) (n3 d3 : Nat) (b4 : Int) (b5 : Int) (b6 : Int) (b7 : Int) (hy : a.eval y = .agg #[.slice q0 n0 d0, .int .i64 b1, .int .i64 b2, .slice q3 n3 d3, .int .i64 b4, .int .i64 b5, .int .i64 b6, .int .i64 b7])
    (h : ∀ w' : World, Hid (Rec Z [.slice q0 n0 d0, .int .i64 b1, .int .i64 b2, .slice q3 n3 d3, .int .i64 b4, .int .i64 b5, .int .i64 b6, .int .i64 b7] w') → Hid (Turn Z w w') → K (a.put o.dst undef) w') : Oper.wpIn Fence.wide 0 Try.prog o a w K Q := by
  have z0 := hB.cell 0 _ rfl
  have s0 := hB.soft 0
  have z1 := hB.cell 1 _ rfl
  have s1 := hB.soft 1
  have z2 := hB.cell 2 _ rfl
  have s2 := hB.soft 2
  have z3 := hB.cell 3 _ rfl
  have s3 := hB.soft 3
  have z4 := hB.cell 4 _ rfl
  have s4 := hB.soft 4
  have z5 := hB.cell 5 _ rfl
  have s5 := hB.soft 5
  have z6 := hB.cell 6 _ rfl
  have s6 := hB.soft 6
  have z7 := hB.cell 7 _ rfl
  have s7 := hB.soft 7
  have key := h _ ((((((((hB.set 0 (.slice q0 n0 d0) (by simp) (show _ = ([.slice q0 n0 d0, y1, y2, y3, y4, y5, y6, y7] : List Value) from rfl)).set 1 (.int .i64 b1) (by simp) (show _ = ([.slice q0 n0 d0, .int .i64 b1, y2, y3, y4, y5, y6, y7] : List Value) from rfl)).set 2 (.int .i64 b2) (by simp) (show _ = ([.slice q0 n0 d0, .int .i64 b1, .int .i64 b2, y3, y4, y5, y6, y7] : List Value) from rfl)).set 3 (.slice q3 n3 d3) (by simp) (show _ = ([.slice q0 n0 d0, .int .i64 b1, .int .i64 b2, .slice q3 n3 d3, y4, y5, y6, y7] : List Value) from rfl)).set 4 (.int .i64 b4) (by simp) (show _ = ([.slice q0 n0 d0, .int .i64 b1, .int .i64 b2, .slice q3 n3 d3, .int .i64 b4, y5, y6, y7] : List Value) from rfl)).set 5 (.int .i64 b5) (by simp) (show _ = ([.slice q0 n0 d0, .int .i64 b1, .int .i64 b2, .slice q3 n3 d3, .int .i64 b4, .int .i64 b5, y6, y7] : List Value) from rfl)).set 6 (.int .i64 b6) (by simp) (show _ = ([.slice q0 n0 d0, .int .i64 b1, .int .i64 b2, .slice q3 n3 d3, .int .i64 b4, .int .i64 b5, .int .i64 b6, y7] : List Value) from rfl)).set 7 (.int .i64 b7) (by simp) (show _ = ([.slice q0 n0 d0, .int .i64 b1, .int .i64 b2, .slice q3 n3 d3, .int .i64 b4, .int .i64 b5, .int .i64 b6, .int .i64 b7] : List Value) from rfl)) (((((((((Turn.refl Z w).setCell (p := ⟨Z, 0, none⟩) rfl (.slice q0 n0 d0)).setCell (p := ⟨Z, 1, none⟩) rfl (.int .i64 b1)).setCell (p := ⟨Z, 2, none⟩) rfl (.int .i64 b2)).setCell (p := ⟨Z, 3, none⟩) rfl (.slice q3 n3 d3)).setCell (p := ⟨Z, 4, none⟩) rfl (.int .i64 b4)).setCell (p := ⟨Z, 5, none⟩) rfl (.int .i64 b5)).setCell (p := ⟨Z, 6, none⟩) rfl (.int .i64 b6)).setCell (p := ⟨Z, 7, none⟩) rfl (.int .i64 b7))
  obtain ⟨dst, op, ty, pos, aft, gd⟩ := o
  simp only [] at ho key
  subst ho
  clear h
  unfold Oper.wpIn
  refine ⟨fun _ _ => trivial, ?_⟩
  rw [show Fence.wide.round = none from rfl, Oper.semAt_none]
  simp only [execOp, hx, hy]
  go_simp
  exact key
set_option maxRecDepth 8000 in
set_option maxHeartbeats 4000000 in
theorem layInCerPair {w : World} {o : Oper} {a : Act} {K : Act → World → Prop} {Q : Exit → Act → World → Prop} (x y : Operand) (ho : o.op = .store 66 x y) (Z : Nat) (y0 : Value) (y1 : Value) (y2 : Value) (y3 : Value) (y4 : Value) (y5 : Value) (y6 : Value) (y7 : Value) (y8 : Value) (y9 : Value) (y10 : Value) (y11 : Value) (y12 : Value) (y13 : Value) (hB : Rec Z [y0, y1, y2, y3, y4, y5, y6, y7, y8, y9, y10, y11, y12, y13] w) (hx : a.eval x = .pointer (some ⟨Z, 0, none⟩)) (b0 : Int) (b1 : Int) (q2 : Option Addr) (n2 d2 : Nat) (b3 : Int) (b4 : Int) (b5 : Int) (b6 : Int) (b7 : Int) (b8 : Int) (q9 : Option Addr) (n9 d9 : Nat) (b10 : Int) (b11 : Int) (b12 : Int) (b13 : Int) (hy : a.eval y = .agg #[.int .i64 b0, .int .i64 b1, .slice q2 n2 d2, .int .i64 b3, .int .i64 b4, .int .i64 b5, .int .i64 b6, .int .i64 b7, .int .i64 b8, .slice q9 n9 d9, .int .i64 b10, .int .i64 b11, .int .i64 b12, .int .i64 b13])
    (h : ∀ w' : World, Hid (Rec Z [.int .i64 b0, .int .i64 b1, .slice q2 n2 d2, .int .i64 b3, .int .i64 b4, .int .i64 b5, .int .i64 b6, .int .i64 b7, .int .i64 b8, .slice q9 n9 d9, .int .i64 b10, .int .i64 b11, .int .i64 b12, .int .i64 b13] w') → Hid (Turn Z w w') → K (a.put o.dst undef) w') : Oper.wpIn Fence.wide 0 Try.prog o a w K Q := by
  have z0 := hB.cell 0 _ rfl
  have s0 := hB.soft 0
  have z1 := hB.cell 1 _ rfl
  have s1 := hB.soft 1
  have z2 := hB.cell 2 _ rfl
  have s2 := hB.soft 2
  have z3 := hB.cell 3 _ rfl
  have s3 := hB.soft 3
  have z4 := hB.cell 4 _ rfl
  have s4 := hB.soft 4
  have z5 := hB.cell 5 _ rfl
  have s5 := hB.soft 5
  have z6 := hB.cell 6 _ rfl
  have s6 := hB.soft 6
  have z7 := hB.cell 7 _ rfl
  have s7 := hB.soft 7
  have z8 := hB.cell 8 _ rfl
  have s8 := hB.soft 8
  have z9 := hB.cell 9 _ rfl
  have s9 := hB.soft 9
  have z10 := hB.cell 10 _ rfl
  have s10 := hB.soft 10
  have z11 := hB.cell 11 _ rfl
  have s11 := hB.soft 11
  have z12 := hB.cell 12 _ rfl
  have s12 := hB.soft 12
  have z13 := hB.cell 13 _ rfl
  have s13 := hB.soft 13
  have key := h _ ((((((((((((((hB.set 0 (.int .i64 b0) (by simp) (show _ = ([.int .i64 b0, y1, y2, y3, y4, y5, y6, y7, y8, y9, y10, y11, y12, y13] : List Value) from rfl)).set 1 (.int .i64 b1) (by simp) (show _ = ([.int .i64 b0, .int .i64 b1, y2, y3, y4, y5, y6, y7, y8, y9, y10, y11, y12, y13] : List Value) from rfl)).set 2 (.slice q2 n2 d2) (by simp) (show _ = ([.int .i64 b0, .int .i64 b1, .slice q2 n2 d2, y3, y4, y5, y6, y7, y8, y9, y10, y11, y12, y13] : List Value) from rfl)).set 3 (.int .i64 b3) (by simp) (show _ = ([.int .i64 b0, .int .i64 b1, .slice q2 n2 d2, .int .i64 b3, y4, y5, y6, y7, y8, y9, y10, y11, y12, y13] : List Value) from rfl)).set 4 (.int .i64 b4) (by simp) (show _ = ([.int .i64 b0, .int .i64 b1, .slice q2 n2 d2, .int .i64 b3, .int .i64 b4, y5, y6, y7, y8, y9, y10, y11, y12, y13] : List Value) from rfl)).set 5 (.int .i64 b5) (by simp) (show _ = ([.int .i64 b0, .int .i64 b1, .slice q2 n2 d2, .int .i64 b3, .int .i64 b4, .int .i64 b5, y6, y7, y8, y9, y10, y11, y12, y13] : List Value) from rfl)).set 6 (.int .i64 b6) (by simp) (show _ = ([.int .i64 b0, .int .i64 b1, .slice q2 n2 d2, .int .i64 b3, .int .i64 b4, .int .i64 b5, .int .i64 b6, y7, y8, y9, y10, y11, y12, y13] : List Value) from rfl)).set 7 (.int .i64 b7) (by simp) (show _ = ([.int .i64 b0, .int .i64 b1, .slice q2 n2 d2, .int .i64 b3, .int .i64 b4, .int .i64 b5, .int .i64 b6, .int .i64 b7, y8, y9, y10, y11, y12, y13] : List Value) from rfl)).set 8 (.int .i64 b8) (by simp) (show _ = ([.int .i64 b0, .int .i64 b1, .slice q2 n2 d2, .int .i64 b3, .int .i64 b4, .int .i64 b5, .int .i64 b6, .int .i64 b7, .int .i64 b8, y9, y10, y11, y12, y13] : List Value) from rfl)).set 9 (.slice q9 n9 d9) (by simp) (show _ = ([.int .i64 b0, .int .i64 b1, .slice q2 n2 d2, .int .i64 b3, .int .i64 b4, .int .i64 b5, .int .i64 b6, .int .i64 b7, .int .i64 b8, .slice q9 n9 d9, y10, y11, y12, y13] : List Value) from rfl)).set 10 (.int .i64 b10) (by simp) (show _ = ([.int .i64 b0, .int .i64 b1, .slice q2 n2 d2, .int .i64 b3, .int .i64 b4, .int .i64 b5, .int .i64 b6, .int .i64 b7, .int .i64 b8, .slice q9 n9 d9, .int .i64 b10, y11, y12, y13] : List Value) from rfl)).set 11 (.int .i64 b11) (by simp) (show _ = ([.int .i64 b0, .int .i64 b1, .slice q2 n2 d2, .int .i64 b3, .int .i64 b4, .int .i64 b5, .int .i64 b6, .int .i64 b7, .int .i64 b8, .slice q9 n9 d9, .int .i64 b10, .int .i64 b11, y12, y13] : List Value) from rfl)).set 12 (.int .i64 b12) (by simp) (show _ = ([.int .i64 b0, .int .i64 b1, .slice q2 n2 d2, .int .i64 b3, .int .i64 b4, .int .i64 b5, .int .i64 b6, .int .i64 b7, .int .i64 b8, .slice q9 n9 d9, .int .i64 b10, .int .i64 b11, .int .i64 b12, y13] : List Value) from rfl)).set 13 (.int .i64 b13) (by simp) (show _ = ([.int .i64 b0, .int .i64 b1, .slice q2 n2 d2, .int .i64 b3, .int .i64 b4, .int .i64 b5, .int .i64 b6, .int .i64 b7, .int .i64 b8, .slice q9 n9 d9, .int .i64 b10, .int .i64 b11, .int .i64 b12, .int .i64 b13] : List Value) from rfl)) (((((((((((((((Turn.refl Z w).setCell (p := ⟨Z, 0, none⟩) rfl (.int .i64 b0)).setCell (p := ⟨Z, 1, none⟩) rfl (.int .i64 b1)).setCell (p := ⟨Z, 2, none⟩) rfl (.slice q2 n2 d2)).setCell (p := ⟨Z, 3, none⟩) rfl (.int .i64 b3)).setCell (p := ⟨Z, 4, none⟩) rfl (.int .i64 b4)).setCell (p := ⟨Z, 5, none⟩) rfl (.int .i64 b5)).setCell (p := ⟨Z, 6, none⟩) rfl (.int .i64 b6)).setCell (p := ⟨Z, 7, none⟩) rfl (.int .i64 b7)).setCell (p := ⟨Z, 8, none⟩) rfl (.int .i64 b8)).setCell (p := ⟨Z, 9, none⟩) rfl (.slice q9 n9 d9)).setCell (p := ⟨Z, 10, none⟩) rfl (.int .i64 b10)).setCell (p := ⟨Z, 11, none⟩) rfl (.int .i64 b11)).setCell (p := ⟨Z, 12, none⟩) rfl (.int .i64 b12)).setCell (p := ⟨Z, 13, none⟩) rfl (.int .i64 b13))
  obtain ⟨dst, op, ty, pos, aft, gd⟩ := o
  simp only [] at ho key
  subst ho
  clear h
  unfold Oper.wpIn
  refine ⟨fun _ _ => trivial, ?_⟩
  rw [show Fence.wide.round = none from rfl, Oper.semAt_none]
  simp only [execOp, hx, hy]
  go_simp
  exact key
set_option maxRecDepth 8000 in
set_option maxHeartbeats 16000000 in
theorem copiedEntry (x0 : List Int) (a1 : Int) (a2 : Int) (x3 : List Opn) (a4 : Int) (a5 : Int) (a6 : Int) (a7 : Int) (q0 : Option Addr) (c0 : Nat) (q3 : Option Addr) (c3 : Nat) (w : World) (h0 : intsK.rd w (.slice q0 x0.length c0) x0) (s0 : x0.length ≤ 2097152) (h3 : opsK.rd w (.slice q3 x3.length c3) x3) (s3 : x3.length ≤ 2097152) :
    Calls Try.prog 48 #[.agg #[.slice q0 x0.length c0, .int .i64 a1, .int .i64 a2, .slice q3 x3.length c3, .int .i64 a4, .int .i64 a5, .int .i64 a6, .int .i64 a7]] w fun e w' => ∃ g0 d0 g3 d3, e = .returned (.agg #[.slice g0 x0.length d0, .int .i64 a1, .int .i64 a2, .slice g3 x3.length d3, .int .i64 a4, .int .i64 a5, .int .i64 a6, .int .i64 a7]) ∧ cacR.ow w' (New w w') [.slice g0 x0.length d0, .int .i64 a1, .int .i64 a2, .slice g3 x3.length d3, .int .i64 a4, .int .i64 a5, .int .i64 a6, .int .i64 a7] (x0, a1, a2, x3, a4, a5, a6, a7) ∧ Below w.heap.size w w' := by
  have R0 := (Rec.new w [.slice q0 x0.length c0, .int .i64 a1, .int .i64 a2, .slice q3 x3.length c3, .int .i64 a4, .int .i64 a5, .int .i64 a6, .int .i64 a7] 41).alloc (.cells #[.slice none 0 0, .int .i64 0, .int .i64 0, .slice none 0 0, .int .i64 0, .int .i64 0, .int .i64 0, .int .i64 0] 41)
  have R1 := Rec.new (w.alloc (.cells #[.slice q0 x0.length c0, .int .i64 a1, .int .i64 a2, .slice q3 x3.length c3, .int .i64 a4, .int .i64 a5, .int .i64 a6, .int .i64 a7] 41)) [.slice none 0 0, .int .i64 0, .int .i64 0, .slice none 0 0, .int .i64 0, .int .i64 0, .int .i64 0, .int .i64 0] 41
  rw [show (w.alloc (.cells #[.slice q0 x0.length c0, .int .i64 a1, .int .i64 a2, .slice q3 x3.length c3, .int .i64 a4, .int .i64 a5, .int .i64 a6, .int .i64 a7] 41)).heap.size = w.heap.size + 1 by simp] at R1
  have b0 : Below w.heap.size w ((w.alloc (.cells #[.slice q0 x0.length c0, .int .i64 a1, .int .i64 a2, .slice q3 x3.length c3, .int .i64 a4, .int .i64 a5, .int .i64 a6, .int .i64 a7] 41)).alloc (.cells #[.slice none 0 0, .int .i64 0, .int .i64 0, .slice none 0 0, .int .i64 0, .int .i64 0, .int .i64 0, .int .i64 0] 41)).drew := ((boxC _ _).alloc (by simp) _).drew
  have RE := hide R0.drew
  have RZ := hide R1.drew
  have BW := hide b0
  have H0 := hide (intsK.rb h0 b0)
  have S0 : Hid (x0.length ≤ 2097152) := s0
  have H3 := hide (opsK.rb h3 b0)
  have S3 : Hid (x3.length ≤ 2097152) := s3
  clear R0 R1 b0 h0 s0 h3 s3
  go_enter Try.func48, Try.ntmps48
  go_wp2_with fail
  refine (wpIn_wide (n := 0)).1 ?_
  refine PhaseIn.region (S := Rec w.heap.size [.slice q0 x0.length c0, .int .i64 a1, .int .i64 a2, .slice q3 x3.length c3, .int .i64 a4, .int .i64 a5, .int .i64 a6, .int .i64 a7]) 7 (by kernel_rfl) ?_
  generalize ((w.alloc (.cells #[.slice q0 x0.length c0, .int .i64 a1, .int .i64 a2, .slice q3 x3.length c3, .int .i64 a4, .int .i64 a5, .int .i64 a6, .int .i64 a7] 41)).alloc (.cells #[.slice none 0 0, .int .i64 0, .int .i64 0, .slice none 0 0, .int .i64 0, .int .i64 0, .int .i64 0, .int .i64 0] 41)).drew = d9 at RE RZ BW H0 H3 ⊢
  have hHeld := RE.out
  have LD : Hid (w.heap.size + 1 < d9.heap.size) := RZ.out.lt
  refine PhaseIn.takeD (i := 0) (v := ?_) [0, 1, 2, 5, 6, 7] 3 rfl (by rfl) (by kernel_rfl) (by kernel_rfl) (by kernel_rfl) (by kernel_rfl) (by kernel_rfl) (fun _ _ _ h => h) (Or.inl ⟨by kernel_rfl, ?_⟩) hHeld ?_
  rotate_left
  · intro w' hSw
    (try dsimp only at hSw)
    go_simp
    first | done | with_reducible rfl
  try simp only [Act.put, List.setIfInBounds_toArray, List.set]
  refine PhaseIn.takeD (i := 1) (v := ?_) [1, 2, 5, 6, 7] 4 rfl (by rfl) (by kernel_rfl) (by kernel_rfl) (by kernel_rfl) (by kernel_rfl) (by kernel_rfl) (fun _ _ _ h => h) (Or.inl ⟨by kernel_rfl, ?_⟩) hHeld ?_
  rotate_left
  · intro w' hSw
    (try dsimp only at hSw)
    have z0 := hSw.cell 0 _ rfl; have z1 := hSw.cell 1 _ rfl; have z2 := hSw.cell 2 _ rfl; have z3 := hSw.cell 3 _ rfl; have z4 := hSw.cell 4 _ rfl; have z5 := hSw.cell 5 _ rfl; have z6 := hSw.cell 6 _ rfl; have z7 := hSw.cell 7 _ rfl
    go_simp
    first | done | with_reducible rfl
  try simp only [Act.put, List.setIfInBounds_toArray, List.set]
  refine PhaseIn.takeD (i := 3) (v := ?_) [3, 4, 5, 6, 7] 6 rfl (by rfl) (by kernel_rfl) (by kernel_rfl) (by kernel_rfl) (by kernel_rfl) (by kernel_rfl) (fun _ _ _ h => h) (Or.inl ⟨by kernel_rfl, ?_⟩) hHeld ?_
  rotate_left
  · intro w' hSw
    (try dsimp only at hSw)
    go_simp
    first | done | with_reducible rfl
  try simp only [Act.put, List.setIfInBounds_toArray, List.set]
  refine PhaseIn.takeD (i := 4) (v := ?_) [4, 5, 6, 7] 7 rfl (by rfl) (by kernel_rfl) (by kernel_rfl) (by kernel_rfl) (by kernel_rfl) (by kernel_rfl) (fun _ _ _ h => h) (Or.inl ⟨by kernel_rfl, ?_⟩) hHeld ?_
  rotate_left
  · intro w' hSw
    (try dsimp only at hSw)
    have z0 := hSw.cell 0 _ rfl; have z1 := hSw.cell 1 _ rfl; have z2 := hSw.cell 2 _ rfl; have z3 := hSw.cell 3 _ rfl; have z4 := hSw.cell 4 _ rfl; have z5 := hSw.cell 5 _ rfl; have z6 := hSw.cell 6 _ rfl; have z7 := hSw.cell 7 _ rfl
    go_simp
    first | done | with_reducible rfl
  try simp only [Act.put, List.setIfInBounds_toArray, List.set]
  refine PhaseIn.one (i := 2) (by kernel_rfl) rfl (by kernel_rfl) (fun K hK => ?_)
  unfold Oper.wpIn
  refine ⟨fun _ _ => trivial, ?_⟩
  go_simp
  refine ⟨rfl, (callsIn_wide.2 (copiedK x0 _ _ H0.out S0.out)).mono ?_⟩
  rintro e u2 ⟨g0, d0, rfl, WW, hb⟩
  refine hK _ _ (fun _ => hHeld.below hb) ?_
  have W0 : Hid (intsK.ow u2 (fun b => d9.heap.size ≤ b ∧ b < u2.heap.size) (.slice g0 x0.length d0) x0) := WW
  clear hK K WW
  try simp only [Act.put, List.setIfInBounds_toArray, List.set]
  replace hHeld := hHeld.below hb
  replace RE := hide (RE.out.below hb)
  replace RZ := hide (RZ.out.below hb)
  replace BW := hide (BW.out.trans (hb.mono BW.out.size))
  have Zu2 : Hid (d9.heap.size ≤ u2.heap.size) := hb.size
  replace H3 := hide (opsK.rb H3.out hb)
  clear hb
  refine PhaseIn.one (i := 5) (by kernel_rfl) rfl (by kernel_rfl) (fun K hK => ?_)
  unfold Oper.wpIn
  refine ⟨fun _ _ => trivial, ?_⟩
  go_simp
  refine ⟨rfl, (callsIn_wide.2 (copiedCodeK a1 a2 x3 a4 a5 a6 a7 _ _ _ H3.out S3.out)).mono ?_⟩
  rintro e u5 ⟨g3, d3, rfl, WW, hb⟩
  refine hK _ _ (fun _ => hHeld.below hb) ?_
  have W3 : Hid (opsK.ow u5 (fun b => u2.heap.size ≤ b ∧ b < u5.heap.size) (.slice g3 x3.length d3) x3) := WW
  clear hK K WW
  try simp only [Act.put, List.setIfInBounds_toArray, List.set]
  replace hHeld := hHeld.below hb
  replace RE := hide (RE.out.below hb)
  replace RZ := hide (RZ.out.below hb)
  replace BW := hide (BW.out.trans (hb.mono BW.out.size))
  have Zu5 : Hid (u2.heap.size ≤ u5.heap.size) := hb.size
  replace W0 := hide (intsK.ob W0.out hb)
  clear hb
  refine PhaseIn.takeD (i := 6) (v := ?_) [6, 7] 9 rfl (by rfl) (by kernel_rfl) (by kernel_rfl) (by kernel_rfl) (by kernel_rfl) (by kernel_rfl) (fun _ _ _ h => h) (Or.inl ⟨by kernel_rfl, ?_⟩) hHeld ?_
  rotate_left
  · intro w' hSw
    (try dsimp only at hSw)
    go_simp
    first | done | with_reducible rfl
  try simp only [Act.put, List.setIfInBounds_toArray, List.set]
  refine PhaseIn.one (i := 7) (by kernel_rfl) rfl (by kernel_rfl) (fun K hK => ?_)
  refine layInCacEntry _ _ rfl (w.heap.size + 1) _ _ _ _ _ _ _ _ RZ.out rfl _ _ _ _ _ _ _ _ _ _ _ _ rfl ?_
  intro p1 RX TX
  refine hK _ _ (fun h => absurd h (by omega)) ?_
  clear hK K hHeld
  try simp only [Act.put, List.setIfInBounds_toArray, List.set]
  refine PhaseIn.done (by kernel_rfl) ?_ _
  have FIN := hide (cacR_omk (A := New w p1) (x0 := x0) (a1 := a1) (a2 := a2) (x3 := x3) (a4 := a4) (a5 := a5) (a6 := a6) (a7 := a7) (intsK.ot W0.out TX.out (fun hb => by have := hb.1; have := LD.out; have := Zu2.out; have := Zu5.out; omega)) (opsK.ot W3.out TX.out (fun hb => by have := hb.1; have := LD.out; have := Zu2.out; have := Zu5.out; omega)) (fun b hb => ⟨by have := hb.1; have := LD.out; have := Zu2.out; have := Zu5.out; omega, by have := hb.2; have := TX.out.size; have := LD.out; have := Zu2.out; have := Zu5.out; omega⟩) (fun b hb => ⟨by have := hb.1; have := LD.out; have := Zu2.out; have := Zu5.out; omega, by have := hb.2; have := TX.out.size; have := LD.out; have := Zu2.out; have := Zu5.out; omega⟩) (fun b h h' => by have := h.1; have := h.2; have := h'.1; have := h'.2; have := LD.out; have := Zu2.out; have := Zu5.out; omega))
  replace BW := hide (BW.out.trans (TX.out.below (by omega) (by have := BW.out.size; have := LD.out; have := Zu2.out; have := Zu5.out; omega)))
  clear TX RE RZ LD Zu2 Zu5 W0 W3
  have y0 := RX.out.cell 0 _ rfl
  have y1 := RX.out.cell 1 _ rfl
  have y2 := RX.out.cell 2 _ rfl
  have y3 := RX.out.cell 3 _ rfl
  have y4 := RX.out.cell 4 _ rfl
  have y5 := RX.out.cell 5 _ rfl
  have y6 := RX.out.cell 6 _ rfl
  have y7 := RX.out.cell 7 _ rfl
  go_wp2
  exact bodyPost_ret (v := .agg #[.slice g0 x0.length d0, .int .i64 a1, .int .i64 a2, .slice g3 x3.length d3, .int .i64 a4, .int .i64 a5, .int .i64 a6, .int .i64 a7]) (by simp [results, Try.results48, go_sem, y0, y1, y2, y3, y4, y5, y6, y7]) rfl ⟨_, _, _, _, rfl, FIN.out, BW.out⟩
set_option maxRecDepth 8000 in
set_option maxHeartbeats 16000000 in
theorem copiedPair (a0 : Int) (a1 : Int) (x2 : List Opn) (a3 : Int) (a4 : Int) (a5 : Int) (a6 : Int) (a7 : Int) (a8 : Int) (x9 : List Opn) (a10 : Int) (a11 : Int) (a12 : Int) (a13 : Int) (q2 : Option Addr) (c2 : Nat) (q9 : Option Addr) (c9 : Nat) (w : World) (h2 : opsK.rd w (.slice q2 x2.length c2) x2) (s2 : x2.length ≤ 2097152) (h9 : opsK.rd w (.slice q9 x9.length c9) x9) (s9 : x9.length ≤ 2097152) :
    Calls Try.prog 65 #[.agg #[.int .i64 a0, .int .i64 a1, .slice q2 x2.length c2, .int .i64 a3, .int .i64 a4, .int .i64 a5, .int .i64 a6, .int .i64 a7, .int .i64 a8, .slice q9 x9.length c9, .int .i64 a10, .int .i64 a11, .int .i64 a12, .int .i64 a13]] w fun e w' => ∃ g2 d2 g9 d9, e = .returned (.agg #[.int .i64 a0, .int .i64 a1, .slice g2 x2.length d2, .int .i64 a3, .int .i64 a4, .int .i64 a5, .int .i64 a6, .int .i64 a7, .int .i64 a8, .slice g9 x9.length d9, .int .i64 a10, .int .i64 a11, .int .i64 a12, .int .i64 a13]) ∧ cerR.ow w' (New w w') [.int .i64 a0, .int .i64 a1, .slice g2 x2.length d2, .int .i64 a3, .int .i64 a4, .int .i64 a5, .int .i64 a6, .int .i64 a7, .int .i64 a8, .slice g9 x9.length d9, .int .i64 a10, .int .i64 a11, .int .i64 a12, .int .i64 a13] (a0, a1, x2, a3, a4, a5, a6, a7, a8, x9, a10, a11, a12, a13) ∧ Below w.heap.size w w' := by
  have R0 := (Rec.new w [.int .i64 a0, .int .i64 a1, .slice q2 x2.length c2, .int .i64 a3, .int .i64 a4, .int .i64 a5, .int .i64 a6, .int .i64 a7, .int .i64 a8, .slice q9 x9.length c9, .int .i64 a10, .int .i64 a11, .int .i64 a12, .int .i64 a13] 66).alloc (.cells #[.int .i64 0, .int .i64 0, .slice none 0 0, .int .i64 0, .int .i64 0, .int .i64 0, .int .i64 0, .int .i64 0, .int .i64 0, .slice none 0 0, .int .i64 0, .int .i64 0, .int .i64 0, .int .i64 0] 66)
  have R1 := Rec.new (w.alloc (.cells #[.int .i64 a0, .int .i64 a1, .slice q2 x2.length c2, .int .i64 a3, .int .i64 a4, .int .i64 a5, .int .i64 a6, .int .i64 a7, .int .i64 a8, .slice q9 x9.length c9, .int .i64 a10, .int .i64 a11, .int .i64 a12, .int .i64 a13] 66)) [.int .i64 0, .int .i64 0, .slice none 0 0, .int .i64 0, .int .i64 0, .int .i64 0, .int .i64 0, .int .i64 0, .int .i64 0, .slice none 0 0, .int .i64 0, .int .i64 0, .int .i64 0, .int .i64 0] 66
  rw [show (w.alloc (.cells #[.int .i64 a0, .int .i64 a1, .slice q2 x2.length c2, .int .i64 a3, .int .i64 a4, .int .i64 a5, .int .i64 a6, .int .i64 a7, .int .i64 a8, .slice q9 x9.length c9, .int .i64 a10, .int .i64 a11, .int .i64 a12, .int .i64 a13] 66)).heap.size = w.heap.size + 1 by simp] at R1
  have b0 : Below w.heap.size w ((w.alloc (.cells #[.int .i64 a0, .int .i64 a1, .slice q2 x2.length c2, .int .i64 a3, .int .i64 a4, .int .i64 a5, .int .i64 a6, .int .i64 a7, .int .i64 a8, .slice q9 x9.length c9, .int .i64 a10, .int .i64 a11, .int .i64 a12, .int .i64 a13] 66)).alloc (.cells #[.int .i64 0, .int .i64 0, .slice none 0 0, .int .i64 0, .int .i64 0, .int .i64 0, .int .i64 0, .int .i64 0, .int .i64 0, .slice none 0 0, .int .i64 0, .int .i64 0, .int .i64 0, .int .i64 0] 66)).drew := ((boxC _ _).alloc (by simp) _).drew
  have RE := hide R0.drew
  have RZ := hide R1.drew
  have BW := hide b0
  have H2 := hide (opsK.rb h2 b0)
  have S2 : Hid (x2.length ≤ 2097152) := s2
  have H9 := hide (opsK.rb h9 b0)
  have S9 : Hid (x9.length ≤ 2097152) := s9
  clear R0 R1 b0 h2 s2 h9 s9
  go_enter Try.func65, Try.ntmps65
  go_wp2_with fail
  refine (wpIn_wide (n := 0)).1 ?_
  refine PhaseIn.region (S := Rec w.heap.size [.int .i64 a0, .int .i64 a1, .slice q2 x2.length c2, .int .i64 a3, .int .i64 a4, .int .i64 a5, .int .i64 a6, .int .i64 a7, .int .i64 a8, .slice q9 x9.length c9, .int .i64 a10, .int .i64 a11, .int .i64 a12, .int .i64 a13]) 7 (by kernel_rfl) ?_
  generalize ((w.alloc (.cells #[.int .i64 a0, .int .i64 a1, .slice q2 x2.length c2, .int .i64 a3, .int .i64 a4, .int .i64 a5, .int .i64 a6, .int .i64 a7, .int .i64 a8, .slice q9 x9.length c9, .int .i64 a10, .int .i64 a11, .int .i64 a12, .int .i64 a13] 66)).alloc (.cells #[.int .i64 0, .int .i64 0, .slice none 0 0, .int .i64 0, .int .i64 0, .int .i64 0, .int .i64 0, .int .i64 0, .int .i64 0, .slice none 0 0, .int .i64 0, .int .i64 0, .int .i64 0, .int .i64 0] 66)).drew = d9 at RE RZ BW H2 H9 ⊢
  have hHeld := RE.out
  have LD : Hid (w.heap.size + 1 < d9.heap.size) := RZ.out.lt
  refine PhaseIn.takeD (i := 0) (v := ?_) [0, 1, 2, 5, 6, 7] 3 rfl (by rfl) (by kernel_rfl) (by kernel_rfl) (by kernel_rfl) (by kernel_rfl) (by kernel_rfl) (fun _ _ _ h => h) (Or.inl ⟨by kernel_rfl, ?_⟩) hHeld ?_
  rotate_left
  · intro w' hSw
    (try dsimp only at hSw)
    go_simp
    first | done | with_reducible rfl
  try simp only [Act.put, List.setIfInBounds_toArray, List.set]
  refine PhaseIn.takeD (i := 1) (v := ?_) [1, 2, 5, 6, 7] 4 rfl (by rfl) (by kernel_rfl) (by kernel_rfl) (by kernel_rfl) (by kernel_rfl) (by kernel_rfl) (fun _ _ _ h => h) (Or.inl ⟨by kernel_rfl, ?_⟩) hHeld ?_
  rotate_left
  · intro w' hSw
    (try dsimp only at hSw)
    have z0 := hSw.cell 0 _ rfl; have z1 := hSw.cell 1 _ rfl; have z2 := hSw.cell 2 _ rfl; have z3 := hSw.cell 3 _ rfl; have z4 := hSw.cell 4 _ rfl; have z5 := hSw.cell 5 _ rfl; have z6 := hSw.cell 6 _ rfl; have z7 := hSw.cell 7 _ rfl; have z8 := hSw.cell 8 _ rfl; have z9 := hSw.cell 9 _ rfl; have z10 := hSw.cell 10 _ rfl; have z11 := hSw.cell 11 _ rfl; have z12 := hSw.cell 12 _ rfl; have z13 := hSw.cell 13 _ rfl
    go_simp
    first | done | with_reducible rfl
  try simp only [Act.put, List.setIfInBounds_toArray, List.set]
  refine PhaseIn.takeD (i := 3) (v := ?_) [3, 4, 5, 6, 7] 6 rfl (by rfl) (by kernel_rfl) (by kernel_rfl) (by kernel_rfl) (by kernel_rfl) (by kernel_rfl) (fun _ _ _ h => h) (Or.inl ⟨by kernel_rfl, ?_⟩) hHeld ?_
  rotate_left
  · intro w' hSw
    (try dsimp only at hSw)
    go_simp
    first | done | with_reducible rfl
  try simp only [Act.put, List.setIfInBounds_toArray, List.set]
  refine PhaseIn.takeD (i := 4) (v := ?_) [4, 5, 6, 7] 7 rfl (by rfl) (by kernel_rfl) (by kernel_rfl) (by kernel_rfl) (by kernel_rfl) (by kernel_rfl) (fun _ _ _ h => h) (Or.inl ⟨by kernel_rfl, ?_⟩) hHeld ?_
  rotate_left
  · intro w' hSw
    (try dsimp only at hSw)
    have z0 := hSw.cell 0 _ rfl; have z1 := hSw.cell 1 _ rfl; have z2 := hSw.cell 2 _ rfl; have z3 := hSw.cell 3 _ rfl; have z4 := hSw.cell 4 _ rfl; have z5 := hSw.cell 5 _ rfl; have z6 := hSw.cell 6 _ rfl; have z7 := hSw.cell 7 _ rfl; have z8 := hSw.cell 8 _ rfl; have z9 := hSw.cell 9 _ rfl; have z10 := hSw.cell 10 _ rfl; have z11 := hSw.cell 11 _ rfl; have z12 := hSw.cell 12 _ rfl; have z13 := hSw.cell 13 _ rfl
    go_simp
    first | done | with_reducible rfl
  try simp only [Act.put, List.setIfInBounds_toArray, List.set]
  refine PhaseIn.one (i := 2) (by kernel_rfl) rfl (by kernel_rfl) (fun K hK => ?_)
  unfold Oper.wpIn
  refine ⟨fun _ _ => trivial, ?_⟩
  go_simp
  refine ⟨rfl, (callsIn_wide.2 (copiedCodeK a0 a1 x2 a3 a4 a5 a6 _ _ _ H2.out S2.out)).mono ?_⟩
  rintro e u2 ⟨g2, d2, rfl, WW, hb⟩
  refine hK _ _ (fun _ => hHeld.below hb) ?_
  have W2 : Hid (opsK.ow u2 (fun b => d9.heap.size ≤ b ∧ b < u2.heap.size) (.slice g2 x2.length d2) x2) := WW
  clear hK K WW
  try simp only [Act.put, List.setIfInBounds_toArray, List.set]
  replace hHeld := hHeld.below hb
  replace RE := hide (RE.out.below hb)
  replace RZ := hide (RZ.out.below hb)
  replace BW := hide (BW.out.trans (hb.mono BW.out.size))
  have Zu2 : Hid (d9.heap.size ≤ u2.heap.size) := hb.size
  replace H9 := hide (opsK.rb H9.out hb)
  clear hb
  refine PhaseIn.one (i := 5) (by kernel_rfl) rfl (by kernel_rfl) (fun K hK => ?_)
  unfold Oper.wpIn
  refine ⟨fun _ _ => trivial, ?_⟩
  go_simp
  refine ⟨rfl, (callsIn_wide.2 (copiedCodeK a7 a8 x9 a10 a11 a12 a13 _ _ _ H9.out S9.out)).mono ?_⟩
  rintro e u5 ⟨g9, d9, rfl, WW, hb⟩
  refine hK _ _ (fun _ => hHeld.below hb) ?_
  have W9 : Hid (opsK.ow u5 (fun b => u2.heap.size ≤ b ∧ b < u5.heap.size) (.slice g9 x9.length d9) x9) := WW
  clear hK K WW
  try simp only [Act.put, List.setIfInBounds_toArray, List.set]
  replace hHeld := hHeld.below hb
  replace RE := hide (RE.out.below hb)
  replace RZ := hide (RZ.out.below hb)
  replace BW := hide (BW.out.trans (hb.mono BW.out.size))
  have Zu5 : Hid (u2.heap.size ≤ u5.heap.size) := hb.size
  replace W2 := hide (opsK.ob W2.out hb)
  clear hb
  refine PhaseIn.takeD (i := 6) (v := ?_) [6, 7] 9 rfl (by rfl) (by kernel_rfl) (by kernel_rfl) (by kernel_rfl) (by kernel_rfl) (by kernel_rfl) (fun _ _ _ h => h) (Or.inl ⟨by kernel_rfl, ?_⟩) hHeld ?_
  rotate_left
  · intro w' hSw
    (try dsimp only at hSw)
    go_simp
    first | done | with_reducible rfl
  try simp only [Act.put, List.setIfInBounds_toArray, List.set]
  refine PhaseIn.one (i := 7) (by kernel_rfl) rfl (by kernel_rfl) (fun K hK => ?_)
  refine layInCerPair _ _ rfl (w.heap.size + 1) _ _ _ _ _ _ _ _ _ _ _ _ _ _ RZ.out rfl _ _ _ _ _ _ _ _ _ _ _ _ _ _ _ _ _ _ rfl ?_
  intro p1 RX TX
  refine hK _ _ (fun h => absurd h (by omega)) ?_
  clear hK K hHeld
  try simp only [Act.put, List.setIfInBounds_toArray, List.set]
  refine PhaseIn.done (by kernel_rfl) ?_ _
  have FIN := hide (cerR_omk (A := New w p1) (a0 := a0) (a1 := a1) (x2 := x2) (a3 := a3) (a4 := a4) (a5 := a5) (a6 := a6) (a7 := a7) (a8 := a8) (x9 := x9) (a10 := a10) (a11 := a11) (a12 := a12) (a13 := a13) (opsK.ot W2.out TX.out (fun hb => by have := hb.1; have := LD.out; have := Zu2.out; have := Zu5.out; omega)) (opsK.ot W9.out TX.out (fun hb => by have := hb.1; have := LD.out; have := Zu2.out; have := Zu5.out; omega)) (fun b hb => ⟨by have := hb.1; have := LD.out; have := Zu2.out; have := Zu5.out; omega, by have := hb.2; have := TX.out.size; have := LD.out; have := Zu2.out; have := Zu5.out; omega⟩) (fun b hb => ⟨by have := hb.1; have := LD.out; have := Zu2.out; have := Zu5.out; omega, by have := hb.2; have := TX.out.size; have := LD.out; have := Zu2.out; have := Zu5.out; omega⟩) (fun b h h' => by have := h.1; have := h.2; have := h'.1; have := h'.2; have := LD.out; have := Zu2.out; have := Zu5.out; omega))
  replace BW := hide (BW.out.trans (TX.out.below (by omega) (by have := BW.out.size; have := LD.out; have := Zu2.out; have := Zu5.out; omega)))
  clear TX RE RZ LD Zu2 Zu5 W2 W9
  have y0 := RX.out.cell 0 _ rfl
  have y1 := RX.out.cell 1 _ rfl
  have y2 := RX.out.cell 2 _ rfl
  have y3 := RX.out.cell 3 _ rfl
  have y4 := RX.out.cell 4 _ rfl
  have y5 := RX.out.cell 5 _ rfl
  have y6 := RX.out.cell 6 _ rfl
  have y7 := RX.out.cell 7 _ rfl
  have y8 := RX.out.cell 8 _ rfl
  have y9 := RX.out.cell 9 _ rfl
  have y10 := RX.out.cell 10 _ rfl
  have y11 := RX.out.cell 11 _ rfl
  have y12 := RX.out.cell 12 _ rfl
  have y13 := RX.out.cell 13 _ rfl
  go_wp2
  exact bodyPost_ret (v := .agg #[.int .i64 a0, .int .i64 a1, .slice g2 x2.length d2, .int .i64 a3, .int .i64 a4, .int .i64 a5, .int .i64 a6, .int .i64 a7, .int .i64 a8, .slice g9 x9.length d9, .int .i64 a10, .int .i64 a11, .int .i64 a12, .int .i64 a13]) (by simp [results, Try.results65, go_sem, y0, y1, y2, y3, y4, y5, y6, y7, y8, y9, y10, y11, y12, y13]) rfl ⟨_, _, _, _, rfl, FIN.out, BW.out⟩
set_option maxRecDepth 8000 in
set_option maxHeartbeats 16000000 in
theorem l12Pair (a0 : Int) (a1 : Int) (x2 : List Opn) (a3 : Int) (a4 : Int) (a5 : Int) (a6 : Int) (a7 : Int) (a8 : Int) (x9 : List Opn) (a10 : Int) (a11 : Int) (a12 : Int) (a13 : Int) (q2 : Option Addr) (c2 : Nat) (q9 : Option Addr) (c9 : Nat) (w : World) (h2 : opsK.rd w (.slice q2 x2.length c2) x2) (s2 : x2.length ≤ 2097152) (h9 : opsK.rd w (.slice q9 x9.length c9) x9) (s9 : x9.length ≤ 2097152) :
    Calls Try.prog 62 #[.agg #[.int .i64 a0, .int .i64 a1, .slice q2 x2.length c2, .int .i64 a3, .int .i64 a4, .int .i64 a5, .int .i64 a6, .int .i64 a7, .int .i64 a8, .slice q9 x9.length c9, .int .i64 a10, .int .i64 a11, .int .i64 a12, .int .i64 a13]] w fun e w' => ∃ g2 d2 g9 d9, e = .returned (.agg #[.int .i64 a0, .int .i64 a1, .slice g2 x2.length d2, .int .i64 a3, .int .i64 a4, .int .i64 a5, .int .i64 a6, .int .i64 a7, .int .i64 a8, .slice g9 x9.length d9, .int .i64 a10, .int .i64 a11, .int .i64 a12, .int .i64 a13]) ∧ cerR.ow w' (New w w') [.int .i64 a0, .int .i64 a1, .slice g2 x2.length d2, .int .i64 a3, .int .i64 a4, .int .i64 a5, .int .i64 a6, .int .i64 a7, .int .i64 a8, .slice g9 x9.length d9, .int .i64 a10, .int .i64 a11, .int .i64 a12, .int .i64 a13] (a0, a1, x2, a3, a4, a5, a6, a7, a8, x9, a10, a11, a12, a13) ∧ Below w.heap.size w w' := by
  have R0 := (Rec.new w [.int .i64 a0, .int .i64 a1, .slice q2 x2.length c2, .int .i64 a3, .int .i64 a4, .int .i64 a5, .int .i64 a6, .int .i64 a7, .int .i64 a8, .slice q9 x9.length c9, .int .i64 a10, .int .i64 a11, .int .i64 a12, .int .i64 a13] 66).alloc (.cells #[.int .i64 0, .int .i64 0, .slice none 0 0, .int .i64 0, .int .i64 0, .int .i64 0, .int .i64 0, .int .i64 0, .int .i64 0, .slice none 0 0, .int .i64 0, .int .i64 0, .int .i64 0, .int .i64 0] 66)
  have R1 := Rec.new (w.alloc (.cells #[.int .i64 a0, .int .i64 a1, .slice q2 x2.length c2, .int .i64 a3, .int .i64 a4, .int .i64 a5, .int .i64 a6, .int .i64 a7, .int .i64 a8, .slice q9 x9.length c9, .int .i64 a10, .int .i64 a11, .int .i64 a12, .int .i64 a13] 66)) [.int .i64 0, .int .i64 0, .slice none 0 0, .int .i64 0, .int .i64 0, .int .i64 0, .int .i64 0, .int .i64 0, .int .i64 0, .slice none 0 0, .int .i64 0, .int .i64 0, .int .i64 0, .int .i64 0] 66
  rw [show (w.alloc (.cells #[.int .i64 a0, .int .i64 a1, .slice q2 x2.length c2, .int .i64 a3, .int .i64 a4, .int .i64 a5, .int .i64 a6, .int .i64 a7, .int .i64 a8, .slice q9 x9.length c9, .int .i64 a10, .int .i64 a11, .int .i64 a12, .int .i64 a13] 66)).heap.size = w.heap.size + 1 by simp] at R1
  have b0 : Below w.heap.size w ((w.alloc (.cells #[.int .i64 a0, .int .i64 a1, .slice q2 x2.length c2, .int .i64 a3, .int .i64 a4, .int .i64 a5, .int .i64 a6, .int .i64 a7, .int .i64 a8, .slice q9 x9.length c9, .int .i64 a10, .int .i64 a11, .int .i64 a12, .int .i64 a13] 66)).alloc (.cells #[.int .i64 0, .int .i64 0, .slice none 0 0, .int .i64 0, .int .i64 0, .int .i64 0, .int .i64 0, .int .i64 0, .int .i64 0, .slice none 0 0, .int .i64 0, .int .i64 0, .int .i64 0, .int .i64 0] 66)).drew := ((boxC _ _).alloc (by simp) _).drew
  have RE := hide R0.drew
  have RZ := hide R1.drew
  have BW := hide b0
  have H2 := hide (opsK.rb h2 b0)
  have S2 : Hid (x2.length ≤ 2097152) := s2
  have H9 := hide (opsK.rb h9 b0)
  have S9 : Hid (x9.length ≤ 2097152) := s9
  clear R0 R1 b0 h2 s2 h9 s9
  go_enter Try.func62, Try.ntmps62
  go_wp2_with fail
  refine (wpIn_wide (n := 0)).1 ?_
  refine PhaseIn.region (S := Rec w.heap.size [.int .i64 a0, .int .i64 a1, .slice q2 x2.length c2, .int .i64 a3, .int .i64 a4, .int .i64 a5, .int .i64 a6, .int .i64 a7, .int .i64 a8, .slice q9 x9.length c9, .int .i64 a10, .int .i64 a11, .int .i64 a12, .int .i64 a13]) 7 (by kernel_rfl) ?_
  generalize ((w.alloc (.cells #[.int .i64 a0, .int .i64 a1, .slice q2 x2.length c2, .int .i64 a3, .int .i64 a4, .int .i64 a5, .int .i64 a6, .int .i64 a7, .int .i64 a8, .slice q9 x9.length c9, .int .i64 a10, .int .i64 a11, .int .i64 a12, .int .i64 a13] 66)).alloc (.cells #[.int .i64 0, .int .i64 0, .slice none 0 0, .int .i64 0, .int .i64 0, .int .i64 0, .int .i64 0, .int .i64 0, .int .i64 0, .slice none 0 0, .int .i64 0, .int .i64 0, .int .i64 0, .int .i64 0] 66)).drew = d9 at RE RZ BW H2 H9 ⊢
  have hHeld := RE.out
  have LD : Hid (w.heap.size + 1 < d9.heap.size) := RZ.out.lt
  refine PhaseIn.takeD (i := 0) (v := ?_) [0, 1, 2, 5, 6, 7] 3 rfl (by rfl) (by kernel_rfl) (by kernel_rfl) (by kernel_rfl) (by kernel_rfl) (by kernel_rfl) (fun _ _ _ h => h) (Or.inl ⟨by kernel_rfl, ?_⟩) hHeld ?_
  rotate_left
  · intro w' hSw
    (try dsimp only at hSw)
    go_simp
    first | done | with_reducible rfl
  try simp only [Act.put, List.setIfInBounds_toArray, List.set]
  refine PhaseIn.takeD (i := 1) (v := ?_) [1, 2, 5, 6, 7] 4 rfl (by rfl) (by kernel_rfl) (by kernel_rfl) (by kernel_rfl) (by kernel_rfl) (by kernel_rfl) (fun _ _ _ h => h) (Or.inl ⟨by kernel_rfl, ?_⟩) hHeld ?_
  rotate_left
  · intro w' hSw
    (try dsimp only at hSw)
    have z0 := hSw.cell 0 _ rfl; have z1 := hSw.cell 1 _ rfl; have z2 := hSw.cell 2 _ rfl; have z3 := hSw.cell 3 _ rfl; have z4 := hSw.cell 4 _ rfl; have z5 := hSw.cell 5 _ rfl; have z6 := hSw.cell 6 _ rfl; have z7 := hSw.cell 7 _ rfl; have z8 := hSw.cell 8 _ rfl; have z9 := hSw.cell 9 _ rfl; have z10 := hSw.cell 10 _ rfl; have z11 := hSw.cell 11 _ rfl; have z12 := hSw.cell 12 _ rfl; have z13 := hSw.cell 13 _ rfl
    go_simp
    first | done | with_reducible rfl
  try simp only [Act.put, List.setIfInBounds_toArray, List.set]
  refine PhaseIn.takeD (i := 3) (v := ?_) [3, 4, 5, 6, 7] 6 rfl (by rfl) (by kernel_rfl) (by kernel_rfl) (by kernel_rfl) (by kernel_rfl) (by kernel_rfl) (fun _ _ _ h => h) (Or.inl ⟨by kernel_rfl, ?_⟩) hHeld ?_
  rotate_left
  · intro w' hSw
    (try dsimp only at hSw)
    go_simp
    first | done | with_reducible rfl
  try simp only [Act.put, List.setIfInBounds_toArray, List.set]
  refine PhaseIn.takeD (i := 4) (v := ?_) [4, 5, 6, 7] 7 rfl (by rfl) (by kernel_rfl) (by kernel_rfl) (by kernel_rfl) (by kernel_rfl) (by kernel_rfl) (fun _ _ _ h => h) (Or.inl ⟨by kernel_rfl, ?_⟩) hHeld ?_
  rotate_left
  · intro w' hSw
    (try dsimp only at hSw)
    have z0 := hSw.cell 0 _ rfl; have z1 := hSw.cell 1 _ rfl; have z2 := hSw.cell 2 _ rfl; have z3 := hSw.cell 3 _ rfl; have z4 := hSw.cell 4 _ rfl; have z5 := hSw.cell 5 _ rfl; have z6 := hSw.cell 6 _ rfl; have z7 := hSw.cell 7 _ rfl; have z8 := hSw.cell 8 _ rfl; have z9 := hSw.cell 9 _ rfl; have z10 := hSw.cell 10 _ rfl; have z11 := hSw.cell 11 _ rfl; have z12 := hSw.cell 12 _ rfl; have z13 := hSw.cell 13 _ rfl
    go_simp
    first | done | with_reducible rfl
  try simp only [Act.put, List.setIfInBounds_toArray, List.set]
  refine PhaseIn.one (i := 2) (by kernel_rfl) rfl (by kernel_rfl) (fun K hK => ?_)
  unfold Oper.wpIn
  refine ⟨fun _ _ => trivial, ?_⟩
  go_simp
  refine ⟨rfl, (callsIn_wide.2 (l6CopyK a0 a1 x2 a3 a4 a5 a6 _ _ _ H2.out S2.out)).mono ?_⟩
  rintro e u2 ⟨g2, d2, rfl, WW, hb⟩
  refine hK _ _ (fun _ => hHeld.below hb) ?_
  have W2 : Hid (opsK.ow u2 (fun b => d9.heap.size ≤ b ∧ b < u2.heap.size) (.slice g2 x2.length d2) x2) := WW
  clear hK K WW
  try simp only [Act.put, List.setIfInBounds_toArray, List.set]
  replace hHeld := hHeld.below hb
  replace RE := hide (RE.out.below hb)
  replace RZ := hide (RZ.out.below hb)
  replace BW := hide (BW.out.trans (hb.mono BW.out.size))
  have Zu2 : Hid (d9.heap.size ≤ u2.heap.size) := hb.size
  replace H9 := hide (opsK.rb H9.out hb)
  clear hb
  refine PhaseIn.one (i := 5) (by kernel_rfl) rfl (by kernel_rfl) (fun K hK => ?_)
  unfold Oper.wpIn
  refine ⟨fun _ _ => trivial, ?_⟩
  go_simp
  refine ⟨rfl, (callsIn_wide.2 (l6CopyK a7 a8 x9 a10 a11 a12 a13 _ _ _ H9.out S9.out)).mono ?_⟩
  rintro e u5 ⟨g9, d9, rfl, WW, hb⟩
  refine hK _ _ (fun _ => hHeld.below hb) ?_
  have W9 : Hid (opsK.ow u5 (fun b => u2.heap.size ≤ b ∧ b < u5.heap.size) (.slice g9 x9.length d9) x9) := WW
  clear hK K WW
  try simp only [Act.put, List.setIfInBounds_toArray, List.set]
  replace hHeld := hHeld.below hb
  replace RE := hide (RE.out.below hb)
  replace RZ := hide (RZ.out.below hb)
  replace BW := hide (BW.out.trans (hb.mono BW.out.size))
  have Zu5 : Hid (u2.heap.size ≤ u5.heap.size) := hb.size
  replace W2 := hide (opsK.ob W2.out hb)
  clear hb
  refine PhaseIn.takeD (i := 6) (v := ?_) [6, 7] 9 rfl (by rfl) (by kernel_rfl) (by kernel_rfl) (by kernel_rfl) (by kernel_rfl) (by kernel_rfl) (fun _ _ _ h => h) (Or.inl ⟨by kernel_rfl, ?_⟩) hHeld ?_
  rotate_left
  · intro w' hSw
    (try dsimp only at hSw)
    go_simp
    first | done | with_reducible rfl
  try simp only [Act.put, List.setIfInBounds_toArray, List.set]
  refine PhaseIn.one (i := 7) (by kernel_rfl) rfl (by kernel_rfl) (fun K hK => ?_)
  refine layInCerPair _ _ rfl (w.heap.size + 1) _ _ _ _ _ _ _ _ _ _ _ _ _ _ RZ.out rfl _ _ _ _ _ _ _ _ _ _ _ _ _ _ _ _ _ _ rfl ?_
  intro p1 RX TX
  refine hK _ _ (fun h => absurd h (by omega)) ?_
  clear hK K hHeld
  try simp only [Act.put, List.setIfInBounds_toArray, List.set]
  refine PhaseIn.done (by kernel_rfl) ?_ _
  have FIN := hide (cerR_omk (A := New w p1) (a0 := a0) (a1 := a1) (x2 := x2) (a3 := a3) (a4 := a4) (a5 := a5) (a6 := a6) (a7 := a7) (a8 := a8) (x9 := x9) (a10 := a10) (a11 := a11) (a12 := a12) (a13 := a13) (opsK.ot W2.out TX.out (fun hb => by have := hb.1; have := LD.out; have := Zu2.out; have := Zu5.out; omega)) (opsK.ot W9.out TX.out (fun hb => by have := hb.1; have := LD.out; have := Zu2.out; have := Zu5.out; omega)) (fun b hb => ⟨by have := hb.1; have := LD.out; have := Zu2.out; have := Zu5.out; omega, by have := hb.2; have := TX.out.size; have := LD.out; have := Zu2.out; have := Zu5.out; omega⟩) (fun b hb => ⟨by have := hb.1; have := LD.out; have := Zu2.out; have := Zu5.out; omega, by have := hb.2; have := TX.out.size; have := LD.out; have := Zu2.out; have := Zu5.out; omega⟩) (fun b h h' => by have := h.1; have := h.2; have := h'.1; have := h'.2; have := LD.out; have := Zu2.out; have := Zu5.out; omega))
  replace BW := hide (BW.out.trans (TX.out.below (by omega) (by have := BW.out.size; have := LD.out; have := Zu2.out; have := Zu5.out; omega)))
  clear TX RE RZ LD Zu2 Zu5 W2 W9
  have y0 := RX.out.cell 0 _ rfl
  have y1 := RX.out.cell 1 _ rfl
  have y2 := RX.out.cell 2 _ rfl
  have y3 := RX.out.cell 3 _ rfl
  have y4 := RX.out.cell 4 _ rfl
  have y5 := RX.out.cell 5 _ rfl
  have y6 := RX.out.cell 6 _ rfl
  have y7 := RX.out.cell 7 _ rfl
  have y8 := RX.out.cell 8 _ rfl
  have y9 := RX.out.cell 9 _ rfl
  have y10 := RX.out.cell 10 _ rfl
  have y11 := RX.out.cell 11 _ rfl
  have y12 := RX.out.cell 12 _ rfl
  have y13 := RX.out.cell 13 _ rfl
  go_wp2
  exact bodyPost_ret (v := .agg #[.int .i64 a0, .int .i64 a1, .slice g2 x2.length d2, .int .i64 a3, .int .i64 a4, .int .i64 a5, .int .i64 a6, .int .i64 a7, .int .i64 a8, .slice g9 x9.length d9, .int .i64 a10, .int .i64 a11, .int .i64 a12, .int .i64 a13]) (by simp [results, Try.results62, go_sem, y0, y1, y2, y3, y4, y5, y6, y7, y8, y9, y10, y11, y12, y13]) rfl ⟨_, _, _, _, rfl, FIN.out, BW.out⟩
set_option maxRecDepth 8000 in
set_option maxHeartbeats 16000000 in
theorem l12Entry (x0 : List Int) (a1 : Int) (a2 : Int) (x3 : List Opn) (a4 : Int) (a5 : Int) (a6 : Int) (a7 : Int) (q0 : Option Addr) (c0 : Nat) (q3 : Option Addr) (c3 : Nat) (w : World) (h0 : intsK.rd w (.slice q0 x0.length c0) x0) (s0 : x0.length ≤ 2097152) (h3 : opsK.rd w (.slice q3 x3.length c3) x3) (s3 : x3.length ≤ 2097152) :
    Calls Try.prog 45 #[.agg #[.slice q0 x0.length c0, .int .i64 a1, .int .i64 a2, .slice q3 x3.length c3, .int .i64 a4, .int .i64 a5, .int .i64 a6, .int .i64 a7]] w fun e w' => ∃ g0 d0 g3 d3, e = .returned (.agg #[.slice g0 x0.length d0, .int .i64 a1, .int .i64 a2, .slice g3 x3.length d3, .int .i64 a4, .int .i64 a5, .int .i64 a6, .int .i64 a7]) ∧ cacR.ow w' (New w w') [.slice g0 x0.length d0, .int .i64 a1, .int .i64 a2, .slice g3 x3.length d3, .int .i64 a4, .int .i64 a5, .int .i64 a6, .int .i64 a7] (x0, a1, a2, x3, a4, a5, a6, a7) ∧ Below w.heap.size w w' := by
  have R0 := (Rec.new w [.slice q0 x0.length c0, .int .i64 a1, .int .i64 a2, .slice q3 x3.length c3, .int .i64 a4, .int .i64 a5, .int .i64 a6, .int .i64 a7] 41).alloc (.cells #[.slice none 0 0, .int .i64 0, .int .i64 0, .slice none 0 0, .int .i64 0, .int .i64 0, .int .i64 0, .int .i64 0] 41)
  have R1 := Rec.new (w.alloc (.cells #[.slice q0 x0.length c0, .int .i64 a1, .int .i64 a2, .slice q3 x3.length c3, .int .i64 a4, .int .i64 a5, .int .i64 a6, .int .i64 a7] 41)) [.slice none 0 0, .int .i64 0, .int .i64 0, .slice none 0 0, .int .i64 0, .int .i64 0, .int .i64 0, .int .i64 0] 41
  rw [show (w.alloc (.cells #[.slice q0 x0.length c0, .int .i64 a1, .int .i64 a2, .slice q3 x3.length c3, .int .i64 a4, .int .i64 a5, .int .i64 a6, .int .i64 a7] 41)).heap.size = w.heap.size + 1 by simp] at R1
  have b0 : Below w.heap.size w ((w.alloc (.cells #[.slice q0 x0.length c0, .int .i64 a1, .int .i64 a2, .slice q3 x3.length c3, .int .i64 a4, .int .i64 a5, .int .i64 a6, .int .i64 a7] 41)).alloc (.cells #[.slice none 0 0, .int .i64 0, .int .i64 0, .slice none 0 0, .int .i64 0, .int .i64 0, .int .i64 0, .int .i64 0] 41)).drew := ((boxC _ _).alloc (by simp) _).drew
  have RE := hide R0.drew
  have RZ := hide R1.drew
  have BW := hide b0
  have H0 := hide (intsK.rb h0 b0)
  have S0 : Hid (x0.length ≤ 2097152) := s0
  have H3 := hide (opsK.rb h3 b0)
  have S3 : Hid (x3.length ≤ 2097152) := s3
  clear R0 R1 b0 h0 s0 h3 s3
  go_enter Try.func45, Try.ntmps45
  go_wp2_with fail
  refine (wpIn_wide (n := 0)).1 ?_
  refine PhaseIn.region (S := Rec w.heap.size [.slice q0 x0.length c0, .int .i64 a1, .int .i64 a2, .slice q3 x3.length c3, .int .i64 a4, .int .i64 a5, .int .i64 a6, .int .i64 a7]) 8 (by kernel_rfl) ?_
  generalize ((w.alloc (.cells #[.slice q0 x0.length c0, .int .i64 a1, .int .i64 a2, .slice q3 x3.length c3, .int .i64 a4, .int .i64 a5, .int .i64 a6, .int .i64 a7] 41)).alloc (.cells #[.slice none 0 0, .int .i64 0, .int .i64 0, .slice none 0 0, .int .i64 0, .int .i64 0, .int .i64 0, .int .i64 0] 41)).drew = d9 at RE RZ BW H0 H3 ⊢
  have hHeld := RE.out
  have LD : Hid (w.heap.size + 1 < d9.heap.size) := RZ.out.lt
  refine PhaseIn.takeD (i := 1) (v := ?_) [1, 2, 3, 6, 7, 8] 4 rfl (by rfl) (by kernel_rfl) (by kernel_rfl) (by kernel_rfl) (by kernel_rfl) (by kernel_rfl) (fun _ _ _ h => h) (Or.inl ⟨by kernel_rfl, ?_⟩) hHeld ?_
  rotate_left
  · intro w' hSw
    (try dsimp only at hSw)
    go_simp
    first | done | with_reducible rfl
  try simp only [Act.put, List.setIfInBounds_toArray, List.set]
  refine PhaseIn.takeD (i := 2) (v := ?_) [2, 3, 6, 7, 8] 5 rfl (by rfl) (by kernel_rfl) (by kernel_rfl) (by kernel_rfl) (by kernel_rfl) (by kernel_rfl) (fun _ _ _ h => h) (Or.inl ⟨by kernel_rfl, ?_⟩) hHeld ?_
  rotate_left
  · intro w' hSw
    (try dsimp only at hSw)
    have z0 := hSw.cell 0 _ rfl; have z1 := hSw.cell 1 _ rfl; have z2 := hSw.cell 2 _ rfl; have z3 := hSw.cell 3 _ rfl; have z4 := hSw.cell 4 _ rfl; have z5 := hSw.cell 5 _ rfl; have z6 := hSw.cell 6 _ rfl; have z7 := hSw.cell 7 _ rfl
    go_simp
    first | done | with_reducible rfl
  try simp only [Act.put, List.setIfInBounds_toArray, List.set]
  refine PhaseIn.takeD (i := 4) (v := ?_) [4, 5, 6, 7, 8] 7 rfl (by rfl) (by kernel_rfl) (by kernel_rfl) (by kernel_rfl) (by kernel_rfl) (by kernel_rfl) (fun _ _ _ h => h) (Or.inl ⟨by kernel_rfl, ?_⟩) hHeld ?_
  rotate_left
  · intro w' hSw
    (try dsimp only at hSw)
    go_simp
    first | done | with_reducible rfl
  try simp only [Act.put, List.setIfInBounds_toArray, List.set]
  refine PhaseIn.takeD (i := 5) (v := ?_) [5, 6, 7, 8] 8 rfl (by rfl) (by kernel_rfl) (by kernel_rfl) (by kernel_rfl) (by kernel_rfl) (by kernel_rfl) (fun _ _ _ h => h) (Or.inl ⟨by kernel_rfl, ?_⟩) hHeld ?_
  rotate_left
  · intro w' hSw
    (try dsimp only at hSw)
    have z0 := hSw.cell 0 _ rfl; have z1 := hSw.cell 1 _ rfl; have z2 := hSw.cell 2 _ rfl; have z3 := hSw.cell 3 _ rfl; have z4 := hSw.cell 4 _ rfl; have z5 := hSw.cell 5 _ rfl; have z6 := hSw.cell 6 _ rfl; have z7 := hSw.cell 7 _ rfl
    go_simp
    first | done | with_reducible rfl
  try simp only [Act.put, List.setIfInBounds_toArray, List.set]
  have HB0 := H0
  have HB3 := H3
  have hb : Below d9.heap.size d9 (d9.alloc (.cells #[] 3)) := boxC _ _
  have HG := hide (Op.heap_last (v := d9) (o := .cells #[] 3) rfl)
  refine PhaseIn.one (i := 0) (by kernel_rfl) rfl (by kernel_rfl) (fun K hK => ?_)
  unfold Oper.wpIn
  refine ⟨fun _ _ => trivial, ?_⟩
  go_simp
  refine hK _ _ (fun _ => hHeld.below hb) ?_
  clear hK K
  try simp only [Act.put, List.setIfInBounds_toArray, List.set]
  obtain ⟨u0, e0⟩ : ∃ z, d9.alloc (.cells #[] 3) = z := ⟨_, rfl⟩
  rw [e0] at hb HG ⊢
  clear e0
  replace hHeld := hHeld.below hb
  replace RE := hide (RE.out.below hb)
  replace RZ := hide (RZ.out.below hb)
  replace BW := hide (BW.out.trans (hb.mono BW.out.size))
  have Zu0 : Hid (d9.heap.size ≤ u0.heap.size) := hb.size
  replace H0 := hide (intsK.rb H0.out hb)
  replace H3 := hide (opsK.rb H3.out hb)
  have B0 := hide hb
  clear hb
  obtain ⟨v0, u3, hrun, OW, hb, g0, d0, ev⟩ := run_copyI (ty := 29) d9.heap.size HG.out x0 _ H0.out (by have := S0.out; omega)
  subst ev
  have W0 : Hid (intsK.ow u3 (fun b => d9.heap.size ≤ b ∧ b < u3.heap.size) (.slice g0 x0.length d0) x0) := OW
  refine PhaseIn.one (i := 3) (by kernel_rfl) rfl (by kernel_rfl) (fun K hK => ?_)
  refine Push.push_in _ _ rfl rfl rfl hrun (hK _ _ (fun _ => hHeld.turn hb (by have := LD.out; omega)) ?_)
  clear hK K hrun OW HG
  try simp only [Act.put, List.setIfInBounds_toArray, List.set]
  replace hHeld := hHeld.turn hb (by have := LD.out; omega)
  replace RE := hide (RE.out.turn hb (by have := LD.out; omega))
  replace RZ := hide (RZ.out.turn hb (by have := LD.out; omega))
  replace BW := hide (BW.out.trans (hb.below (by have := LD.out; omega) (by have := BW.out.size; have := LD.out; have := Zu0.out; omega)))
  have Zu3 : Hid (u0.heap.size ≤ u3.heap.size) := hb.size
  replace H3 := hide (opsK.rb HB3.out (B0.out.trans (hb.below (Nat.le_refl _) B0.out.size)))
  clear hb B0 HB0 HB3
  refine PhaseIn.one (i := 6) (by kernel_rfl) rfl (by kernel_rfl) (fun K hK => ?_)
  unfold Oper.wpIn
  refine ⟨fun _ _ => trivial, ?_⟩
  go_simp
  refine ⟨rfl, (callsIn_wide.2 (l6CopyK a1 a2 x3 a4 a5 a6 a7 _ _ _ H3.out S3.out)).mono ?_⟩
  rintro e u6 ⟨g3, d3, rfl, WW, hb⟩
  refine hK _ _ (fun _ => hHeld.below hb) ?_
  have W3 : Hid (opsK.ow u6 (fun b => u3.heap.size ≤ b ∧ b < u6.heap.size) (.slice g3 x3.length d3) x3) := WW
  clear hK K WW
  try simp only [Act.put, List.setIfInBounds_toArray, List.set]
  replace hHeld := hHeld.below hb
  replace RE := hide (RE.out.below hb)
  replace RZ := hide (RZ.out.below hb)
  replace BW := hide (BW.out.trans (hb.mono BW.out.size))
  have Zu6 : Hid (u3.heap.size ≤ u6.heap.size) := hb.size
  replace W0 := hide (intsK.ob W0.out hb)
  clear hb
  refine PhaseIn.takeD (i := 7) (v := ?_) [7, 8] 10 rfl (by rfl) (by kernel_rfl) (by kernel_rfl) (by kernel_rfl) (by kernel_rfl) (by kernel_rfl) (fun _ _ _ h => h) (Or.inl ⟨by kernel_rfl, ?_⟩) hHeld ?_
  rotate_left
  · intro w' hSw
    (try dsimp only at hSw)
    go_simp
    first | done | with_reducible rfl
  try simp only [Act.put, List.setIfInBounds_toArray, List.set]
  refine PhaseIn.one (i := 8) (by kernel_rfl) rfl (by kernel_rfl) (fun K hK => ?_)
  refine layInCacEntry _ _ rfl (w.heap.size + 1) _ _ _ _ _ _ _ _ RZ.out rfl _ _ _ _ _ _ _ _ _ _ _ _ rfl ?_
  intro p1 RX TX
  refine hK _ _ (fun h => absurd h (by omega)) ?_
  clear hK K hHeld
  try simp only [Act.put, List.setIfInBounds_toArray, List.set]
  refine PhaseIn.done (by kernel_rfl) ?_ _
  have FIN := hide (cacR_omk (A := New w p1) (x0 := x0) (a1 := a1) (a2 := a2) (x3 := x3) (a4 := a4) (a5 := a5) (a6 := a6) (a7 := a7) (intsK.ot W0.out TX.out (fun hb => by have := hb.1; have := LD.out; have := Zu0.out; have := Zu3.out; have := Zu6.out; omega)) (opsK.ot W3.out TX.out (fun hb => by have := hb.1; have := LD.out; have := Zu0.out; have := Zu3.out; have := Zu6.out; omega)) (fun b hb => ⟨by have := hb.1; have := LD.out; have := Zu0.out; have := Zu3.out; have := Zu6.out; omega, by have := hb.2; have := TX.out.size; have := LD.out; have := Zu0.out; have := Zu3.out; have := Zu6.out; omega⟩) (fun b hb => ⟨by have := hb.1; have := LD.out; have := Zu0.out; have := Zu3.out; have := Zu6.out; omega, by have := hb.2; have := TX.out.size; have := LD.out; have := Zu0.out; have := Zu3.out; have := Zu6.out; omega⟩) (fun b h h' => by have := h.1; have := h.2; have := h'.1; have := h'.2; have := LD.out; have := Zu0.out; have := Zu3.out; have := Zu6.out; omega))
  replace BW := hide (BW.out.trans (TX.out.below (by omega) (by have := BW.out.size; have := LD.out; have := Zu0.out; have := Zu3.out; have := Zu6.out; omega)))
  clear TX RE RZ LD Zu0 Zu3 Zu6 W0 W3
  have y0 := RX.out.cell 0 _ rfl
  have y1 := RX.out.cell 1 _ rfl
  have y2 := RX.out.cell 2 _ rfl
  have y3 := RX.out.cell 3 _ rfl
  have y4 := RX.out.cell 4 _ rfl
  have y5 := RX.out.cell 5 _ rfl
  have y6 := RX.out.cell 6 _ rfl
  have y7 := RX.out.cell 7 _ rfl
  go_wp2
  exact bodyPost_ret (v := .agg #[.slice g0 x0.length d0, .int .i64 a1, .int .i64 a2, .slice g3 x3.length d3, .int .i64 a4, .int .i64 a5, .int .i64 a6, .int .i64 a7]) (by simp [results, Try.results45, go_sem, y0, y1, y2, y3, y4, y5, y6, y7]) rfl ⟨_, _, _, _, rfl, FIN.out, BW.out⟩
end Go.Proofs.Ythlpndligadnjaa.Dt
