/-
  Plain data: what a piece of code does, by kinds.
-/
import Derived.Test.YtclccaigkcilcaaDtE
namespace Go.Proofs.Ytclccaigkcilcaa.Dt
set_option linter.unusedVariables false
set_option linter.unusedSimpArgs false
open Go.ChangeShapes Go.WideShapes Go.ChangeAt Go.RowKit IntS Pol
def symR : Rw (List (Int × Int × List Mono × List Mono × List (List Mono)) × List (List Mono) × Int × List Mono × List Mono × Int) := sub evsK (sub sumsK (keepi (sub polyK (sub polyK (keepleaf)))))
theorem symR_rd {w : World} {cs : List Value} {x0 : List (Int × Int × List Mono × List Mono × List (List Mono))} {x1 : List (List Mono)} {a2 : Int} {x3 : List Mono} {x4 : List Mono} {a5 : Int} (h : symR.rd w cs (x0, x1, a2, x3, x4, a5)) : ∃ (q0 : Option Addr) (c0 : Nat) (q1 : Option Addr) (c1 : Nat) (q3 : Option Addr) (c3 : Nat) (q4 : Option Addr) (c4 : Nat), cs = [.slice q0 x0.length c0, .slice q1 x1.length c1, .int .i64 a2, .slice q3 x3.length c3, .slice q4 x4.length c4, .int .i64 a5] ∧ evsK.rd w (.slice q0 x0.length c0) x0 ∧ sumsK.rd w (.slice q1 x1.length c1) x1 ∧ polyK.rd w (.slice q3 x3.length c3) x3 ∧ polyK.rd w (.slice q4 x4.length c4) x4 := by
  obtain ⟨v0, vs0, e0, k0, h0⟩ := h
  obtain ⟨v1, vs1, e1, k1, h1⟩ := h0
  obtain ⟨vs2, e2, h2⟩ := h1
  obtain ⟨v3, vs3, e3, k3, h3⟩ := h2
  obtain ⟨v4, vs4, e4, k4, h4⟩ := h3
  have e5 : vs4 = _ := h4
  obtain ⟨q0, c0, f0, _, _⟩ := LRd.form k0
  subst f0
  obtain ⟨q1, c1, f1, _, _⟩ := LRd.form k1
  subst f1
  obtain ⟨q3, c3, f3, _, _⟩ := LRd.form k3
  subst f3
  obtain ⟨q4, c4, f4, _, _⟩ := LRd.form k4
  subst f4
  subst e5
  subst e4
  subst e3
  subst e2
  subst e1
  subst e0
  exact ⟨q0, c0, q1, c1, q3, c3, q4, c4, rfl, k0, k1, k3, k4⟩
theorem symR_mk {w : World} {x0 : List (Int × Int × List Mono × List Mono × List (List Mono))} {x1 : List (List Mono)} {a2 : Int} {x3 : List Mono} {x4 : List Mono} {a5 : Int} {v0 : Value} (k0 : evsK.rd w v0 x0) {v1 : Value} (k1 : sumsK.rd w v1 x1) {v3 : Value} (k3 : polyK.rd w v3 x3) {v4 : Value} (k4 : polyK.rd w v4 x4) : symR.rd w [v0, v1, .int .i64 a2, v3, v4, .int .i64 a5] (x0, x1, a2, x3, x4, a5) := ⟨_, _, rfl, k0, ⟨_, _, rfl, k1, ⟨_, rfl, ⟨_, _, rfl, k3, ⟨_, _, rfl, k4, rfl⟩⟩⟩⟩⟩
theorem symR_own {w : World} {A : Nat → Prop} {cs : List Value} {x0 : List (Int × Int × List Mono × List Mono × List (List Mono))} {x1 : List (List Mono)} {a2 : Int} {x3 : List Mono} {x4 : List Mono} {a5 : Int} (h : symR.ow w A cs (x0, x1, a2, x3, x4, a5)) : ∃ (q0 : Option Addr) (c0 : Nat) (q1 : Option Addr) (c1 : Nat) (q3 : Option Addr) (c3 : Nat) (q4 : Option Addr) (c4 : Nat) (A0 : Nat → Prop) (A1 : Nat → Prop) (A3 : Nat → Prop) (A4 : Nat → Prop), cs = [.slice q0 x0.length c0, .slice q1 x1.length c1, .int .i64 a2, .slice q3 x3.length c3, .slice q4 x4.length c4, .int .i64 a5] ∧ evsK.ow w A0 (.slice q0 x0.length c0) x0 ∧ sumsK.ow w A1 (.slice q1 x1.length c1) x1 ∧ polyK.ow w A3 (.slice q3 x3.length c3) x3 ∧ polyK.ow w A4 (.slice q4 x4.length c4) x4 ∧ (∀ b, A0 b → A b) ∧ (∀ b, A1 b → A b) ∧ (∀ b, A3 b → A b) ∧ (∀ b, A4 b → A b) ∧ (∀ b, A0 b → A1 b → False) ∧ (∀ b, A0 b → A3 b → False) ∧ (∀ b, A0 b → A4 b → False) ∧ (∀ b, A1 b → A3 b → False) ∧ (∀ b, A1 b → A4 b → False) ∧ (∀ b, A3 b → A4 b → False) := by
  obtain ⟨v0, vs0, A0, B0, e0, s0, t0, d0, k0, h0⟩ := h
  obtain ⟨v1, vs1, A1, B1, e1, s1, t1, d1, k1, h1⟩ := h0
  obtain ⟨vs2, e2, h2⟩ := h1
  obtain ⟨v3, vs3, A3, B3, e3, s3, t3, d3, k3, h3⟩ := h2
  obtain ⟨v4, vs4, A4, B4, e4, s4, t4, d4, k4, h4⟩ := h3
  have e5 : vs4 = _ := h4
  obtain ⟨q0, c0, f0, _, _⟩ := LRd.form (evsK.od k0)
  subst f0
  obtain ⟨q1, c1, f1, _, _⟩ := LRd.form (sumsK.od k1)
  subst f1
  obtain ⟨q3, c3, f3, _, _⟩ := LRd.form (polyK.od k3)
  subst f3
  obtain ⟨q4, c4, f4, _, _⟩ := LRd.form (polyK.od k4)
  subst f4
  subst e5
  subst e4
  subst e3
  subst e2
  subst e1
  subst e0
  exact ⟨q0, c0, q1, c1, q3, c3, q4, c4, A0, A1, A3, A4, rfl, k0, k1, k3, k4, (fun b hb => s0 b (hb)), (fun b hb => t0 b (s1 b (hb))), (fun b hb => t0 b (t1 b (s3 b (hb)))), (fun b hb => t0 b (t1 b (t3 b (s4 b (hb))))), (fun b h1 h2 => d0 b h1 (s1 b (h2))), (fun b h1 h2 => d0 b h1 (t1 b (s3 b (h2)))), (fun b h1 h2 => d0 b h1 (t1 b (t3 b (s4 b (h2))))), (fun b h1 h2 => d1 b h1 (s3 b (h2))), (fun b h1 h2 => d1 b h1 (t3 b (s4 b (h2)))), (fun b h1 h2 => d3 b h1 (s4 b (h2)))⟩
theorem symR_omk {w : World} {A : Nat → Prop} {x0 : List (Int × Int × List Mono × List Mono × List (List Mono))} {x1 : List (List Mono)} {a2 : Int} {x3 : List Mono} {x4 : List Mono} {a5 : Int} {v0 : Value} {A0 : Nat → Prop} (k0 : evsK.ow w A0 v0 x0) {v1 : Value} {A1 : Nat → Prop} (k1 : sumsK.ow w A1 v1 x1) {v3 : Value} {A3 : Nat → Prop} (k3 : polyK.ow w A3 v3 x3) {v4 : Value} {A4 : Nat → Prop} (k4 : polyK.ow w A4 v4 x4) (s0 : ∀ b, A0 b → A b) (s1 : ∀ b, A1 b → A b) (s3 : ∀ b, A3 b → A b) (s4 : ∀ b, A4 b → A b) (d0_1 : ∀ b, A0 b → A1 b → False) (d0_3 : ∀ b, A0 b → A3 b → False) (d0_4 : ∀ b, A0 b → A4 b → False) (d1_3 : ∀ b, A1 b → A3 b → False) (d1_4 : ∀ b, A1 b → A4 b → False) (d3_4 : ∀ b, A3 b → A4 b → False) : symR.ow w A [v0, v1, .int .i64 a2, v3, v4, .int .i64 a5] (x0, x1, a2, x3, x4, a5) := ⟨_, _, A0, (fun b => A1 b ∨ A3 b ∨ A4 b), rfl, s0, (fun b hb => by
    rcases hb with hb | hb | hb
    · exact s1 b hb
    · exact s3 b hb
    · exact s4 b hb), (fun b h1 hb => by
    rcases hb with hb | hb | hb
    · exact d0_1 b h1 hb
    · exact d0_3 b h1 hb
    · exact d0_4 b h1 hb), k0, ⟨_, _, A1, (fun b => A3 b ∨ A4 b), rfl, (fun b hb => Or.inl hb), (fun b hb => Or.inr hb), (fun b h1 hb => by
    rcases hb with hb | hb
    · exact d1_3 b h1 hb
    · exact d1_4 b h1 hb), k1, ⟨_, rfl, ⟨_, _, A3, (fun b => A4 b), rfl, (fun b hb => Or.inl hb), (fun b hb => Or.inr hb), (fun b h1 hb => d3_4 b h1 hb), k3, ⟨_, _, A4, (fun _ => False), rfl, (fun b hb => hb), (fun _ h => h.elim), (fun _ _ h => h), k4, rfl⟩⟩⟩⟩⟩
theorem symR_sz {x0 : List (Int × Int × List Mono × List Mono × List (List Mono))} {x1 : List (List Mono)} {a2 : Int} {x3 : List Mono} {x4 : List Mono} {a5 : Int} : symR.sz (x0, x1, a2, x3, x4, a5) = evsK.sz x0 + (sumsK.sz x1 + (polyK.sz x3 + (polyK.sz x4 + (0)))) := rfl
set_option maxRecDepth 8000 in
set_option maxHeartbeats 4000000 in
theorem szSymSym (x0 : List (Int × Int × List Mono × List Mono × List (List Mono))) (x1 : List (List Mono)) (a2 : Int) (x3 : List Mono) (x4 : List Mono) (a5 : Int) (cs : List Value) (left : Int) (w : World) (h : symR.rd w cs (x0, x1, a2, x3, x4, a5)) (h0 : 0 ≤ left) (h1 : left ≤ 1048576) :
    Calls Try.prog 5 #[.agg cs.toArray, .int .i64 left] w fun e w' => ∃ r : Int, e = .returned (.int .i64 r) ∧ -1 ≤ r ∧ (0 ≤ r → r = left - (symR.sz (x0, x1, a2, x3, x4, a5) : Nat)) ∧ Below w.heap.size w w' := by
  obtain ⟨q0, c0, q1, c1, q3, c3, q4, c4, rfl, k0, k1, k3, k4⟩ := symR_rd h
  have SZ := hide (symR_sz (x0 := x0) (x1 := x1) (a2 := a2) (x3 := x3) (x4 := x4) (a5 := a5))
  obtain ⟨Z, eZ⟩ : ∃ Z, symR.sz (x0, x1, a2, x3, x4, a5) = Z := ⟨_, rfl⟩
  rw [eZ] at SZ ⊢
  have bV : Below w.heap.size w (w.alloc (.cells #[.slice q0 x0.length c0, .slice q1 x1.length c1, .int .i64 a2, .slice q3 x3.length c3, .slice q4 x4.length c4, .int .i64 a5] 28)) := (Below.refl _ _).alloc (Nat.le_refl _) _
  have RR := hide (Rec.new w [.slice q0 x0.length c0, .slice q1 x1.length c1, .int .i64 a2, .slice q3 x3.length c3, .slice q4 x4.length c4, .int .i64 a5] 28)
  have H0 := hide (evsK.rb k0 bV)
  have H1 := hide (sumsK.rb k1 bV)
  have H3 := hide (polyK.rb k3 bV)
  have H4 := hide (polyK.rb k4 bV)
  have BW := hide bV
  clear bV h eZ k0 k1 k3 k4
  go_enter Try.func5, Try.ntmps5
  go_wp2_with fail
  refine (szSymEventS x0 _ left _ H0.out h0 h1).mono ?_
  rintro e u0 ⟨r0, rfl, p0, g0, hb⟩
  have G0 : Hid (0 ≤ r0 → r0 = left - (evsK.sz x0 : Nat)) := g0
  replace RR := hide (RR.out.below hb)
  replace BW := hide (BW.out.trans (hb.mono BW.out.size))
  replace H1 := hide (sumsK.rb H1.out hb)
  replace H3 := hide (polyK.rb H3.out hb)
  replace H4 := hide (polyK.rb H4.out hb)
  clear g0 hb
  by_cases hs0 : r0 < 0
  · go_wp2
    go_ret
    exact ⟨-1, rfl, by omega, fun h => by omega, BW.out⟩
  have m0 : 0 ≤ r0 := by omega
  have b0 : r0 ≤ 1048576 := by have := G0.out m0; omega
  have z1 := RR.out.cell 1 _ rfl
  go_wp2_with fail
  refine (szTrmPolyS x1 _ r0 _ H1.out m0 b0).mono ?_
  rintro e u1 ⟨r1, rfl, p1, g1, hb⟩
  have G1 : Hid (0 ≤ r1 → r1 = r0 - (sumsK.sz x1 : Nat)) := g1
  replace RR := hide (RR.out.below hb)
  replace BW := hide (BW.out.trans (hb.mono BW.out.size))
  replace H3 := hide (polyK.rb H3.out hb)
  replace H4 := hide (polyK.rb H4.out hb)
  clear g1 hb z1
  by_cases hs1 : r1 < 0
  · go_wp2
    go_ret
    exact ⟨-1, rfl, by omega, fun h => by omega, BW.out⟩
  have m1 : 0 ≤ r1 := by omega
  have b1 : r1 ≤ 1048576 := by have := G1.out m1; omega
  have z3 := RR.out.cell 3 _ rfl
  go_wp2_with fail
  refine (szTrmPoly x3 _ r1 _ (polyR_mk H3.out) m1 b1).mono ?_
  rintro e u3 ⟨r3, rfl, p3, g3, hb⟩
  have G3 : Hid (0 ≤ r3 → r3 = r1 - (polyK.sz x3 : Nat)) := g3
  replace RR := hide (RR.out.below hb)
  replace BW := hide (BW.out.trans (hb.mono BW.out.size))
  replace H4 := hide (polyK.rb H4.out hb)
  clear g3 hb z3
  by_cases hs3 : r3 < 0
  · go_wp2
    go_ret
    exact ⟨-1, rfl, by omega, fun h => by omega, BW.out⟩
  have m3 : 0 ≤ r3 := by omega
  have b3 : r3 ≤ 1048576 := by have := G3.out m3; omega
  have z4 := RR.out.cell 4 _ rfl
  go_wp2_with fail
  refine (szTrmPoly x4 _ r3 _ (polyR_mk H4.out) m3 b3).mono ?_
  rintro e u4 ⟨r4, rfl, p4, g4, hb⟩
  have G4 : Hid (0 ≤ r4 → r4 = r3 - (polyK.sz x4 : Nat)) := g4
  replace RR := hide (RR.out.below hb)
  replace BW := hide (BW.out.trans (hb.mono BW.out.size))
  clear g4 hb z4
  by_cases hs4 : r4 < 0
  · go_wp2
    go_ret
    exact ⟨-1, rfl, by omega, fun h => by omega, BW.out⟩
  have m4 : 0 ≤ r4 := by omega
  have b4 : r4 ≤ 1048576 := by have := G4.out m4; omega
  go_wp2
  go_ret
  exact ⟨r4, rfl, by omega, fun h => by have := SZ.out; have := G0.out m0; have := G1.out m1; have := G3.out m3; have := G4.out m4; omega, BW.out⟩
set_option maxRecDepth 8000 in
set_option maxHeartbeats 4000000 in
theorem laySymSym {w : World} {ops : Array Oper} {rest : List Oper} {o : Oper} {a : Act} {Q : Exit → Act → World → Prop} (hgd : o.guard = none) (hds : o.dst = none) (x y : Operand) (ho : o.op = .store 37 x y)
    (Z : Nat) (y0 : Value) (y1 : Value) (y2 : Value) (y3 : Value) (y4 : Value) (y5 : Value) (hB : Rec Z [y0, y1, y2, y3, y4, y5] w) (hx : a.eval x = .pointer (some ⟨Z, 0, none⟩)) (q0 : Option Addr) (n0 c0 : Nat) (q1 : Option Addr) (n1 c1 : Nat) (a2 : Int) (q3 : Option Addr) (n3 c3 : Nat) (q4 : Option Addr) (n4 c4 : Nat) (a5 : Int) (hy : a.eval y = .agg #[.slice q0 n0 c0, .slice q1 n1 c1, .int .i64 a2, .slice q3 n3 c3, .slice q4 n4 c4, .int .i64 a5])
    (h : ∀ w' : World, Hid (Rec Z [.slice q0 n0 c0, .slice q1 n1 c1, .int .i64 a2, .slice q3 n3 c3, .slice q4 n4 c4, .int .i64 a5] w') → Hid (Turn Z w w') → wpList Try.prog ops Q rest a w') :
    wpList Try.prog ops Q (o :: rest) a w := by
  refine wpList_plain hgd fun K hK => ?_
  have z0 := hB.cell 0 _ rfl
  have s0 := hB.soft 0
  have z1 := hB.cell 1 _ rfl
  have s1 := hB.soft 1
  have z2 := hB.cell 2 _ rfl
  have s2 := hB.soft 2
  have z3 := hB.cell 3 _ rfl
  have s3 := hB.soft 3
  have z4 := hB.cell 4 _ rfl
  have s4 := hB.soft 4
  have z5 := hB.cell 5 _ rfl
  have s5 := hB.soft 5
  have key := hK _ _ (h _ ((((((hB.set 0 (.slice q0 n0 c0) (by simp) (show _ = ([.slice q0 n0 c0, y1, y2, y3, y4, y5] : List Value) from rfl)).set 1 (.slice q1 n1 c1) (by simp) (show _ = ([.slice q0 n0 c0, .slice q1 n1 c1, y2, y3, y4, y5] : List Value) from rfl)).set 2 (.int .i64 a2) (by simp) (show _ = ([.slice q0 n0 c0, .slice q1 n1 c1, .int .i64 a2, y3, y4, y5] : List Value) from rfl)).set 3 (.slice q3 n3 c3) (by simp) (show _ = ([.slice q0 n0 c0, .slice q1 n1 c1, .int .i64 a2, .slice q3 n3 c3, y4, y5] : List Value) from rfl)).set 4 (.slice q4 n4 c4) (by simp) (show _ = ([.slice q0 n0 c0, .slice q1 n1 c1, .int .i64 a2, .slice q3 n3 c3, .slice q4 n4 c4, y5] : List Value) from rfl)).set 5 (.int .i64 a5) (by simp) (show _ = ([.slice q0 n0 c0, .slice q1 n1 c1, .int .i64 a2, .slice q3 n3 c3, .slice q4 n4 c4, .int .i64 a5] : List Value) from rfl)) (((((((Turn.refl Z w).setCell (p := ⟨Z, 0, none⟩) rfl (.slice q0 n0 c0)).setCell (p := ⟨Z, 1, none⟩) rfl (.slice q1 n1 c1)).setCell (p := ⟨Z, 2, none⟩) rfl (.int .i64 a2)).setCell (p := ⟨Z, 3, none⟩) rfl (.slice q3 n3 c3)).setCell (p := ⟨Z, 4, none⟩) rfl (.slice q4 n4 c4)).setCell (p := ⟨Z, 5, none⟩) rfl (.int .i64 a5)))
  obtain ⟨dst, op, ty, pos, aft, gd⟩ := o
  simp only [] at hgd hds ho
  subst hgd hds ho
  clear h hK
  unfold Oper.wp
  simp only [execOp, hx, hy]
  go_simp
  exact key
set_option maxRecDepth 8000 in
set_option maxHeartbeats 4000000 in
theorem putSymSym_0 {w : World} {ops : Array Oper} {rest : List Oper} {o : Oper} {a : Act} {Q : Exit → Act → World → Prop} (hgd : o.guard = none) (hds : o.dst = none) (x y : Operand) (ho : o.op = .store 31 x y)
    (Z i : Nat) (cs : List Value) (hB : Rec Z cs w) (hi : i < cs.length) (hx : a.eval x = .pointer (some ⟨Z, i, none⟩)) (q : Option Addr) (n c : Nat) (hy : a.eval y = .slice q n c)
    (h : ∀ w' : World, Hid (Rec Z (cs.set i (.slice q n c)) w') → Hid (Turn Z w w') → wpList Try.prog ops Q rest a w') :
    wpList Try.prog ops Q (o :: rest) a w := by
  refine wpList_plain hgd fun K hK => ?_
  have z0 := hB.cell i _ (List.getElem?_eq_getElem hi)
  have y0 := hB.soft i
  have key := hK _ _ (h _ (hB.set i (.slice q n c) hi rfl) ((Turn.refl Z w).setCell (p := ⟨Z, i, none⟩) rfl _))
  obtain ⟨dst, op, ty, pos, aft, gd⟩ := o
  simp only [] at hgd hds ho
  subst hgd hds ho
  clear h hK
  unfold Oper.wp
  simp only [execOp, hx, hy]
  go_simp
  exact key
set_option maxRecDepth 8000 in
set_option maxHeartbeats 4000000 in
theorem putSymSym_1 {w : World} {ops : Array Oper} {rest : List Oper} {o : Oper} {a : Act} {Q : Exit → Act → World → Prop} (hgd : o.guard = none) (hds : o.dst = none) (x y : Operand) (ho : o.op = .store 32 x y)
    (Z i : Nat) (cs : List Value) (hB : Rec Z cs w) (hi : i < cs.length) (hx : a.eval x = .pointer (some ⟨Z, i, none⟩)) (q : Option Addr) (n c : Nat) (hy : a.eval y = .slice q n c)
    (h : ∀ w' : World, Hid (Rec Z (cs.set i (.slice q n c)) w') → Hid (Turn Z w w') → wpList Try.prog ops Q rest a w') :
    wpList Try.prog ops Q (o :: rest) a w := by
  refine wpList_plain hgd fun K hK => ?_
  have z0 := hB.cell i _ (List.getElem?_eq_getElem hi)
  have y0 := hB.soft i
  have key := hK _ _ (h _ (hB.set i (.slice q n c) hi rfl) ((Turn.refl Z w).setCell (p := ⟨Z, i, none⟩) rfl _))
  obtain ⟨dst, op, ty, pos, aft, gd⟩ := o
  simp only [] at hgd hds ho
  subst hgd hds ho
  clear h hK
  unfold Oper.wp
  simp only [execOp, hx, hy]
  go_simp
  exact key
set_option maxRecDepth 8000 in
set_option maxHeartbeats 4000000 in
theorem putSymSym_2 {w : World} {ops : Array Oper} {rest : List Oper} {o : Oper} {a : Act} {Q : Exit → Act → World → Prop} (hgd : o.guard = none) (hds : o.dst = none) (x y : Operand) (ho : o.op = .store 3 x y)
    (Z i : Nat) (cs : List Value) (hB : Rec Z cs w) (hi : i < cs.length) (hx : a.eval x = .pointer (some ⟨Z, i, none⟩)) (n : Int) (hy : a.eval y = .int .i64 n)
    (h : ∀ w' : World, Hid (Rec Z (cs.set i (.int .i64 n)) w') → Hid (Turn Z w w') → wpList Try.prog ops Q rest a w') :
    wpList Try.prog ops Q (o :: rest) a w := by
  refine wpList_plain hgd fun K hK => ?_
  have z0 := hB.cell i _ (List.getElem?_eq_getElem hi)
  have y0 := hB.soft i
  have key := hK _ _ (h _ (hB.set i (.int .i64 n) hi rfl) ((Turn.refl Z w).setCell (p := ⟨Z, i, none⟩) rfl _))
  obtain ⟨dst, op, ty, pos, aft, gd⟩ := o
  simp only [] at hgd hds ho
  subst hgd hds ho
  clear h hK
  unfold Oper.wp
  simp only [execOp, hx, hy]
  go_simp
  exact key
set_option maxRecDepth 8000 in
set_option maxHeartbeats 4000000 in
theorem putSymSym_3 {w : World} {ops : Array Oper} {rest : List Oper} {o : Oper} {a : Act} {Q : Exit → Act → World → Prop} (hgd : o.guard = none) (hds : o.dst = none) (x y : Operand) (ho : o.op = .store 35 x y)
    (Z i : Nat) (cs : List Value) (hB : Rec Z cs w) (hi : i < cs.length) (hx : a.eval x = .pointer (some ⟨Z, i, none⟩)) (q : Option Addr) (n c : Nat) (hy : a.eval y = .agg #[.slice q n c])
    (h : ∀ w' : World, Hid (Rec Z (cs.set i (.slice q n c)) w') → Hid (Turn Z w w') → wpList Try.prog ops Q rest a w') :
    wpList Try.prog ops Q (o :: rest) a w := by
  refine wpList_plain hgd fun K hK => ?_
  have z0 := hB.cell i _ (List.getElem?_eq_getElem hi)
  have y0 := hB.soft i
  have key := hK _ _ (h _ (hB.set i (.slice q n c) hi rfl) ((Turn.refl Z w).setCell (p := ⟨Z, i, none⟩) rfl _))
  obtain ⟨dst, op, ty, pos, aft, gd⟩ := o
  simp only [] at hgd hds ho
  subst hgd hds ho
  clear h hK
  unfold Oper.wp
  simp only [execOp, hx, hy]
  go_simp
  exact key
set_option maxRecDepth 8000 in
set_option maxHeartbeats 8000000 in
theorem toSymSym (x0 : List (Int × Int × List Mono × List Mono × List (List Mono))) (x1 : List (List Mono)) (a2 : Int) (x3 : List Mono) (x4 : List Mono) (a5 : Int) (cs : List Value) (w : World) (h : symR.rd w cs (x0, x1, a2, x3, x4, a5)) (hs : symR.sz (x0, x1, a2, x3, x4, a5) ≤ 1048576) :
    Calls Try.prog 7 #[.agg cs.toArray] w fun e w' => ∃ g0 g1 g3 g4, e = .returned (.agg #[.slice (some ⟨g0, 0, none⟩) x0.length x0.length, .slice (some ⟨g1, 0, none⟩) x1.length x1.length, .int .i64 a2, .slice (some ⟨g3, 0, none⟩) x3.length x3.length, .slice (some ⟨g4, 0, none⟩) x4.length x4.length, .int .i64 a5]) ∧ symR.ow w' (New w w') [.slice (some ⟨g0, 0, none⟩) x0.length x0.length, .slice (some ⟨g1, 0, none⟩) x1.length x1.length, .int .i64 a2, .slice (some ⟨g3, 0, none⟩) x3.length x3.length, .slice (some ⟨g4, 0, none⟩) x4.length x4.length, .int .i64 a5] (x0, x1, a2, x3, x4, a5) ∧ Below w.heap.size w w' := by
  obtain ⟨q0, c0, q1, c1, q3, c3, q4, c4, rfl, k0, k1, k3, k4⟩ := symR_rd h
  rw [symR_sz] at hs
  have T := hide (Three.new w [.slice q0 x0.length c0, .slice q1 x1.length c1, .int .i64 a2, .slice q3 x3.length c3, .slice q4 x4.length c4, .int .i64 a5] [.slice none 0 0, .slice none 0 0, .int .i64 0, .slice none 0 0, .slice none 0 0, .int .i64 0] [.slice none 0 0, .slice none 0 0, .int .i64 0, .slice none 0 0, .slice none 0 0, .int .i64 0] 28 37 37)
  have H0 := hide k0
  have S0 : Hid (evsK.sz x0 ≤ 1048576) := show _ ≤ _ by omega
  have H1 := hide k1
  have S1 : Hid (sumsK.sz x1 ≤ 1048576) := show _ ≤ _ by omega
  have H3 := hide k3
  have S3 : Hid (polyK.sz x3 ≤ 1048576) := show _ ≤ _ by omega
  have H4 := hide k4
  have S4 : Hid (polyK.sz x4 ≤ 1048576) := show _ ≤ _ by omega
  clear h hs k0 k1 k3 k4
  go_enter Try.func7, Try.ntmps7
  go_wp2_with fail
  generalize ((w.alloc (.cells #[.slice q0 x0.length c0, .slice q1 x1.length c1, .int .i64 a2, .slice q3 x3.length c3, .slice q4 x4.length c4, .int .i64 a5] 28)).alloc (.cells #[.slice none 0 0, .slice none 0 0, .int .i64 0, .slice none 0 0, .slice none 0 0, .int .i64 0] 37)).alloc (.cells #[.slice none 0 0, .slice none 0 0, .int .i64 0, .slice none 0 0, .slice none 0 0, .int .i64 0] 37) = c0 at T ⊢
  refine (toSymEventS x0 _ _ (evsK.rb H0.out T.out.bw) S0.out).mono ?_
  rintro e u0 ⟨g0, rfl, O0, hb⟩
  have W0 := hide O0
  clear O0
  have LO0 : Hid (w.heap.size + 1 + 1 < c0.heap.size) := T.out.o.lt
  have HI0 : Hid (u0.heap.size ≤ u0.heap.size) := Nat.le_refl _
  replace T := hide (T.out.below hb)
  clear hb H0 S0
  go_wp2_with (refine putSymSym_0 rfl rfl _ _ rfl (w.heap.size + 1 + 1) 0 _ T.out.o (by simp) rfl _ _ _ rfl ?_; intro v0 RB TB; refine Hid.out ?_)
  replace T := hide (three_fill T.out TB.out (O' := [.slice (some ⟨g0, 0, none⟩) x0.length x0.length, .slice none 0 0, .int .i64 0, .slice none 0 0, .slice none 0 0, .int .i64 0]) RB.out)
  replace W0 := hide (evsK.ot W0.out TB.out (fun q => by have := LO0.out; have := q.1; omega))
  replace HI0 : Hid (u0.heap.size ≤ v0.heap.size) := Nat.le_trans HI0.out TB.out.size
  clear RB TB
  refine hide ?_
  have ta1 := T.out.a.cell 1 _ rfl
  go_wp2_with fail
  refine (toTrmPolyS x1 _ _ (sumsK.rb H1.out T.out.bw) S1.out).mono ?_
  rintro e u1 ⟨g1, rfl, O1, hb⟩
  have W1 := hide O1
  clear O1
  have LO1 : Hid (w.heap.size + 1 + 1 < v0.heap.size) := T.out.o.lt
  have HI1 : Hid (u1.heap.size ≤ u1.heap.size) := Nat.le_refl _
  replace T := hide (T.out.below hb)
  have M0_1 := HI0
  replace W0 := hide (evsK.ob W0.out hb)
  replace HI0 : Hid (u0.heap.size ≤ u1.heap.size) := Nat.le_trans HI0.out hb.size
  clear hb H1 S1 ta1
  go_wp2_with (refine putSymSym_1 rfl rfl _ _ rfl (w.heap.size + 1 + 1) 1 _ T.out.o (by simp) rfl _ _ _ rfl ?_; intro v1 RB TB; refine Hid.out ?_)
  replace T := hide (three_fill T.out TB.out (O' := [.slice (some ⟨g0, 0, none⟩) x0.length x0.length, .slice (some ⟨g1, 0, none⟩) x1.length x1.length, .int .i64 0, .slice none 0 0, .slice none 0 0, .int .i64 0]) RB.out)
  replace W0 := hide (evsK.ot W0.out TB.out (fun q => by have := LO0.out; have := q.1; omega))
  replace HI0 : Hid (u0.heap.size ≤ v1.heap.size) := Nat.le_trans HI0.out TB.out.size
  replace W1 := hide (sumsK.ot W1.out TB.out (fun q => by have := LO1.out; have := q.1; omega))
  replace HI1 : Hid (u1.heap.size ≤ v1.heap.size) := Nat.le_trans HI1.out TB.out.size
  clear RB TB
  refine hide ?_
  have ta2 := T.out.a.cell 2 _ rfl
  go_wp2_with (refine putSymSym_2 rfl rfl _ _ rfl (w.heap.size + 1 + 1) 2 _ T.out.o (by simp) rfl _ rfl ?_; intro v2 RB TB; refine Hid.out ?_)
  replace T := hide (three_fill T.out TB.out (O' := [.slice (some ⟨g0, 0, none⟩) x0.length x0.length, .slice (some ⟨g1, 0, none⟩) x1.length x1.length, .int .i64 a2, .slice none 0 0, .slice none 0 0, .int .i64 0]) RB.out)
  replace W0 := hide (evsK.ot W0.out TB.out (fun q => by have := LO0.out; have := q.1; omega))
  replace HI0 : Hid (u0.heap.size ≤ v2.heap.size) := Nat.le_trans HI0.out TB.out.size
  replace W1 := hide (sumsK.ot W1.out TB.out (fun q => by have := LO1.out; have := q.1; omega))
  replace HI1 : Hid (u1.heap.size ≤ v2.heap.size) := Nat.le_trans HI1.out TB.out.size
  clear RB TB ta2
  refine hide ?_
  have ta3 := T.out.a.cell 3 _ rfl
  go_wp2_with fail
  refine (toTrmPoly x3 _ _ (polyR_mk (polyK.rb H3.out T.out.bw)) S3.out).mono ?_
  rintro e u3 ⟨g3, rfl, O3, hb⟩
  obtain ⟨_, e3, OO3⟩ := O3
  cases e3
  have W3 := hide OO3
  clear OO3
  have LO3 : Hid (w.heap.size + 1 + 1 < v2.heap.size) := T.out.o.lt
  have HI3 : Hid (u3.heap.size ≤ u3.heap.size) := Nat.le_refl _
  replace T := hide (T.out.below hb)
  have M0_3 := HI0
  replace W0 := hide (evsK.ob W0.out hb)
  replace HI0 : Hid (u0.heap.size ≤ u3.heap.size) := Nat.le_trans HI0.out hb.size
  have M1_3 := HI1
  replace W1 := hide (sumsK.ob W1.out hb)
  replace HI1 : Hid (u1.heap.size ≤ u3.heap.size) := Nat.le_trans HI1.out hb.size
  clear hb H3 S3 ta3
  go_wp2_with (refine putSymSym_3 rfl rfl _ _ rfl (w.heap.size + 1 + 1) 3 _ T.out.o (by simp) rfl _ _ _ rfl ?_; intro v3 RB TB; refine Hid.out ?_)
  replace T := hide (three_fill T.out TB.out (O' := [.slice (some ⟨g0, 0, none⟩) x0.length x0.length, .slice (some ⟨g1, 0, none⟩) x1.length x1.length, .int .i64 a2, .slice (some ⟨g3, 0, none⟩) x3.length x3.length, .slice none 0 0, .int .i64 0]) RB.out)
  replace W0 := hide (evsK.ot W0.out TB.out (fun q => by have := LO0.out; have := q.1; omega))
  replace HI0 : Hid (u0.heap.size ≤ v3.heap.size) := Nat.le_trans HI0.out TB.out.size
  replace W1 := hide (sumsK.ot W1.out TB.out (fun q => by have := LO1.out; have := q.1; omega))
  replace HI1 : Hid (u1.heap.size ≤ v3.heap.size) := Nat.le_trans HI1.out TB.out.size
  replace W3 := hide (polyK.ot W3.out TB.out (fun q => by have := LO3.out; have := q.1; omega))
  replace HI3 : Hid (u3.heap.size ≤ v3.heap.size) := Nat.le_trans HI3.out TB.out.size
  clear RB TB
  refine hide ?_
  have ta4 := T.out.a.cell 4 _ rfl
  go_wp2_with fail
  refine (toTrmPoly x4 _ _ (polyR_mk (polyK.rb H4.out T.out.bw)) S4.out).mono ?_
  rintro e u4 ⟨g4, rfl, O4, hb⟩
  obtain ⟨_, e4, OO4⟩ := O4
  cases e4
  have W4 := hide OO4
  clear OO4
  have LO4 : Hid (w.heap.size + 1 + 1 < v3.heap.size) := T.out.o.lt
  have HI4 : Hid (u4.heap.size ≤ u4.heap.size) := Nat.le_refl _
  replace T := hide (T.out.below hb)
  have M0_4 := HI0
  replace W0 := hide (evsK.ob W0.out hb)
  replace HI0 : Hid (u0.heap.size ≤ u4.heap.size) := Nat.le_trans HI0.out hb.size
  have M1_4 := HI1
  replace W1 := hide (sumsK.ob W1.out hb)
  replace HI1 : Hid (u1.heap.size ≤ u4.heap.size) := Nat.le_trans HI1.out hb.size
  have M3_4 := HI3
  replace W3 := hide (polyK.ob W3.out hb)
  replace HI3 : Hid (u3.heap.size ≤ u4.heap.size) := Nat.le_trans HI3.out hb.size
  clear hb H4 S4 ta4
  go_wp2_with (refine putSymSym_3 rfl rfl _ _ rfl (w.heap.size + 1 + 1) 4 _ T.out.o (by simp) rfl _ _ _ rfl ?_; intro v4 RB TB; refine Hid.out ?_)
  replace T := hide (three_fill T.out TB.out (O' := [.slice (some ⟨g0, 0, none⟩) x0.length x0.length, .slice (some ⟨g1, 0, none⟩) x1.length x1.length, .int .i64 a2, .slice (some ⟨g3, 0, none⟩) x3.length x3.length, .slice (some ⟨g4, 0, none⟩) x4.length x4.length, .int .i64 0]) RB.out)
  replace W0 := hide (evsK.ot W0.out TB.out (fun q => by have := LO0.out; have := q.1; omega))
  replace HI0 : Hid (u0.heap.size ≤ v4.heap.size) := Nat.le_trans HI0.out TB.out.size
  replace W1 := hide (sumsK.ot W1.out TB.out (fun q => by have := LO1.out; have := q.1; omega))
  replace HI1 : Hid (u1.heap.size ≤ v4.heap.size) := Nat.le_trans HI1.out TB.out.size
  replace W3 := hide (polyK.ot W3.out TB.out (fun q => by have := LO3.out; have := q.1; omega))
  replace HI3 : Hid (u3.heap.size ≤ v4.heap.size) := Nat.le_trans HI3.out TB.out.size
  replace W4 := hide (polyK.ot W4.out TB.out (fun q => by have := LO4.out; have := q.1; omega))
  replace HI4 : Hid (u4.heap.size ≤ v4.heap.size) := Nat.le_trans HI4.out TB.out.size
  clear RB TB
  refine hide ?_
  have ta5 := T.out.a.cell 5 _ rfl
  go_wp2_with (refine putSymSym_2 rfl rfl _ _ rfl (w.heap.size + 1 + 1) 5 _ T.out.o (by simp) rfl _ rfl ?_; intro v5 RB TB; refine Hid.out ?_)
  replace T := hide (three_fill T.out TB.out (O' := [.slice (some ⟨g0, 0, none⟩) x0.length x0.length, .slice (some ⟨g1, 0, none⟩) x1.length x1.length, .int .i64 a2, .slice (some ⟨g3, 0, none⟩) x3.length x3.length, .slice (some ⟨g4, 0, none⟩) x4.length x4.length, .int .i64 a5]) RB.out)
  replace W0 := hide (evsK.ot W0.out TB.out (fun q => by have := LO0.out; have := q.1; omega))
  replace HI0 : Hid (u0.heap.size ≤ v5.heap.size) := Nat.le_trans HI0.out TB.out.size
  replace W1 := hide (sumsK.ot W1.out TB.out (fun q => by have := LO1.out; have := q.1; omega))
  replace HI1 : Hid (u1.heap.size ≤ v5.heap.size) := Nat.le_trans HI1.out TB.out.size
  replace W3 := hide (polyK.ot W3.out TB.out (fun q => by have := LO3.out; have := q.1; omega))
  replace HI3 : Hid (u3.heap.size ≤ v5.heap.size) := Nat.le_trans HI3.out TB.out.size
  replace W4 := hide (polyK.ot W4.out TB.out (fun q => by have := LO4.out; have := q.1; omega))
  replace HI4 : Hid (u4.heap.size ≤ v5.heap.size) := Nat.le_trans HI4.out TB.out.size
  clear RB TB ta5
  refine hide ?_
  have o0 := T.out.o.cell 0 _ rfl
  have o1 := T.out.o.cell 1 _ rfl
  have o2 := T.out.o.cell 2 _ rfl
  have o3 := T.out.o.cell 3 _ rfl
  have o4 := T.out.o.cell 4 _ rfl
  have o5 := T.out.o.cell 5 _ rfl
  go_wp2_with (refine laySymSym rfl rfl _ _ rfl (w.heap.size + 1) _ _ _ _ _ _ T.out.z rfl _ _ _ _ _ _ _ _ _ _ _ _ _ _ rfl ?_; intro V RB TB; refine Hid.out ?_)
  replace W0 := hide (evsK.ot W0.out TB.out (fun q => by have := LO0.out; have := q.1; omega))
  replace HI0 : Hid (u0.heap.size ≤ V.heap.size) := Nat.le_trans HI0.out TB.out.size
  replace W1 := hide (sumsK.ot W1.out TB.out (fun q => by have := LO1.out; have := q.1; omega))
  replace HI1 : Hid (u1.heap.size ≤ V.heap.size) := Nat.le_trans HI1.out TB.out.size
  replace W3 := hide (polyK.ot W3.out TB.out (fun q => by have := LO3.out; have := q.1; omega))
  replace HI3 : Hid (u3.heap.size ≤ V.heap.size) := Nat.le_trans HI3.out TB.out.size
  replace W4 := hide (polyK.ot W4.out TB.out (fun q => by have := LO4.out; have := q.1; omega))
  replace HI4 : Hid (u4.heap.size ≤ V.heap.size) := Nat.le_trans HI4.out TB.out.size
  have BW := hide (T.out.bw.trans (TB.out.below (by omega) (Nat.le_of_lt T.out.a.lt)))
  have z0 := RB.out.cell 0 _ rfl
  have z1 := RB.out.cell 1 _ rfl
  have z2 := RB.out.cell 2 _ rfl
  have z3 := RB.out.cell 3 _ rfl
  have z4 := RB.out.cell 4 _ rfl
  have z5 := RB.out.cell 5 _ rfl
  have FIN := hide (symR_omk (A := New w V) (x0 := x0) (x1 := x1) (a2 := a2) (x3 := x3) (x4 := x4) (a5 := a5) W0.out W1.out W3.out W4.out (fun b q => ⟨by have := LO0.out; have := q.1; omega, by have := HI0.out; have := q.2; omega⟩) (fun b q => ⟨by have := LO1.out; have := q.1; omega, by have := HI1.out; have := q.2; omega⟩) (fun b q => ⟨by have := LO3.out; have := q.1; omega, by have := HI3.out; have := q.2; omega⟩) (fun b q => ⟨by have := LO4.out; have := q.1; omega, by have := HI4.out; have := q.2; omega⟩) (fun b q r => by have := M0_1.out; have := q.2; have := r.1; omega) (fun b q r => by have := M0_3.out; have := q.2; have := r.1; omega) (fun b q r => by have := M0_4.out; have := q.2; have := r.1; omega) (fun b q r => by have := M1_3.out; have := q.2; have := r.1; omega) (fun b q r => by have := M1_4.out; have := q.2; have := r.1; omega) (fun b q r => by have := M3_4.out; have := q.2; have := r.1; omega))
  clear RB TB T o0 o1 o2 o3 o4 o5
  refine hide ?_
  go_wp2
  exact bodyPost_ret (v := .agg #[.slice (some ⟨g0, 0, none⟩) x0.length x0.length, .slice (some ⟨g1, 0, none⟩) x1.length x1.length, .int .i64 a2, .slice (some ⟨g3, 0, none⟩) x3.length x3.length, .slice (some ⟨g4, 0, none⟩) x4.length x4.length, .int .i64 a5]) (by simp [results, Try.results7, go_sem, z0, z1, z2, z3, z4, z5]) rfl ⟨g0, g1, g3, g4, rfl, FIN.out, BW.out⟩
set_option maxRecDepth 8000 in
set_option maxHeartbeats 4000000 in
theorem eqSymSym (x0 : List (Int × Int × List Mono × List Mono × List (List Mono))) (x1 : List (List Mono)) (a2 : Int) (x3 : List Mono) (x4 : List Mono) (a5 : Int) (cs cs' : List Value) (w : World) (h : symR.rd w cs (x0, x1, a2, x3, x4, a5)) (h' : symR.rd w cs' (x0, x1, a2, x3, x4, a5)) :
    Calls Try.prog 9 #[.agg cs.toArray, .agg cs'.toArray] w fun e w' => e = .returned (.bool true) ∧ Below w.heap.size w w' := by
  obtain ⟨q0, c0, q1, c1, q3, c3, q4, c4, rfl, k0, k1, k3, k4⟩ := symR_rd h
  obtain ⟨p0, d0, p1, d1, p3, d3, p4, d4, rfl, l0, l1, l3, l4⟩ := symR_rd h'
  have bV : Below w.heap.size w ((w.alloc (.cells #[.slice q0 x0.length c0, .slice q1 x1.length c1, .int .i64 a2, .slice q3 x3.length c3, .slice q4 x4.length c4, .int .i64 a5] 37)).alloc (.cells #[.slice p0 x0.length d0, .slice p1 x1.length d1, .int .i64 a2, .slice p3 x3.length d3, .slice p4 x4.length d4, .int .i64 a5] 37)) := ((Below.refl _ _).alloc (Nat.le_refl _) _).alloc (by simp) _
  have RR := hide ((Rec.new w [.slice q0 x0.length c0, .slice q1 x1.length c1, .int .i64 a2, .slice q3 x3.length c3, .slice q4 x4.length c4, .int .i64 a5] 37).alloc (.cells #[.slice p0 x0.length d0, .slice p1 x1.length d1, .int .i64 a2, .slice p3 x3.length d3, .slice p4 x4.length d4, .int .i64 a5] 37))
  have RS := Rec.new (w.alloc (.cells #[.slice q0 x0.length c0, .slice q1 x1.length c1, .int .i64 a2, .slice q3 x3.length c3, .slice q4 x4.length c4, .int .i64 a5] 37)) [.slice p0 x0.length d0, .slice p1 x1.length d1, .int .i64 a2, .slice p3 x3.length d3, .slice p4 x4.length d4, .int .i64 a5] 37
  rw [show (w.alloc (.cells #[.slice q0 x0.length c0, .slice q1 x1.length c1, .int .i64 a2, .slice q3 x3.length c3, .slice q4 x4.length c4, .int .i64 a5] 37)).heap.size = w.heap.size + 1 by simp] at RS
  replace RS := hide RS
  have H0 := hide (evsK.rb k0 bV)
  have J0 := hide (evsK.rb l0 bV)
  have H1 := hide (sumsK.rb k1 bV)
  have J1 := hide (sumsK.rb l1 bV)
  have H3 := hide (polyK.rb k3 bV)
  have J3 := hide (polyK.rb l3 bV)
  have H4 := hide (polyK.rb k4 bV)
  have J4 := hide (polyK.rb l4 bV)
  have ne2 : (a2 != a2) = false := by simp
  have ne5 : (a5 != a5) = false := by simp
  have BW := hide bV
  clear bV h h' k0 l0 k1 l1 k3 l3 k4 l4
  go_enter Try.func9, Try.ntmps9
  go_wp2_with fail
  refine (eqSymEventS x0 _ _ _ H0.out J0.out).mono ?_
  rintro e u0 ⟨rfl, hb⟩
  replace RR := hide (RR.out.below hb)
  replace RS := hide (RS.out.below hb)
  replace BW := hide (BW.out.trans (hb.mono BW.out.size))
  replace H1 := hide (sumsK.rb H1.out hb)
  replace J1 := hide (sumsK.rb J1.out hb)
  replace H3 := hide (polyK.rb H3.out hb)
  replace J3 := hide (polyK.rb J3.out hb)
  replace H4 := hide (polyK.rb H4.out hb)
  replace J4 := hide (polyK.rb J4.out hb)
  clear hb
  have z0 := RR.out.cell 0 _ rfl
  have y0 := RS.out.cell 0 _ rfl
  have z1 := RR.out.cell 1 _ rfl
  have y1 := RS.out.cell 1 _ rfl
  have z2 := RR.out.cell 2 _ rfl
  have y2 := RS.out.cell 2 _ rfl
  have z3 := RR.out.cell 3 _ rfl
  have y3 := RS.out.cell 3 _ rfl
  have z4 := RR.out.cell 4 _ rfl
  have y4 := RS.out.cell 4 _ rfl
  have z5 := RR.out.cell 5 _ rfl
  have y5 := RS.out.cell 5 _ rfl
  go_wp2_with fail
  refine (eqTrmPolyS x1 _ _ _ H1.out J1.out).mono ?_
  rintro e u1 ⟨rfl, hb⟩
  replace RR := hide (RR.out.below hb)
  replace RS := hide (RS.out.below hb)
  replace BW := hide (BW.out.trans (hb.mono BW.out.size))
  replace H3 := hide (polyK.rb H3.out hb)
  replace J3 := hide (polyK.rb J3.out hb)
  replace H4 := hide (polyK.rb H4.out hb)
  replace J4 := hide (polyK.rb J4.out hb)
  clear hb z0 y0 z1 y1 z2 y2 z3 y3 z4 y4 z5 y5
  have z0 := RR.out.cell 0 _ rfl
  have y0 := RS.out.cell 0 _ rfl
  have z1 := RR.out.cell 1 _ rfl
  have y1 := RS.out.cell 1 _ rfl
  have z2 := RR.out.cell 2 _ rfl
  have y2 := RS.out.cell 2 _ rfl
  have z3 := RR.out.cell 3 _ rfl
  have y3 := RS.out.cell 3 _ rfl
  have z4 := RR.out.cell 4 _ rfl
  have y4 := RS.out.cell 4 _ rfl
  have z5 := RR.out.cell 5 _ rfl
  have y5 := RS.out.cell 5 _ rfl
  go_wp2_with fail
  refine (eqTrmPoly x3 _ _ _ (polyR_mk H3.out) (polyR_mk J3.out)).mono ?_
  rintro e u3 ⟨rfl, hb⟩
  replace RR := hide (RR.out.below hb)
  replace RS := hide (RS.out.below hb)
  replace BW := hide (BW.out.trans (hb.mono BW.out.size))
  replace H4 := hide (polyK.rb H4.out hb)
  replace J4 := hide (polyK.rb J4.out hb)
  clear hb z0 y0 z1 y1 z2 y2 z3 y3 z4 y4 z5 y5
  have z0 := RR.out.cell 0 _ rfl
  have y0 := RS.out.cell 0 _ rfl
  have z1 := RR.out.cell 1 _ rfl
  have y1 := RS.out.cell 1 _ rfl
  have z2 := RR.out.cell 2 _ rfl
  have y2 := RS.out.cell 2 _ rfl
  have z3 := RR.out.cell 3 _ rfl
  have y3 := RS.out.cell 3 _ rfl
  have z4 := RR.out.cell 4 _ rfl
  have y4 := RS.out.cell 4 _ rfl
  have z5 := RR.out.cell 5 _ rfl
  have y5 := RS.out.cell 5 _ rfl
  go_wp2_with fail
  refine (eqTrmPoly x4 _ _ _ (polyR_mk H4.out) (polyR_mk J4.out)).mono ?_
  rintro e u4 ⟨rfl, hb⟩
  replace RR := hide (RR.out.below hb)
  replace RS := hide (RS.out.below hb)
  replace BW := hide (BW.out.trans (hb.mono BW.out.size))
  clear hb z0 y0 z1 y1 z2 y2 z3 y3 z4 y4 z5 y5
  have z0 := RR.out.cell 0 _ rfl
  have y0 := RS.out.cell 0 _ rfl
  have z1 := RR.out.cell 1 _ rfl
  have y1 := RS.out.cell 1 _ rfl
  have z2 := RR.out.cell 2 _ rfl
  have y2 := RS.out.cell 2 _ rfl
  have z3 := RR.out.cell 3 _ rfl
  have y3 := RS.out.cell 3 _ rfl
  have z4 := RR.out.cell 4 _ rfl
  have y4 := RS.out.cell 4 _ rfl
  have z5 := RR.out.cell 5 _ rfl
  have y5 := RS.out.cell 5 _ rfl
  go_wp2
  go_ret
  exact ⟨rfl, BW.out⟩
theorem symR_nx {x0 : List (Int × Int × List Mono × List Mono × List (List Mono))} {x1 : List (List Mono)} {a2 : Int} {x3 : List Mono} {x4 : List Mono} {a5 : Int} : symR.nx (x0, x1, a2, x3, x4, a5) = evsK.nx x0 + (sumsK.nx x1 + (polyK.nx x3 + (polyK.nx x4 + (0)))) := rfl
theorem symR_mr {x0 : List (Int × Int × List Mono × List Mono × List (List Mono))} {x1 : List (List Mono)} {a2 : Int} {x3 : List Mono} {x4 : List Mono} {a5 : Int} (k : Int) : symR.mr k (x0, x1, a2, x3, x4, a5) = (evsK.mr (k) x0, sumsK.mr (k + (evsK.nx x0 : Nat)) x1, a2, polyK.mr (k + (evsK.nx x0 : Nat) + (sumsK.nx x1 : Nat)) x3, polyK.mr (k + (evsK.nx x0 : Nat) + (sumsK.nx x1 : Nat) + (polyK.nx x3 : Nat)) x4, a5) := rfl
set_option maxRecDepth 8000 in
set_option maxHeartbeats 4000000 in
theorem markSymSym (x0 : List (Int × Int × List Mono × List Mono × List (List Mono))) (x1 : List (List Mono)) (a2 : Int) (x3 : List Mono) (x4 : List Mono) (a5 : Int) (k : Int) (A : Nat → Prop) (cs : List Value) (w : World) (h : symR.ow w A cs (x0, x1, a2, x3, x4, a5)) (hA : ∀ b, A b → b < w.heap.size) (k0 : 0 ≤ k) (k1 : k + (symR.nx (x0, x1, a2, x3, x4, a5) : Nat) ≤ 1000000000) :
    Calls Try.prog 12 #[.agg cs.toArray, .int .i64 k] w fun e w' => e = .returned (.int .i64 (k + (symR.nx (x0, x1, a2, x3, x4, a5) : Nat))) ∧ symR.ow w' A cs (symR.mr k (x0, x1, a2, x3, x4, a5)) ∧ Keep A w w' := by
  obtain ⟨q0, c0, q1, c1, q3, c3, q4, c4, A0, A1, A3, A4, rfl, kk0, kk1, kk3, kk4, s0, s1, s3, s4, d0_1, d0_3, d0_4, d1_3, d1_4, d3_4⟩ := symR_own h
  rw [symR_nx] at k1 ⊢
  rw [symR_mr]
  have K1 := hide k1
  have bV : Below w.heap.size w (w.alloc (.cells #[.slice q0 x0.length c0, .slice q1 x1.length c1, .int .i64 a2, .slice q3 x3.length c3, .slice q4 x4.length c4, .int .i64 a5] 37)) := (Below.refl _ _).alloc (Nat.le_refl _) _
  have RR := hide (Rec.new w [.slice q0 x0.length c0, .slice q1 x1.length c1, .int .i64 a2, .slice q3 x3.length c3, .slice q4 x4.length c4, .int .i64 a5] 37)
  have H0 := hide (evsK.ob kk0 bV)
  have H1 := hide (sumsK.ob kk1 bV)
  have H3 := hide (polyK.ob kk3 bV)
  have H4 := hide (polyK.ob kk4 bV)
  have NB : Hid (¬ A w.heap.size) := fun q => by have := hA _ q; omega
  have KP : Hid (Keep A w _) := Keep.of_below bV
  obtain ⟨E, eE⟩ : ∃ E, k + ((evsK.nx x0 + (sumsK.nx x1 + (polyK.nx x3 + (polyK.nx x4 + (0)))) : Nat) : Int) = E := ⟨_, rfl⟩
  rw [eE]
  have EE := hide eE
  clear bV h k1 eE kk0 kk1 kk3 kk4
  obtain ⟨k1_, ek1⟩ : ∃ z, k + (evsK.nx x0 : Nat) = z := ⟨_, rfl⟩
  have EK1 := hide ek1
  have kb1 : 0 ≤ k1_ ∧ k1_ ≤ 1000000000 := by have := K1.out; have := EK1.out; omega
  rw [ek1] at ⊢
  clear ek1
  obtain ⟨k3_, ek3⟩ : ∃ z, k1_ + (sumsK.nx x1 : Nat) = z := ⟨_, rfl⟩
  have EK3 := hide ek3
  have kb3 : 0 ≤ k3_ ∧ k3_ ≤ 1000000000 := by have := K1.out; have := EK1.out; have := EK3.out; omega
  rw [ek3] at ⊢
  clear ek3
  obtain ⟨k4_, ek4⟩ : ∃ z, k3_ + (polyK.nx x3 : Nat) = z := ⟨_, rfl⟩
  have EK4 := hide ek4
  have kb4 : 0 ≤ k4_ ∧ k4_ ≤ 1000000000 := by have := K1.out; have := EK1.out; have := EK3.out; have := EK4.out; omega
  rw [ek4] at ⊢
  clear ek4
  have EL : Hid (k4_ + (polyK.nx x4 : Nat) = E) := show _ = _ by have := EE.out; have := EK1.out; have := EK3.out; have := EK4.out; omega
  have eb : 0 ≤ E ∧ E ≤ 1000000000 := by have := EE.out; have := K1.out; omega
  go_enter Try.func12, Try.ntmps12
  go_wp2_with fail
  refine (markSymEventS x0 k A0 _ _ H0.out k0 (by have := K1.out; omega)).mono ?_
  rintro e u0 ⟨rfl, O0, hk⟩
  have W0 := hide O0
  clear O0
  replace RR := hide (RR.out.keep hk (fun q => NB.out (s0 _ q)))
  replace KP := hide (KP.out.trans (hk.mono (fun b _ q => s0 b q)))
  replace H1 := hide (sumsK.ok H1.out hk (fun b q r => d0_1 b r q))
  replace H3 := hide (polyK.ok H3.out hk (fun b q r => d0_3 b r q))
  replace H4 := hide (polyK.ok H4.out hk (fun b q r => d0_4 b r q))
  clear hk H0
  rw [EK1.out]
  have z1 := RR.out.cell 1 _ rfl
  go_wp2_with fail
  refine (markTrmPolyS x1 k1_ A1 _ _ H1.out kb1.1 (by have := K1.out; have := EK1.out; omega)).mono ?_
  rintro e u1 ⟨rfl, O1, hk⟩
  have W1 := hide O1
  clear O1
  replace RR := hide (RR.out.keep hk (fun q => NB.out (s1 _ q)))
  replace KP := hide (KP.out.trans (hk.mono (fun b _ q => s1 b q)))
  replace W0 := hide (evsK.ok W0.out hk (fun b q r => d0_1 b q r))
  replace H3 := hide (polyK.ok H3.out hk (fun b q r => d1_3 b r q))
  replace H4 := hide (polyK.ok H4.out hk (fun b q r => d1_4 b r q))
  clear hk H1 z1
  rw [EK3.out]
  have z3 := RR.out.cell 3 _ rfl
  go_wp2_with fail
  refine (markTrmPoly x3 k3_ A3 _ _ (show polyR.ow _ A3 _ x3 from ⟨_, rfl, H3.out⟩) (fun b q => by have := KP.out.size; have := hA b (s3 b q); omega) kb3.1 (show k3_ + ((polyK.nx x3 : Nat) : Int) ≤ 1000000000 by have := K1.out; have := EK1.out; have := EK3.out; omega)).mono ?_
  rintro e u3 ⟨rfl, O3, hk⟩
  obtain ⟨_, e3, OO3⟩ := O3
  cases e3
  have W3 := hide OO3
  clear OO3
  replace RR := hide (RR.out.keep hk (fun q => NB.out (s3 _ q)))
  replace KP := hide (KP.out.trans (hk.mono (fun b _ q => s3 b q)))
  replace W0 := hide (evsK.ok W0.out hk (fun b q r => d0_3 b q r))
  replace W1 := hide (sumsK.ok W1.out hk (fun b q r => d1_3 b q r))
  replace H4 := hide (polyK.ok H4.out hk (fun b q r => d3_4 b r q))
  clear hk H3 z3
  rw [show k3_ + ((polyR.nx x3 : Nat) : Int) = _ from EK4.out]
  have z4 := RR.out.cell 4 _ rfl
  go_wp2_with fail
  refine (markTrmPoly x4 k4_ A4 _ _ (show polyR.ow _ A4 _ x4 from ⟨_, rfl, H4.out⟩) (fun b q => by have := KP.out.size; have := hA b (s4 b q); omega) kb4.1 (show k4_ + ((polyK.nx x4 : Nat) : Int) ≤ 1000000000 by have := K1.out; have := EK1.out; have := EK3.out; have := EK4.out; omega)).mono ?_
  rintro e u4 ⟨rfl, O4, hk⟩
  obtain ⟨_, e4, OO4⟩ := O4
  cases e4
  have W4 := hide OO4
  clear OO4
  replace RR := hide (RR.out.keep hk (fun q => NB.out (s4 _ q)))
  replace KP := hide (KP.out.trans (hk.mono (fun b _ q => s4 b q)))
  replace W0 := hide (evsK.ok W0.out hk (fun b q r => d0_4 b q r))
  replace W1 := hide (sumsK.ok W1.out hk (fun b q r => d1_4 b q r))
  replace W3 := hide (polyK.ok W3.out hk (fun b q r => d3_4 b q r))
  clear hk H4 z4
  rw [show k4_ + ((polyR.nx x4 : Nat) : Int) = _ from EL.out]
  have FIN := hide (symR_omk (A := A) (a2 := a2) (a5 := a5) W0.out W1.out W3.out W4.out s0 s1 s3 s4 d0_1 d0_3 d0_4 d1_3 d1_4 d3_4)
  clear RR
  go_wp2
  go_ret
  exact ⟨rfl, FIN.out, KP.out⟩
set_option maxRecDepth 8000 in
set_option maxHeartbeats 4000000 in
theorem heldSymSym (x0 : List (Int × Int × List Mono × List Mono × List (List Mono))) (x1 : List (List Mono)) (a2 : Int) (x3 : List Mono) (x4 : List Mono) (a5 : Int) (k : Int) (cs : List Value) (w : World) (h : symR.rd w cs (symR.mr k (x0, x1, a2, x3, x4, a5))) (k0 : 0 ≤ k) (k1 : k + (symR.nx (x0, x1, a2, x3, x4, a5) : Nat) ≤ 1000000000) :
    Calls Try.prog 13 #[.agg cs.toArray, .int .i64 k] w fun e w' => e = .returned (.int .i64 (k + (symR.nx (x0, x1, a2, x3, x4, a5) : Nat))) ∧ Below w.heap.size w w' := by
  obtain ⟨q0, c0, q1, c1, q3, c3, q4, c4, rfl, kk0, kk1, kk3, kk4⟩ := symR_rd (show symR.rd w cs (evsK.mr (k) x0, sumsK.mr (k + (evsK.nx x0 : Nat)) x1, a2, polyK.mr (k + (evsK.nx x0 : Nat) + (sumsK.nx x1 : Nat)) x3, polyK.mr (k + (evsK.nx x0 : Nat) + (sumsK.nx x1 : Nat) + (polyK.nx x3 : Nat)) x4, a5) from h)
  simp only [evsK_len, sumsK_len, polyK_len, polyK_len] at kk0 kk1 kk3 kk4 ⊢
  rw [symR_nx] at k1 ⊢
  have K1 := hide k1
  have bV : Below w.heap.size w (w.alloc (.cells #[.slice q0 x0.length c0, .slice q1 x1.length c1, .int .i64 a2, .slice q3 x3.length c3, .slice q4 x4.length c4, .int .i64 a5] 37)) := (Below.refl _ _).alloc (Nat.le_refl _) _
  have RR := hide (Rec.new w [.slice q0 x0.length c0, .slice q1 x1.length c1, .int .i64 a2, .slice q3 x3.length c3, .slice q4 x4.length c4, .int .i64 a5] 37)
  have H0 := hide (evsK.rb kk0 bV)
  have H1 := hide (sumsK.rb kk1 bV)
  have H3 := hide (polyK.rb kk3 bV)
  have H4 := hide (polyK.rb kk4 bV)
  have BW := hide bV
  obtain ⟨E, eE⟩ : ∃ E, k + ((evsK.nx x0 + (sumsK.nx x1 + (polyK.nx x3 + (polyK.nx x4 + (0)))) : Nat) : Int) = E := ⟨_, rfl⟩
  rw [eE]
  have EE := hide eE
  clear bV h k1 eE kk0 kk1 kk3 kk4
  obtain ⟨k1_, ek1⟩ : ∃ z, k + (evsK.nx x0 : Nat) = z := ⟨_, rfl⟩
  have EK1 := hide ek1
  have kb1 : 0 ≤ k1_ ∧ k1_ ≤ 1000000000 := by have := K1.out; have := EK1.out; omega
  rw [ek1] at H1 H3 H4
  clear ek1
  obtain ⟨k3_, ek3⟩ : ∃ z, k1_ + (sumsK.nx x1 : Nat) = z := ⟨_, rfl⟩
  have EK3 := hide ek3
  have kb3 : 0 ≤ k3_ ∧ k3_ ≤ 1000000000 := by have := K1.out; have := EK1.out; have := EK3.out; omega
  rw [ek3] at H3 H4
  clear ek3
  obtain ⟨k4_, ek4⟩ : ∃ z, k3_ + (polyK.nx x3 : Nat) = z := ⟨_, rfl⟩
  have EK4 := hide ek4
  have kb4 : 0 ≤ k4_ ∧ k4_ ≤ 1000000000 := by have := K1.out; have := EK1.out; have := EK3.out; have := EK4.out; omega
  rw [ek4] at H4
  clear ek4
  have EL : Hid (k4_ + (polyK.nx x4 : Nat) = E) := show _ = _ by have := EE.out; have := EK1.out; have := EK3.out; have := EK4.out; omega
  have eb : 0 ≤ E ∧ E ≤ 1000000000 := by have := EE.out; have := K1.out; omega
  go_enter Try.func13, Try.ntmps13
  go_wp2_with fail
  refine (heldSymEventS x0 k _ _ H0.out k0 (by have := K1.out; omega)).mono ?_
  rintro e u0 ⟨rfl, hb⟩
  replace RR := hide (RR.out.below hb)
  replace BW := hide (BW.out.trans (hb.mono BW.out.size))
  replace H1 := hide (sumsK.rb H1.out hb)
  replace H3 := hide (polyK.rb H3.out hb)
  replace H4 := hide (polyK.rb H4.out hb)
  clear hb H0
  rw [EK1.out]
  have nn0 : ¬ k1_ < 0 := by omega
  have z1 := RR.out.cell 1 _ rfl
  go_wp2_with fail
  refine (heldTrmPolyS x1 k1_ _ _ H1.out kb1.1 (by have := K1.out; have := EK1.out; omega)).mono ?_
  rintro e u1 ⟨rfl, hb⟩
  replace RR := hide (RR.out.below hb)
  replace BW := hide (BW.out.trans (hb.mono BW.out.size))
  replace H3 := hide (polyK.rb H3.out hb)
  replace H4 := hide (polyK.rb H4.out hb)
  clear hb H1 z1
  rw [EK3.out]
  have nn1 : ¬ k3_ < 0 := by omega
  have z3 := RR.out.cell 3 _ rfl
  go_wp2_with fail
  refine (heldTrmPoly x3 k3_ _ _ (polyR_mk H3.out) kb3.1 (show k3_ + ((polyK.nx x3 : Nat) : Int) ≤ 1000000000 by have := K1.out; have := EK1.out; have := EK3.out; omega)).mono ?_
  rintro e u3 ⟨rfl, hb⟩
  replace RR := hide (RR.out.below hb)
  replace BW := hide (BW.out.trans (hb.mono BW.out.size))
  replace H4 := hide (polyK.rb H4.out hb)
  clear hb H3 z3
  rw [show k3_ + ((polyR.nx x3 : Nat) : Int) = _ from EK4.out]
  have nn3 : ¬ k4_ < 0 := by omega
  have z4 := RR.out.cell 4 _ rfl
  go_wp2_with fail
  refine (heldTrmPoly x4 k4_ _ _ (polyR_mk H4.out) kb4.1 (show k4_ + ((polyK.nx x4 : Nat) : Int) ≤ 1000000000 by have := K1.out; have := EK1.out; have := EK3.out; have := EK4.out; omega)).mono ?_
  rintro e u4 ⟨rfl, hb⟩
  replace RR := hide (RR.out.below hb)
  replace BW := hide (BW.out.trans (hb.mono BW.out.size))
  clear hb H4 z4
  rw [show k4_ + ((polyR.nx x4 : Nat) : Int) = _ from EL.out]
  have nn4 : ¬ E < 0 := by omega
  go_wp2
  go_ret
  exact ⟨rfl, BW.out⟩
set_option maxRecDepth 8000 in
theorem symR_hold {w : World} {n : Nat} {cs : List Value} (h : Shape.Holds Try.prog w (n + 9) 28 cs) : ∃ x0 x1 a2 x3 x4 a5, symR.rd w cs (x0, x1, a2, x3, x4, a5) := by
  obtain ⟨hl, hf⟩ := Shape.holds_struct (n := n + 8) Try.underlying28 h
  have em : Try.prog.cellsOf 28 = 6 := by kernel_rfl
  rw [em] at hl
  have ec0 : Try.prog.cellsOf 22 = 1 := by kernel_rfl
  have ec1 : Try.prog.cellsOf 23 = 1 := by kernel_rfl
  have ec2 : Try.prog.cellsOf 3 = 1 := by kernel_rfl
  have ec3 : Try.prog.cellsOf 26 = 1 := by kernel_rfl
  obtain ⟨v0, x0, e0, k0⟩ := evsK_hold (n := n + 0) (hf _ (List.mem_of_getElem? (i := 0) rfl))
  obtain ⟨v1, x1, e1, k1⟩ := sumsK_hold (n := n + 2) (hf _ (List.mem_of_getElem? (i := 1) rfl))
  obtain ⟨a2, e2, _⟩ := Shape.holds_int (n := n + 7) Try.underlying3 (hf _ (List.mem_of_getElem? (i := 2) rfl))
  obtain ⟨x3, v3, e3, k3⟩ := polyR_hold (n := n + 3) (hf _ (List.mem_of_getElem? (i := 3) rfl))
  obtain ⟨x4, v4, e4, k4⟩ := polyR_hold (n := n + 3) (hf _ (List.mem_of_getElem? (i := 4) rfl))
  obtain ⟨a5, e5, _⟩ := Shape.holds_int (n := n + 7) Try.underlying3 (hf _ (List.mem_of_getElem? (i := 5) rfl))
  match cs, hl with
  | [c0, c1, c2, c3, c4, c5], _ =>
    simp [ec0, ec1, ec2, ec3] at e0 e1 e2 e3 e4 e5
    subst e0 e1 e2 e3 e4 e5
    exact ⟨x0, x1, a2, x3, x4, a5, symR_mk k0 k1 k3 k4⟩
end Go.Proofs.Ytclccaigkcilcaa.Dt
