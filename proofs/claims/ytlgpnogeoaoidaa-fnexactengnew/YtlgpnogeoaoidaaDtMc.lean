/-
  Plain data: machines, by kinds.
-/
import Derived.Test.YtlgpnogeoaoidaaDtMb
import Derived.Test.YtlgpnogeoaoidaaDtK
namespace Go.Proofs.Ytlgpnogeoaoidaa.Dt
set_option linter.unusedVariables false
set_option linter.unusedSimpArgs false
open Go.ChangeShapes Go.WideShapes Go.ChangeAt Go.RowKit IntS Pol
def machR : Rw (List Int × Int × List Int × Int × Bool × Bool × Int × List Int × List Int × Int) := sub intsK (keepi (sub intsK (keepi (keepb (keepb (keepi (sub intsK (sub intsK (keepleaf)))))))))
theorem machR_rd {w : World} {cs : List Value} {x0 : List Int} {a1 : Int} {x2 : List Int} {a3 : Int} {a4 : Bool} {a5 : Bool} {a6 : Int} {x7 : List Int} {x8 : List Int} {a9 : Int} (h : machR.rd w cs (x0, a1, x2, a3, a4, a5, a6, x7, x8, a9)) : ∃ (q0 : Option Addr) (c0 : Nat) (q2 : Option Addr) (c2 : Nat) (q7 : Option Addr) (c7 : Nat) (q8 : Option Addr) (c8 : Nat), cs = [.slice q0 x0.length c0, .int .i64 a1, .slice q2 x2.length c2, .int .i64 a3, .bool a4, .bool a5, .int .i64 a6, .slice q7 x7.length c7, .slice q8 x8.length c8, .int .i64 a9] ∧ intsK.rd w (.slice q0 x0.length c0) x0 ∧ intsK.rd w (.slice q2 x2.length c2) x2 ∧ intsK.rd w (.slice q7 x7.length c7) x7 ∧ intsK.rd w (.slice q8 x8.length c8) x8 := by
  obtain ⟨v0, vs0, e0, k0, h0⟩ := h
  obtain ⟨vs1, e1, h1⟩ := h0
  obtain ⟨v2, vs2, e2, k2, h2⟩ := h1
  obtain ⟨vs3, e3, h3⟩ := h2
  obtain ⟨vs4, e4, h4⟩ := h3
  obtain ⟨vs5, e5, h5⟩ := h4
  obtain ⟨vs6, e6, h6⟩ := h5
  obtain ⟨v7, vs7, e7, k7, h7⟩ := h6
  obtain ⟨v8, vs8, e8, k8, h8⟩ := h7
  have e9 : vs8 = _ := h8
  obtain ⟨q0, c0, f0, _, _⟩ := LRd.form k0
  subst f0
  obtain ⟨q2, c2, f2, _, _⟩ := LRd.form k2
  subst f2
  obtain ⟨q7, c7, f7, _, _⟩ := LRd.form k7
  subst f7
  obtain ⟨q8, c8, f8, _, _⟩ := LRd.form k8
  subst f8
  subst e9
  subst e8
  subst e7
  subst e6
  subst e5
  subst e4
  subst e3
  subst e2
  subst e1
  subst e0
  exact ⟨q0, c0, q2, c2, q7, c7, q8, c8, rfl, k0, k2, k7, k8⟩
theorem machR_mk {w : World} {x0 : List Int} {a1 : Int} {x2 : List Int} {a3 : Int} {a4 : Bool} {a5 : Bool} {a6 : Int} {x7 : List Int} {x8 : List Int} {a9 : Int} {v0 : Value} (k0 : intsK.rd w v0 x0) {v2 : Value} (k2 : intsK.rd w v2 x2) {v7 : Value} (k7 : intsK.rd w v7 x7) {v8 : Value} (k8 : intsK.rd w v8 x8) : machR.rd w [v0, .int .i64 a1, v2, .int .i64 a3, .bool a4, .bool a5, .int .i64 a6, v7, v8, .int .i64 a9] (x0, a1, x2, a3, a4, a5, a6, x7, x8, a9) := ⟨_, _, rfl, k0, ⟨_, rfl, ⟨_, _, rfl, k2, ⟨_, rfl, ⟨_, rfl, ⟨_, rfl, ⟨_, rfl, ⟨_, _, rfl, k7, ⟨_, _, rfl, k8, rfl⟩⟩⟩⟩⟩⟩⟩⟩⟩
theorem machR_own {w : World} {A : Nat → Prop} {cs : List Value} {x0 : List Int} {a1 : Int} {x2 : List Int} {a3 : Int} {a4 : Bool} {a5 : Bool} {a6 : Int} {x7 : List Int} {x8 : List Int} {a9 : Int} (h : machR.ow w A cs (x0, a1, x2, a3, a4, a5, a6, x7, x8, a9)) : ∃ (q0 : Option Addr) (c0 : Nat) (q2 : Option Addr) (c2 : Nat) (q7 : Option Addr) (c7 : Nat) (q8 : Option Addr) (c8 : Nat) (A0 : Nat → Prop) (A2 : Nat → Prop) (A7 : Nat → Prop) (A8 : Nat → Prop), cs = [.slice q0 x0.length c0, .int .i64 a1, .slice q2 x2.length c2, .int .i64 a3, .bool a4, .bool a5, .int .i64 a6, .slice q7 x7.length c7, .slice q8 x8.length c8, .int .i64 a9] ∧ intsK.ow w A0 (.slice q0 x0.length c0) x0 ∧ intsK.ow w A2 (.slice q2 x2.length c2) x2 ∧ intsK.ow w A7 (.slice q7 x7.length c7) x7 ∧ intsK.ow w A8 (.slice q8 x8.length c8) x8 ∧ (∀ b, A0 b → A b) ∧ (∀ b, A2 b → A b) ∧ (∀ b, A7 b → A b) ∧ (∀ b, A8 b → A b) ∧ (∀ b, A0 b → A2 b → False) ∧ (∀ b, A0 b → A7 b → False) ∧ (∀ b, A0 b → A8 b → False) ∧ (∀ b, A2 b → A7 b → False) ∧ (∀ b, A2 b → A8 b → False) ∧ (∀ b, A7 b → A8 b → False) := by
  obtain ⟨v0, vs0, A0, B0, e0, s0, t0, d0, k0, h0⟩ := h
  obtain ⟨vs1, e1, h1⟩ := h0
  obtain ⟨v2, vs2, A2, B2, e2, s2, t2, d2, k2, h2⟩ := h1
  obtain ⟨vs3, e3, h3⟩ := h2
  obtain ⟨vs4, e4, h4⟩ := h3
  obtain ⟨vs5, e5, h5⟩ := h4
  obtain ⟨vs6, e6, h6⟩ := h5
  obtain ⟨v7, vs7, A7, B7, e7, s7, t7, d7, k7, h7⟩ := h6
  obtain ⟨v8, vs8, A8, B8, e8, s8, t8, d8, k8, h8⟩ := h7
  have e9 : vs8 = _ := h8
  obtain ⟨q0, c0, f0, _, _⟩ := LRd.form (intsK.od k0)
  subst f0
  obtain ⟨q2, c2, f2, _, _⟩ := LRd.form (intsK.od k2)
  subst f2
  obtain ⟨q7, c7, f7, _, _⟩ := LRd.form (intsK.od k7)
  subst f7
  obtain ⟨q8, c8, f8, _, _⟩ := LRd.form (intsK.od k8)
  subst f8
  subst e9
  subst e8
  subst e7
  subst e6
  subst e5
  subst e4
  subst e3
  subst e2
  subst e1
  subst e0
  exact ⟨q0, c0, q2, c2, q7, c7, q8, c8, A0, A2, A7, A8, rfl, k0, k2, k7, k8, (fun b hb => s0 b (hb)), (fun b hb => t0 b (s2 b (hb))), (fun b hb => t0 b (t2 b (s7 b (hb)))), (fun b hb => t0 b (t2 b (t7 b (s8 b (hb))))), (fun b h1 h2 => d0 b h1 (s2 b (h2))), (fun b h1 h2 => d0 b h1 (t2 b (s7 b (h2)))), (fun b h1 h2 => d0 b h1 (t2 b (t7 b (s8 b (h2))))), (fun b h1 h2 => d2 b h1 (s7 b (h2))), (fun b h1 h2 => d2 b h1 (t7 b (s8 b (h2)))), (fun b h1 h2 => d7 b h1 (s8 b (h2)))⟩
theorem machR_omk {w : World} {A : Nat → Prop} {x0 : List Int} {a1 : Int} {x2 : List Int} {a3 : Int} {a4 : Bool} {a5 : Bool} {a6 : Int} {x7 : List Int} {x8 : List Int} {a9 : Int} {v0 : Value} {A0 : Nat → Prop} (k0 : intsK.ow w A0 v0 x0) {v2 : Value} {A2 : Nat → Prop} (k2 : intsK.ow w A2 v2 x2) {v7 : Value} {A7 : Nat → Prop} (k7 : intsK.ow w A7 v7 x7) {v8 : Value} {A8 : Nat → Prop} (k8 : intsK.ow w A8 v8 x8) (s0 : ∀ b, A0 b → A b) (s2 : ∀ b, A2 b → A b) (s7 : ∀ b, A7 b → A b) (s8 : ∀ b, A8 b → A b) (d0_2 : ∀ b, A0 b → A2 b → False) (d0_7 : ∀ b, A0 b → A7 b → False) (d0_8 : ∀ b, A0 b → A8 b → False) (d2_7 : ∀ b, A2 b → A7 b → False) (d2_8 : ∀ b, A2 b → A8 b → False) (d7_8 : ∀ b, A7 b → A8 b → False) : machR.ow w A [v0, .int .i64 a1, v2, .int .i64 a3, .bool a4, .bool a5, .int .i64 a6, v7, v8, .int .i64 a9] (x0, a1, x2, a3, a4, a5, a6, x7, x8, a9) := ⟨_, _, A0, (fun b => A2 b ∨ A7 b ∨ A8 b), rfl, s0, (fun b hb => by
    rcases hb with hb | hb | hb
    · exact s2 b hb
    · exact s7 b hb
    · exact s8 b hb), (fun b h1 hb => by
    rcases hb with hb | hb | hb
    · exact d0_2 b h1 hb
    · exact d0_7 b h1 hb
    · exact d0_8 b h1 hb), k0, ⟨_, rfl, ⟨_, _, A2, (fun b => A7 b ∨ A8 b), rfl, (fun b hb => Or.inl hb), (fun b hb => Or.inr hb), (fun b h1 hb => by
    rcases hb with hb | hb
    · exact d2_7 b h1 hb
    · exact d2_8 b h1 hb), k2, ⟨_, rfl, ⟨_, rfl, ⟨_, rfl, ⟨_, rfl, ⟨_, _, A7, (fun b => A8 b), rfl, (fun b hb => Or.inl hb), (fun b hb => Or.inr hb), (fun b h1 hb => d7_8 b h1 hb), k7, ⟨_, _, A8, (fun _ => False), rfl, (fun b hb => hb), (fun _ h => h.elim), (fun _ _ h => h), k8, rfl⟩⟩⟩⟩⟩⟩⟩⟩⟩
theorem machR_sz {x0 : List Int} {a1 : Int} {x2 : List Int} {a3 : Int} {a4 : Bool} {a5 : Bool} {a6 : Int} {x7 : List Int} {x8 : List Int} {a9 : Int} : machR.sz (x0, a1, x2, a3, a4, a5, a6, x7, x8, a9) = intsK.sz x0 + (intsK.sz x2 + (intsK.sz x7 + (intsK.sz x8 + (0)))) := rfl
set_option maxRecDepth 8000 in
set_option maxHeartbeats 4000000 in
theorem szMchMach (x0 : List Int) (a1 : Int) (x2 : List Int) (a3 : Int) (a4 : Bool) (a5 : Bool) (a6 : Int) (x7 : List Int) (x8 : List Int) (a9 : Int) (cs : List Value) (left : Int) (w : World) (h : machR.rd w cs (x0, a1, x2, a3, a4, a5, a6, x7, x8, a9)) (h0 : 0 ≤ left) (h1 : left ≤ 1048576) :
    Calls Try.prog 5 #[.agg cs.toArray, .int .i64 left] w fun e w' => ∃ r : Int, e = .returned (.int .i64 r) ∧ -1 ≤ r ∧ (0 ≤ r → r = left - (machR.sz (x0, a1, x2, a3, a4, a5, a6, x7, x8, a9) : Nat)) ∧ Below w.heap.size w w' := by
  obtain ⟨q0, c0, q2, c2, q7, c7, q8, c8, rfl, k0, k2, k7, k8⟩ := machR_rd h
  have SZ := hide (machR_sz (x0 := x0) (a1 := a1) (x2 := x2) (a3 := a3) (a4 := a4) (a5 := a5) (a6 := a6) (x7 := x7) (x8 := x8) (a9 := a9))
  obtain ⟨Z, eZ⟩ : ∃ Z, machR.sz (x0, a1, x2, a3, a4, a5, a6, x7, x8, a9) = Z := ⟨_, rfl⟩
  rw [eZ] at SZ ⊢
  have bV : Below w.heap.size w (w.alloc (.cells #[.slice q0 x0.length c0, .int .i64 a1, .slice q2 x2.length c2, .int .i64 a3, .bool a4, .bool a5, .int .i64 a6, .slice q7 x7.length c7, .slice q8 x8.length c8, .int .i64 a9] 24)) := (Below.refl _ _).alloc (Nat.le_refl _) _
  have RR := hide (Rec.new w [.slice q0 x0.length c0, .int .i64 a1, .slice q2 x2.length c2, .int .i64 a3, .bool a4, .bool a5, .int .i64 a6, .slice q7 x7.length c7, .slice q8 x8.length c8, .int .i64 a9] 24)
  have H0 := hide (intsK.rb k0 bV)
  have H2 := hide (intsK.rb k2 bV)
  have H7 := hide (intsK.rb k7 bV)
  have H8 := hide (intsK.rb k8 bV)
  have BW := hide bV
  clear bV h eZ k0 k2 k7 k8
  go_enter Try.func5, Try.ntmps5
  go_wp2_with fail
  refine (Dt.szIntS x0 _ left _ H0.out h0 h1).mono ?_
  rintro e u0 ⟨r0, rfl, p0, g0, hb⟩
  have G0 : Hid (0 ≤ r0 → r0 = left - (intsK.sz x0 : Nat)) := g0
  replace RR := hide (RR.out.below hb)
  replace BW := hide (BW.out.trans (hb.mono BW.out.size))
  replace H2 := hide (intsK.rb H2.out hb)
  replace H7 := hide (intsK.rb H7.out hb)
  replace H8 := hide (intsK.rb H8.out hb)
  clear g0 hb
  by_cases hs0 : r0 < 0
  · go_wp2
    go_ret
    exact ⟨-1, rfl, by omega, fun h => by omega, BW.out⟩
  have m0 : 0 ≤ r0 := by omega
  have b0 : r0 ≤ 1048576 := by have := G0.out m0; omega
  have z2 := RR.out.cell 2 _ rfl
  go_wp2_with fail
  refine (Dt.szIntS x2 _ r0 _ H2.out m0 b0).mono ?_
  rintro e u2 ⟨r2, rfl, p2, g2, hb⟩
  have G2 : Hid (0 ≤ r2 → r2 = r0 - (intsK.sz x2 : Nat)) := g2
  replace RR := hide (RR.out.below hb)
  replace BW := hide (BW.out.trans (hb.mono BW.out.size))
  replace H7 := hide (intsK.rb H7.out hb)
  replace H8 := hide (intsK.rb H8.out hb)
  clear g2 hb z2
  by_cases hs2 : r2 < 0
  · go_wp2
    go_ret
    exact ⟨-1, rfl, by omega, fun h => by omega, BW.out⟩
  have m2 : 0 ≤ r2 := by omega
  have b2 : r2 ≤ 1048576 := by have := G2.out m2; omega
  have z7 := RR.out.cell 7 _ rfl
  go_wp2_with fail
  refine (Dt.szIntS x7 _ r2 _ H7.out m2 b2).mono ?_
  rintro e u7 ⟨r7, rfl, p7, g7, hb⟩
  have G7 : Hid (0 ≤ r7 → r7 = r2 - (intsK.sz x7 : Nat)) := g7
  replace RR := hide (RR.out.below hb)
  replace BW := hide (BW.out.trans (hb.mono BW.out.size))
  replace H8 := hide (intsK.rb H8.out hb)
  clear g7 hb z7
  by_cases hs7 : r7 < 0
  · go_wp2
    go_ret
    exact ⟨-1, rfl, by omega, fun h => by omega, BW.out⟩
  have m7 : 0 ≤ r7 := by omega
  have b7 : r7 ≤ 1048576 := by have := G7.out m7; omega
  have z8 := RR.out.cell 8 _ rfl
  go_wp2_with fail
  refine (Dt.szIntS x8 _ r7 _ H8.out m7 b7).mono ?_
  rintro e u8 ⟨r8, rfl, p8, g8, hb⟩
  have G8 : Hid (0 ≤ r8 → r8 = r7 - (intsK.sz x8 : Nat)) := g8
  replace RR := hide (RR.out.below hb)
  replace BW := hide (BW.out.trans (hb.mono BW.out.size))
  clear g8 hb z8
  by_cases hs8 : r8 < 0
  · go_wp2
    go_ret
    exact ⟨-1, rfl, by omega, fun h => by omega, BW.out⟩
  have m8 : 0 ≤ r8 := by omega
  have b8 : r8 ≤ 1048576 := by have := G8.out m8; omega
  go_wp2
  go_ret
  exact ⟨r8, rfl, by omega, fun h => by have := SZ.out; have := G0.out m0; have := G2.out m2; have := G7.out m7; have := G8.out m8; omega, BW.out⟩
set_option maxRecDepth 8000 in
set_option maxHeartbeats 4000000 in
set_option maxHeartbeats 4000000 in
theorem layMchMach {w : World} {ops : Array Oper} {rest : List Oper} {o : Oper} {a : Act} {Q : Exit → Act → World → Prop} (hgd : o.guard = none) (hds : o.dst = none) (x y : Operand) (ho : o.op = .store 26 x y)
    (Z : Nat) (y0 : Value) (y1 : Value) (y2 : Value) (y3 : Value) (y4 : Value) (y5 : Value) (y6 : Value) (y7 : Value) (y8 : Value) (y9 : Value) (hB : Rec Z [y0, y1, y2, y3, y4, y5, y6, y7, y8, y9] w) (hx : a.eval x = .pointer (some ⟨Z, 0, none⟩)) (q0 : Option Addr) (n0 c0 : Nat) (a1 : Int) (q2 : Option Addr) (n2 c2 : Nat) (a3 : Int) (a4 : Bool) (a5 : Bool) (a6 : Int) (q7 : Option Addr) (n7 c7 : Nat) (q8 : Option Addr) (n8 c8 : Nat) (a9 : Int) (hy : a.eval y = .agg #[.slice q0 n0 c0, .int .i64 a1, .slice q2 n2 c2, .int .i64 a3, .bool a4, .bool a5, .int .i64 a6, .slice q7 n7 c7, .slice q8 n8 c8, .int .i64 a9])
    (h : ∀ w' : World, Hid (Rec Z [.slice q0 n0 c0, .int .i64 a1, .slice q2 n2 c2, .int .i64 a3, .bool a4, .bool a5, .int .i64 a6, .slice q7 n7 c7, .slice q8 n8 c8, .int .i64 a9] w') → Hid (Turn Z w w') → wpList Try.prog ops Q rest a w') :
    wpList Try.prog ops Q (o :: rest) a w := by
  refine wpList_plain hgd fun K hK => ?_
  have z0 := hB.cell 0 _ rfl
  have s0 := hB.soft 0
  have z1 := hB.cell 1 _ rfl
  have s1 := hB.soft 1
  have z2 := hB.cell 2 _ rfl
  have s2 := hB.soft 2
  have z3 := hB.cell 3 _ rfl
  have s3 := hB.soft 3
  have z4 := hB.cell 4 _ rfl
  have s4 := hB.soft 4
  have z5 := hB.cell 5 _ rfl
  have s5 := hB.soft 5
  have z6 := hB.cell 6 _ rfl
  have s6 := hB.soft 6
  have z7 := hB.cell 7 _ rfl
  have s7 := hB.soft 7
  have z8 := hB.cell 8 _ rfl
  have s8 := hB.soft 8
  have z9 := hB.cell 9 _ rfl
  have s9 := hB.soft 9
  have key := hK _ _ (h _ ((((((((((hB.set 0 (.slice q0 n0 c0) (by simp) (show _ = ([.slice q0 n0 c0, y1, y2, y3, y4, y5, y6, y7, y8, y9] : List Value) from rfl)).set 1 (.int .i64 a1) (by simp) (show _ = ([.slice q0 n0 c0, .int .i64 a1, y2, y3, y4, y5, y6, y7, y8, y9] : List Value) from rfl)).set 2 (.slice q2 n2 c2) (by simp) (show _ = ([.slice q0 n0 c0, .int .i64 a1, .slice q2 n2 c2, y3, y4, y5, y6, y7, y8, y9] : List Value) from rfl)).set 3 (.int .i64 a3) (by simp) (show _ = ([.slice q0 n0 c0, .int .i64 a1, .slice q2 n2 c2, .int .i64 a3, y4, y5, y6, y7, y8, y9] : List Value) from rfl)).set 4 (.bool a4) (by simp) (show _ = ([.slice q0 n0 c0, .int .i64 a1, .slice q2 n2 c2, .int .i64 a3, .bool a4, y5, y6, y7, y8, y9] : List Value) from rfl)).set 5 (.bool a5) (by simp) (show _ = ([.slice q0 n0 c0, .int .i64 a1, .slice q2 n2 c2, .int .i64 a3, .bool a4, .bool a5, y6, y7, y8, y9] : List Value) from rfl)).set 6 (.int .i64 a6) (by simp) (show _ = ([.slice q0 n0 c0, .int .i64 a1, .slice q2 n2 c2, .int .i64 a3, .bool a4, .bool a5, .int .i64 a6, y7, y8, y9] : List Value) from rfl)).set 7 (.slice q7 n7 c7) (by simp) (show _ = ([.slice q0 n0 c0, .int .i64 a1, .slice q2 n2 c2, .int .i64 a3, .bool a4, .bool a5, .int .i64 a6, .slice q7 n7 c7, y8, y9] : List Value) from rfl)).set 8 (.slice q8 n8 c8) (by simp) (show _ = ([.slice q0 n0 c0, .int .i64 a1, .slice q2 n2 c2, .int .i64 a3, .bool a4, .bool a5, .int .i64 a6, .slice q7 n7 c7, .slice q8 n8 c8, y9] : List Value) from rfl)).set 9 (.int .i64 a9) (by simp) (show _ = ([.slice q0 n0 c0, .int .i64 a1, .slice q2 n2 c2, .int .i64 a3, .bool a4, .bool a5, .int .i64 a6, .slice q7 n7 c7, .slice q8 n8 c8, .int .i64 a9] : List Value) from rfl)) (((((((((((Turn.refl Z w).setCell (p := ⟨Z, 0, none⟩) rfl (.slice q0 n0 c0)).setCell (p := ⟨Z, 1, none⟩) rfl (.int .i64 a1)).setCell (p := ⟨Z, 2, none⟩) rfl (.slice q2 n2 c2)).setCell (p := ⟨Z, 3, none⟩) rfl (.int .i64 a3)).setCell (p := ⟨Z, 4, none⟩) rfl (.bool a4)).setCell (p := ⟨Z, 5, none⟩) rfl (.bool a5)).setCell (p := ⟨Z, 6, none⟩) rfl (.int .i64 a6)).setCell (p := ⟨Z, 7, none⟩) rfl (.slice q7 n7 c7)).setCell (p := ⟨Z, 8, none⟩) rfl (.slice q8 n8 c8)).setCell (p := ⟨Z, 9, none⟩) rfl (.int .i64 a9)))
  obtain ⟨dst, op, ty, pos, aft, gd⟩ := o
  simp only [] at hgd hds ho
  subst hgd hds ho
  clear h hK
  unfold Oper.wp
  simp only [execOp, hx, hy]
  go_simp
  exact key
set_option maxRecDepth 8000 in
set_option maxHeartbeats 4000000 in
theorem putMchMach_0 {w : World} {ops : Array Oper} {rest : List Oper} {o : Oper} {a : Act} {Q : Exit → Act → World → Prop} (hgd : o.guard = none) (hds : o.dst = none) (x y : Operand) (ho : o.op = .store 22 x y)
    (Z i : Nat) (cs : List Value) (hB : Rec Z cs w) (hi : i < cs.length) (hx : a.eval x = .pointer (some ⟨Z, i, none⟩)) (q : Option Addr) (n c : Nat) (hy : a.eval y = .slice q n c)
    (h : ∀ w' : World, Hid (Rec Z (cs.set i (.slice q n c)) w') → Hid (Turn Z w w') → wpList Try.prog ops Q rest a w') :
    wpList Try.prog ops Q (o :: rest) a w := by
  refine wpList_plain hgd fun K hK => ?_
  have z0 := hB.cell i _ (List.getElem?_eq_getElem hi)
  have y0 := hB.soft i
  have key := hK _ _ (h _ (hB.set i (.slice q n c) hi rfl) ((Turn.refl Z w).setCell (p := ⟨Z, i, none⟩) rfl _))
  obtain ⟨dst, op, ty, pos, aft, gd⟩ := o
  simp only [] at hgd hds ho
  subst hgd hds ho
  clear h hK
  unfold Oper.wp
  simp only [execOp, hx, hy]
  go_simp
  exact key
set_option maxRecDepth 8000 in
set_option maxHeartbeats 4000000 in
theorem putMchMach_1 {w : World} {ops : Array Oper} {rest : List Oper} {o : Oper} {a : Act} {Q : Exit → Act → World → Prop} (hgd : o.guard = none) (hds : o.dst = none) (x y : Operand) (ho : o.op = .store 3 x y)
    (Z i : Nat) (cs : List Value) (hB : Rec Z cs w) (hi : i < cs.length) (hx : a.eval x = .pointer (some ⟨Z, i, none⟩)) (n : Int) (hy : a.eval y = .int .i64 n)
    (h : ∀ w' : World, Hid (Rec Z (cs.set i (.int .i64 n)) w') → Hid (Turn Z w w') → wpList Try.prog ops Q rest a w') :
    wpList Try.prog ops Q (o :: rest) a w := by
  refine wpList_plain hgd fun K hK => ?_
  have z0 := hB.cell i _ (List.getElem?_eq_getElem hi)
  have y0 := hB.soft i
  have key := hK _ _ (h _ (hB.set i (.int .i64 n) hi rfl) ((Turn.refl Z w).setCell (p := ⟨Z, i, none⟩) rfl _))
  obtain ⟨dst, op, ty, pos, aft, gd⟩ := o
  simp only [] at hgd hds ho
  subst hgd hds ho
  clear h hK
  unfold Oper.wp
  simp only [execOp, hx, hy]
  go_simp
  exact key
set_option maxRecDepth 8000 in
set_option maxHeartbeats 4000000 in
theorem putMchMach_4 {w : World} {ops : Array Oper} {rest : List Oper} {o : Oper} {a : Act} {Q : Exit → Act → World → Prop} (hgd : o.guard = none) (hds : o.dst = none) (x y : Operand) (ho : o.op = .store 4 x y)
    (Z i : Nat) (cs : List Value) (hB : Rec Z cs w) (hi : i < cs.length) (hx : a.eval x = .pointer (some ⟨Z, i, none⟩)) (n : Bool) (hy : a.eval y = .bool n)
    (h : ∀ w' : World, Hid (Rec Z (cs.set i (.bool n)) w') → Hid (Turn Z w w') → wpList Try.prog ops Q rest a w') :
    wpList Try.prog ops Q (o :: rest) a w := by
  refine wpList_plain hgd fun K hK => ?_
  have z0 := hB.cell i _ (List.getElem?_eq_getElem hi)
  have y0 := hB.soft i
  have key := hK _ _ (h _ (hB.set i (.bool n) hi rfl) ((Turn.refl Z w).setCell (p := ⟨Z, i, none⟩) rfl _))
  obtain ⟨dst, op, ty, pos, aft, gd⟩ := o
  simp only [] at hgd hds ho
  subst hgd hds ho
  clear h hK
  unfold Oper.wp
  simp only [execOp, hx, hy]
  go_simp
  exact key
set_option maxRecDepth 8000 in
set_option maxHeartbeats 8000000 in
theorem toMchMach (x0 : List Int) (a1 : Int) (x2 : List Int) (a3 : Int) (a4 : Bool) (a5 : Bool) (a6 : Int) (x7 : List Int) (x8 : List Int) (a9 : Int) (cs : List Value) (w : World) (h : machR.rd w cs (x0, a1, x2, a3, a4, a5, a6, x7, x8, a9)) (hs : machR.sz (x0, a1, x2, a3, a4, a5, a6, x7, x8, a9) ≤ 1048576) :
    Calls Try.prog 7 #[.agg cs.toArray] w fun e w' => ∃ g0 g2 g7 g8, e = .returned (.agg #[.slice (some ⟨g0, 0, none⟩) x0.length x0.length, .int .i64 a1, .slice (some ⟨g2, 0, none⟩) x2.length x2.length, .int .i64 a3, .bool a4, .bool a5, .int .i64 a6, .slice (some ⟨g7, 0, none⟩) x7.length x7.length, .slice (some ⟨g8, 0, none⟩) x8.length x8.length, .int .i64 a9]) ∧ machR.ow w' (New w w') [.slice (some ⟨g0, 0, none⟩) x0.length x0.length, .int .i64 a1, .slice (some ⟨g2, 0, none⟩) x2.length x2.length, .int .i64 a3, .bool a4, .bool a5, .int .i64 a6, .slice (some ⟨g7, 0, none⟩) x7.length x7.length, .slice (some ⟨g8, 0, none⟩) x8.length x8.length, .int .i64 a9] (x0, a1, x2, a3, a4, a5, a6, x7, x8, a9) ∧ Below w.heap.size w w' := by
  obtain ⟨q0, c0, q2, c2, q7, c7, q8, c8, rfl, k0, k2, k7, k8⟩ := machR_rd h
  rw [machR_sz] at hs
  have T := hide (Three.new w [.slice q0 x0.length c0, .int .i64 a1, .slice q2 x2.length c2, .int .i64 a3, .bool a4, .bool a5, .int .i64 a6, .slice q7 x7.length c7, .slice q8 x8.length c8, .int .i64 a9] [.slice none 0 0, .int .i64 0, .slice none 0 0, .int .i64 0, .bool false, .bool false, .int .i64 0, .slice none 0 0, .slice none 0 0, .int .i64 0] [.slice none 0 0, .int .i64 0, .slice none 0 0, .int .i64 0, .bool false, .bool false, .int .i64 0, .slice none 0 0, .slice none 0 0, .int .i64 0] 24 26 26)
  have H0 := hide k0
  have S0 : Hid (intsK.sz x0 ≤ 1048576) := show _ ≤ _ by omega
  have H2 := hide k2
  have S2 : Hid (intsK.sz x2 ≤ 1048576) := show _ ≤ _ by omega
  have H7 := hide k7
  have S7 : Hid (intsK.sz x7 ≤ 1048576) := show _ ≤ _ by omega
  have H8 := hide k8
  have S8 : Hid (intsK.sz x8 ≤ 1048576) := show _ ≤ _ by omega
  clear h hs k0 k2 k7 k8
  go_enter Try.func7, Try.ntmps7
  go_wp2_with fail
  generalize ((w.alloc (.cells #[.slice q0 x0.length c0, .int .i64 a1, .slice q2 x2.length c2, .int .i64 a3, .bool a4, .bool a5, .int .i64 a6, .slice q7 x7.length c7, .slice q8 x8.length c8, .int .i64 a9] 24)).alloc (.cells #[.slice none 0 0, .int .i64 0, .slice none 0 0, .int .i64 0, .bool false, .bool false, .int .i64 0, .slice none 0 0, .slice none 0 0, .int .i64 0] 26)).alloc (.cells #[.slice none 0 0, .int .i64 0, .slice none 0 0, .int .i64 0, .bool false, .bool false, .int .i64 0, .slice none 0 0, .slice none 0 0, .int .i64 0] 26) = c0 at T ⊢
  refine (Dt.toIntS x0 _ _ (intsK.rb H0.out T.out.bw) S0.out).mono ?_
  rintro e u0 ⟨g0, rfl, O0, hb⟩
  have W0 := hide O0
  clear O0
  have LO0 : Hid (w.heap.size + 1 + 1 < c0.heap.size) := T.out.o.lt
  have HI0 : Hid (u0.heap.size ≤ u0.heap.size) := Nat.le_refl _
  replace T := hide (T.out.below hb)
  clear hb H0 S0
  go_wp2_with (refine putMchMach_0 rfl rfl _ _ rfl (w.heap.size + 1 + 1) 0 _ T.out.o (by simp) rfl _ _ _ rfl ?_; intro v0 RB TB; refine Hid.out ?_)
  replace T := hide (three_fill T.out TB.out (O' := [.slice (some ⟨g0, 0, none⟩) x0.length x0.length, .int .i64 0, .slice none 0 0, .int .i64 0, .bool false, .bool false, .int .i64 0, .slice none 0 0, .slice none 0 0, .int .i64 0]) RB.out)
  replace W0 := hide (intsK.ot W0.out TB.out (fun q => by have := LO0.out; have := q.1; omega))
  replace HI0 : Hid (u0.heap.size ≤ v0.heap.size) := Nat.le_trans HI0.out TB.out.size
  clear RB TB
  refine hide ?_
  have ta1 := T.out.a.cell 1 _ rfl
  go_wp2_with (refine putMchMach_1 rfl rfl _ _ rfl (w.heap.size + 1 + 1) 1 _ T.out.o (by simp) rfl _ rfl ?_; intro v1 RB TB; refine Hid.out ?_)
  replace T := hide (three_fill T.out TB.out (O' := [.slice (some ⟨g0, 0, none⟩) x0.length x0.length, .int .i64 a1, .slice none 0 0, .int .i64 0, .bool false, .bool false, .int .i64 0, .slice none 0 0, .slice none 0 0, .int .i64 0]) RB.out)
  replace W0 := hide (intsK.ot W0.out TB.out (fun q => by have := LO0.out; have := q.1; omega))
  replace HI0 : Hid (u0.heap.size ≤ v1.heap.size) := Nat.le_trans HI0.out TB.out.size
  clear RB TB ta1
  refine hide ?_
  have ta2 := T.out.a.cell 2 _ rfl
  go_wp2_with fail
  refine (Dt.toIntS x2 _ _ (intsK.rb H2.out T.out.bw) S2.out).mono ?_
  rintro e u2 ⟨g2, rfl, O2, hb⟩
  have W2 := hide O2
  clear O2
  have LO2 : Hid (w.heap.size + 1 + 1 < v1.heap.size) := T.out.o.lt
  have HI2 : Hid (u2.heap.size ≤ u2.heap.size) := Nat.le_refl _
  replace T := hide (T.out.below hb)
  have M0_2 := HI0
  replace W0 := hide (intsK.ob W0.out hb)
  replace HI0 : Hid (u0.heap.size ≤ u2.heap.size) := Nat.le_trans HI0.out hb.size
  clear hb H2 S2 ta2
  go_wp2_with (refine putMchMach_0 rfl rfl _ _ rfl (w.heap.size + 1 + 1) 2 _ T.out.o (by simp) rfl _ _ _ rfl ?_; intro v2 RB TB; refine Hid.out ?_)
  replace T := hide (three_fill T.out TB.out (O' := [.slice (some ⟨g0, 0, none⟩) x0.length x0.length, .int .i64 a1, .slice (some ⟨g2, 0, none⟩) x2.length x2.length, .int .i64 0, .bool false, .bool false, .int .i64 0, .slice none 0 0, .slice none 0 0, .int .i64 0]) RB.out)
  replace W0 := hide (intsK.ot W0.out TB.out (fun q => by have := LO0.out; have := q.1; omega))
  replace HI0 : Hid (u0.heap.size ≤ v2.heap.size) := Nat.le_trans HI0.out TB.out.size
  replace W2 := hide (intsK.ot W2.out TB.out (fun q => by have := LO2.out; have := q.1; omega))
  replace HI2 : Hid (u2.heap.size ≤ v2.heap.size) := Nat.le_trans HI2.out TB.out.size
  clear RB TB
  refine hide ?_
  have ta3 := T.out.a.cell 3 _ rfl
  go_wp2_with (refine putMchMach_1 rfl rfl _ _ rfl (w.heap.size + 1 + 1) 3 _ T.out.o (by simp) rfl _ rfl ?_; intro v3 RB TB; refine Hid.out ?_)
  replace T := hide (three_fill T.out TB.out (O' := [.slice (some ⟨g0, 0, none⟩) x0.length x0.length, .int .i64 a1, .slice (some ⟨g2, 0, none⟩) x2.length x2.length, .int .i64 a3, .bool false, .bool false, .int .i64 0, .slice none 0 0, .slice none 0 0, .int .i64 0]) RB.out)
  replace W0 := hide (intsK.ot W0.out TB.out (fun q => by have := LO0.out; have := q.1; omega))
  replace HI0 : Hid (u0.heap.size ≤ v3.heap.size) := Nat.le_trans HI0.out TB.out.size
  replace W2 := hide (intsK.ot W2.out TB.out (fun q => by have := LO2.out; have := q.1; omega))
  replace HI2 : Hid (u2.heap.size ≤ v3.heap.size) := Nat.le_trans HI2.out TB.out.size
  clear RB TB ta3
  refine hide ?_
  have ta4 := T.out.a.cell 4 _ rfl
  go_wp2_with (refine putMchMach_4 rfl rfl _ _ rfl (w.heap.size + 1 + 1) 4 _ T.out.o (by simp) rfl _ rfl ?_; intro v4 RB TB; refine Hid.out ?_)
  replace T := hide (three_fill T.out TB.out (O' := [.slice (some ⟨g0, 0, none⟩) x0.length x0.length, .int .i64 a1, .slice (some ⟨g2, 0, none⟩) x2.length x2.length, .int .i64 a3, .bool a4, .bool false, .int .i64 0, .slice none 0 0, .slice none 0 0, .int .i64 0]) RB.out)
  replace W0 := hide (intsK.ot W0.out TB.out (fun q => by have := LO0.out; have := q.1; omega))
  replace HI0 : Hid (u0.heap.size ≤ v4.heap.size) := Nat.le_trans HI0.out TB.out.size
  replace W2 := hide (intsK.ot W2.out TB.out (fun q => by have := LO2.out; have := q.1; omega))
  replace HI2 : Hid (u2.heap.size ≤ v4.heap.size) := Nat.le_trans HI2.out TB.out.size
  clear RB TB ta4
  refine hide ?_
  have ta5 := T.out.a.cell 5 _ rfl
  go_wp2_with (refine putMchMach_4 rfl rfl _ _ rfl (w.heap.size + 1 + 1) 5 _ T.out.o (by simp) rfl _ rfl ?_; intro v5 RB TB; refine Hid.out ?_)
  replace T := hide (three_fill T.out TB.out (O' := [.slice (some ⟨g0, 0, none⟩) x0.length x0.length, .int .i64 a1, .slice (some ⟨g2, 0, none⟩) x2.length x2.length, .int .i64 a3, .bool a4, .bool a5, .int .i64 0, .slice none 0 0, .slice none 0 0, .int .i64 0]) RB.out)
  replace W0 := hide (intsK.ot W0.out TB.out (fun q => by have := LO0.out; have := q.1; omega))
  replace HI0 : Hid (u0.heap.size ≤ v5.heap.size) := Nat.le_trans HI0.out TB.out.size
  replace W2 := hide (intsK.ot W2.out TB.out (fun q => by have := LO2.out; have := q.1; omega))
  replace HI2 : Hid (u2.heap.size ≤ v5.heap.size) := Nat.le_trans HI2.out TB.out.size
  clear RB TB ta5
  refine hide ?_
  have ta6 := T.out.a.cell 6 _ rfl
  go_wp2_with (refine putMchMach_1 rfl rfl _ _ rfl (w.heap.size + 1 + 1) 6 _ T.out.o (by simp) rfl _ rfl ?_; intro v6 RB TB; refine Hid.out ?_)
  replace T := hide (three_fill T.out TB.out (O' := [.slice (some ⟨g0, 0, none⟩) x0.length x0.length, .int .i64 a1, .slice (some ⟨g2, 0, none⟩) x2.length x2.length, .int .i64 a3, .bool a4, .bool a5, .int .i64 a6, .slice none 0 0, .slice none 0 0, .int .i64 0]) RB.out)
  replace W0 := hide (intsK.ot W0.out TB.out (fun q => by have := LO0.out; have := q.1; omega))
  replace HI0 : Hid (u0.heap.size ≤ v6.heap.size) := Nat.le_trans HI0.out TB.out.size
  replace W2 := hide (intsK.ot W2.out TB.out (fun q => by have := LO2.out; have := q.1; omega))
  replace HI2 : Hid (u2.heap.size ≤ v6.heap.size) := Nat.le_trans HI2.out TB.out.size
  clear RB TB ta6
  refine hide ?_
  have ta7 := T.out.a.cell 7 _ rfl
  go_wp2_with fail
  refine (Dt.toIntS x7 _ _ (intsK.rb H7.out T.out.bw) S7.out).mono ?_
  rintro e u7 ⟨g7, rfl, O7, hb⟩
  have W7 := hide O7
  clear O7
  have LO7 : Hid (w.heap.size + 1 + 1 < v6.heap.size) := T.out.o.lt
  have HI7 : Hid (u7.heap.size ≤ u7.heap.size) := Nat.le_refl _
  replace T := hide (T.out.below hb)
  have M0_7 := HI0
  replace W0 := hide (intsK.ob W0.out hb)
  replace HI0 : Hid (u0.heap.size ≤ u7.heap.size) := Nat.le_trans HI0.out hb.size
  have M2_7 := HI2
  replace W2 := hide (intsK.ob W2.out hb)
  replace HI2 : Hid (u2.heap.size ≤ u7.heap.size) := Nat.le_trans HI2.out hb.size
  clear hb H7 S7 ta7
  go_wp2_with (refine putMchMach_0 rfl rfl _ _ rfl (w.heap.size + 1 + 1) 7 _ T.out.o (by simp) rfl _ _ _ rfl ?_; intro v7 RB TB; refine Hid.out ?_)
  replace T := hide (three_fill T.out TB.out (O' := [.slice (some ⟨g0, 0, none⟩) x0.length x0.length, .int .i64 a1, .slice (some ⟨g2, 0, none⟩) x2.length x2.length, .int .i64 a3, .bool a4, .bool a5, .int .i64 a6, .slice (some ⟨g7, 0, none⟩) x7.length x7.length, .slice none 0 0, .int .i64 0]) RB.out)
  replace W0 := hide (intsK.ot W0.out TB.out (fun q => by have := LO0.out; have := q.1; omega))
  replace HI0 : Hid (u0.heap.size ≤ v7.heap.size) := Nat.le_trans HI0.out TB.out.size
  replace W2 := hide (intsK.ot W2.out TB.out (fun q => by have := LO2.out; have := q.1; omega))
  replace HI2 : Hid (u2.heap.size ≤ v7.heap.size) := Nat.le_trans HI2.out TB.out.size
  replace W7 := hide (intsK.ot W7.out TB.out (fun q => by have := LO7.out; have := q.1; omega))
  replace HI7 : Hid (u7.heap.size ≤ v7.heap.size) := Nat.le_trans HI7.out TB.out.size
  clear RB TB
  refine hide ?_
  have ta8 := T.out.a.cell 8 _ rfl
  go_wp2_with fail
  refine (Dt.toIntS x8 _ _ (intsK.rb H8.out T.out.bw) S8.out).mono ?_
  rintro e u8 ⟨g8, rfl, O8, hb⟩
  have W8 := hide O8
  clear O8
  have LO8 : Hid (w.heap.size + 1 + 1 < v7.heap.size) := T.out.o.lt
  have HI8 : Hid (u8.heap.size ≤ u8.heap.size) := Nat.le_refl _
  replace T := hide (T.out.below hb)
  have M0_8 := HI0
  replace W0 := hide (intsK.ob W0.out hb)
  replace HI0 : Hid (u0.heap.size ≤ u8.heap.size) := Nat.le_trans HI0.out hb.size
  have M2_8 := HI2
  replace W2 := hide (intsK.ob W2.out hb)
  replace HI2 : Hid (u2.heap.size ≤ u8.heap.size) := Nat.le_trans HI2.out hb.size
  have M7_8 := HI7
  replace W7 := hide (intsK.ob W7.out hb)
  replace HI7 : Hid (u7.heap.size ≤ u8.heap.size) := Nat.le_trans HI7.out hb.size
  clear hb H8 S8 ta8
  go_wp2_with (refine putMchMach_0 rfl rfl _ _ rfl (w.heap.size + 1 + 1) 8 _ T.out.o (by simp) rfl _ _ _ rfl ?_; intro v8 RB TB; refine Hid.out ?_)
  replace T := hide (three_fill T.out TB.out (O' := [.slice (some ⟨g0, 0, none⟩) x0.length x0.length, .int .i64 a1, .slice (some ⟨g2, 0, none⟩) x2.length x2.length, .int .i64 a3, .bool a4, .bool a5, .int .i64 a6, .slice (some ⟨g7, 0, none⟩) x7.length x7.length, .slice (some ⟨g8, 0, none⟩) x8.length x8.length, .int .i64 0]) RB.out)
  replace W0 := hide (intsK.ot W0.out TB.out (fun q => by have := LO0.out; have := q.1; omega))
  replace HI0 : Hid (u0.heap.size ≤ v8.heap.size) := Nat.le_trans HI0.out TB.out.size
  replace W2 := hide (intsK.ot W2.out TB.out (fun q => by have := LO2.out; have := q.1; omega))
  replace HI2 : Hid (u2.heap.size ≤ v8.heap.size) := Nat.le_trans HI2.out TB.out.size
  replace W7 := hide (intsK.ot W7.out TB.out (fun q => by have := LO7.out; have := q.1; omega))
  replace HI7 : Hid (u7.heap.size ≤ v8.heap.size) := Nat.le_trans HI7.out TB.out.size
  replace W8 := hide (intsK.ot W8.out TB.out (fun q => by have := LO8.out; have := q.1; omega))
  replace HI8 : Hid (u8.heap.size ≤ v8.heap.size) := Nat.le_trans HI8.out TB.out.size
  clear RB TB
  refine hide ?_
  have ta9 := T.out.a.cell 9 _ rfl
  go_wp2_with (refine putMchMach_1 rfl rfl _ _ rfl (w.heap.size + 1 + 1) 9 _ T.out.o (by simp) rfl _ rfl ?_; intro v9 RB TB; refine Hid.out ?_)
  replace T := hide (three_fill T.out TB.out (O' := [.slice (some ⟨g0, 0, none⟩) x0.length x0.length, .int .i64 a1, .slice (some ⟨g2, 0, none⟩) x2.length x2.length, .int .i64 a3, .bool a4, .bool a5, .int .i64 a6, .slice (some ⟨g7, 0, none⟩) x7.length x7.length, .slice (some ⟨g8, 0, none⟩) x8.length x8.length, .int .i64 a9]) RB.out)
  replace W0 := hide (intsK.ot W0.out TB.out (fun q => by have := LO0.out; have := q.1; omega))
  replace HI0 : Hid (u0.heap.size ≤ v9.heap.size) := Nat.le_trans HI0.out TB.out.size
  replace W2 := hide (intsK.ot W2.out TB.out (fun q => by have := LO2.out; have := q.1; omega))
  replace HI2 : Hid (u2.heap.size ≤ v9.heap.size) := Nat.le_trans HI2.out TB.out.size
  replace W7 := hide (intsK.ot W7.out TB.out (fun q => by have := LO7.out; have := q.1; omega))
  replace HI7 : Hid (u7.heap.size ≤ v9.heap.size) := Nat.le_trans HI7.out TB.out.size
  replace W8 := hide (intsK.ot W8.out TB.out (fun q => by have := LO8.out; have := q.1; omega))
  replace HI8 : Hid (u8.heap.size ≤ v9.heap.size) := Nat.le_trans HI8.out TB.out.size
  clear RB TB ta9
  refine hide ?_
  have o0 := T.out.o.cell 0 _ rfl
  have o1 := T.out.o.cell 1 _ rfl
  have o2 := T.out.o.cell 2 _ rfl
  have o3 := T.out.o.cell 3 _ rfl
  have o4 := T.out.o.cell 4 _ rfl
  have o5 := T.out.o.cell 5 _ rfl
  have o6 := T.out.o.cell 6 _ rfl
  have o7 := T.out.o.cell 7 _ rfl
  have o8 := T.out.o.cell 8 _ rfl
  have o9 := T.out.o.cell 9 _ rfl
  go_wp2_with (refine layMchMach rfl rfl _ _ rfl (w.heap.size + 1) _ _ _ _ _ _ _ _ _ _ T.out.z rfl _ _ _ _ _ _ _ _ _ _ _ _ _ _ _ _ _ _ rfl ?_; intro V RB TB; refine Hid.out ?_)
  replace W0 := hide (intsK.ot W0.out TB.out (fun q => by have := LO0.out; have := q.1; omega))
  replace HI0 : Hid (u0.heap.size ≤ V.heap.size) := Nat.le_trans HI0.out TB.out.size
  replace W2 := hide (intsK.ot W2.out TB.out (fun q => by have := LO2.out; have := q.1; omega))
  replace HI2 : Hid (u2.heap.size ≤ V.heap.size) := Nat.le_trans HI2.out TB.out.size
  replace W7 := hide (intsK.ot W7.out TB.out (fun q => by have := LO7.out; have := q.1; omega))
  replace HI7 : Hid (u7.heap.size ≤ V.heap.size) := Nat.le_trans HI7.out TB.out.size
  replace W8 := hide (intsK.ot W8.out TB.out (fun q => by have := LO8.out; have := q.1; omega))
  replace HI8 : Hid (u8.heap.size ≤ V.heap.size) := Nat.le_trans HI8.out TB.out.size
  have BW := hide (T.out.bw.trans (TB.out.below (by omega) (Nat.le_of_lt T.out.a.lt)))
  have z0 := RB.out.cell 0 _ rfl
  have z1 := RB.out.cell 1 _ rfl
  have z2 := RB.out.cell 2 _ rfl
  have z3 := RB.out.cell 3 _ rfl
  have z4 := RB.out.cell 4 _ rfl
  have z5 := RB.out.cell 5 _ rfl
  have z6 := RB.out.cell 6 _ rfl
  have z7 := RB.out.cell 7 _ rfl
  have z8 := RB.out.cell 8 _ rfl
  have z9 := RB.out.cell 9 _ rfl
  have FIN := hide (machR_omk (A := New w V) (x0 := x0) (a1 := a1) (x2 := x2) (a3 := a3) (a4 := a4) (a5 := a5) (a6 := a6) (x7 := x7) (x8 := x8) (a9 := a9) W0.out W2.out W7.out W8.out (fun b q => ⟨by have := LO0.out; have := q.1; omega, by have := HI0.out; have := q.2; omega⟩) (fun b q => ⟨by have := LO2.out; have := q.1; omega, by have := HI2.out; have := q.2; omega⟩) (fun b q => ⟨by have := LO7.out; have := q.1; omega, by have := HI7.out; have := q.2; omega⟩) (fun b q => ⟨by have := LO8.out; have := q.1; omega, by have := HI8.out; have := q.2; omega⟩) (fun b q r => by have := M0_2.out; have := q.2; have := r.1; omega) (fun b q r => by have := M0_7.out; have := q.2; have := r.1; omega) (fun b q r => by have := M0_8.out; have := q.2; have := r.1; omega) (fun b q r => by have := M2_7.out; have := q.2; have := r.1; omega) (fun b q r => by have := M2_8.out; have := q.2; have := r.1; omega) (fun b q r => by have := M7_8.out; have := q.2; have := r.1; omega))
  clear RB TB T o0 o1 o2 o3 o4 o5 o6 o7 o8 o9
  refine hide ?_
  go_wp2
  exact bodyPost_ret (v := .agg #[.slice (some ⟨g0, 0, none⟩) x0.length x0.length, .int .i64 a1, .slice (some ⟨g2, 0, none⟩) x2.length x2.length, .int .i64 a3, .bool a4, .bool a5, .int .i64 a6, .slice (some ⟨g7, 0, none⟩) x7.length x7.length, .slice (some ⟨g8, 0, none⟩) x8.length x8.length, .int .i64 a9]) (by simp [results, Try.results7, go_sem, z0, z1, z2, z3, z4, z5, z6, z7, z8, z9]) rfl ⟨g0, g2, g7, g8, rfl, FIN.out, BW.out⟩
set_option maxRecDepth 8000 in
set_option maxHeartbeats 4000000 in
theorem eqMchMach (x0 : List Int) (a1 : Int) (x2 : List Int) (a3 : Int) (a4 : Bool) (a5 : Bool) (a6 : Int) (x7 : List Int) (x8 : List Int) (a9 : Int) (cs cs' : List Value) (w : World) (h : machR.rd w cs (x0, a1, x2, a3, a4, a5, a6, x7, x8, a9)) (h' : machR.rd w cs' (x0, a1, x2, a3, a4, a5, a6, x7, x8, a9)) :
    Calls Try.prog 10 #[.agg cs.toArray, .agg cs'.toArray] w fun e w' => e = .returned (.bool true) ∧ Below w.heap.size w w' := by
  obtain ⟨q0, c0, q2, c2, q7, c7, q8, c8, rfl, k0, k2, k7, k8⟩ := machR_rd h
  obtain ⟨p0, d0, p2, d2, p7, d7, p8, d8, rfl, l0, l2, l7, l8⟩ := machR_rd h'
  have bV : Below w.heap.size w ((w.alloc (.cells #[.slice q0 x0.length c0, .int .i64 a1, .slice q2 x2.length c2, .int .i64 a3, .bool a4, .bool a5, .int .i64 a6, .slice q7 x7.length c7, .slice q8 x8.length c8, .int .i64 a9] 26)).alloc (.cells #[.slice p0 x0.length d0, .int .i64 a1, .slice p2 x2.length d2, .int .i64 a3, .bool a4, .bool a5, .int .i64 a6, .slice p7 x7.length d7, .slice p8 x8.length d8, .int .i64 a9] 26)) := ((Below.refl _ _).alloc (Nat.le_refl _) _).alloc (by simp) _
  have RR := hide ((Rec.new w [.slice q0 x0.length c0, .int .i64 a1, .slice q2 x2.length c2, .int .i64 a3, .bool a4, .bool a5, .int .i64 a6, .slice q7 x7.length c7, .slice q8 x8.length c8, .int .i64 a9] 26).alloc (.cells #[.slice p0 x0.length d0, .int .i64 a1, .slice p2 x2.length d2, .int .i64 a3, .bool a4, .bool a5, .int .i64 a6, .slice p7 x7.length d7, .slice p8 x8.length d8, .int .i64 a9] 26))
  have RS := Rec.new (w.alloc (.cells #[.slice q0 x0.length c0, .int .i64 a1, .slice q2 x2.length c2, .int .i64 a3, .bool a4, .bool a5, .int .i64 a6, .slice q7 x7.length c7, .slice q8 x8.length c8, .int .i64 a9] 26)) [.slice p0 x0.length d0, .int .i64 a1, .slice p2 x2.length d2, .int .i64 a3, .bool a4, .bool a5, .int .i64 a6, .slice p7 x7.length d7, .slice p8 x8.length d8, .int .i64 a9] 26
  rw [show (w.alloc (.cells #[.slice q0 x0.length c0, .int .i64 a1, .slice q2 x2.length c2, .int .i64 a3, .bool a4, .bool a5, .int .i64 a6, .slice q7 x7.length c7, .slice q8 x8.length c8, .int .i64 a9] 26)).heap.size = w.heap.size + 1 by simp] at RS
  replace RS := hide RS
  have H0 := hide (intsK.rb k0 bV)
  have J0 := hide (intsK.rb l0 bV)
  have H2 := hide (intsK.rb k2 bV)
  have J2 := hide (intsK.rb l2 bV)
  have H7 := hide (intsK.rb k7 bV)
  have J7 := hide (intsK.rb l7 bV)
  have H8 := hide (intsK.rb k8 bV)
  have J8 := hide (intsK.rb l8 bV)
  have ne1 : (a1 != a1) = false := by simp
  have ne3 : (a3 != a3) = false := by simp
  have ne4 : (a4 != a4) = false := by simp
  have ne5 : (a5 != a5) = false := by simp
  have ne6 : (a6 != a6) = false := by simp
  have ne9 : (a9 != a9) = false := by simp
  have BW := hide bV
  clear bV h h' k0 l0 k2 l2 k7 l7 k8 l8
  go_enter Try.func10, Try.ntmps10
  go_wp2_with fail
  refine (Dt.eqIntS x0 _ _ _ H0.out J0.out).mono ?_
  rintro e u0 ⟨rfl, hb⟩
  replace RR := hide (RR.out.below hb)
  replace RS := hide (RS.out.below hb)
  replace BW := hide (BW.out.trans (hb.mono BW.out.size))
  replace H2 := hide (intsK.rb H2.out hb)
  replace J2 := hide (intsK.rb J2.out hb)
  replace H7 := hide (intsK.rb H7.out hb)
  replace J7 := hide (intsK.rb J7.out hb)
  replace H8 := hide (intsK.rb H8.out hb)
  replace J8 := hide (intsK.rb J8.out hb)
  clear hb
  have z0 := RR.out.cell 0 _ rfl
  have y0 := RS.out.cell 0 _ rfl
  have z1 := RR.out.cell 1 _ rfl
  have y1 := RS.out.cell 1 _ rfl
  have z2 := RR.out.cell 2 _ rfl
  have y2 := RS.out.cell 2 _ rfl
  have z3 := RR.out.cell 3 _ rfl
  have y3 := RS.out.cell 3 _ rfl
  have z4 := RR.out.cell 4 _ rfl
  have y4 := RS.out.cell 4 _ rfl
  have z5 := RR.out.cell 5 _ rfl
  have y5 := RS.out.cell 5 _ rfl
  have z6 := RR.out.cell 6 _ rfl
  have y6 := RS.out.cell 6 _ rfl
  have z7 := RR.out.cell 7 _ rfl
  have y7 := RS.out.cell 7 _ rfl
  have z8 := RR.out.cell 8 _ rfl
  have y8 := RS.out.cell 8 _ rfl
  have z9 := RR.out.cell 9 _ rfl
  have y9 := RS.out.cell 9 _ rfl
  go_wp2_with fail
  refine (Dt.eqIntS x2 _ _ _ H2.out J2.out).mono ?_
  rintro e u2 ⟨rfl, hb⟩
  replace RR := hide (RR.out.below hb)
  replace RS := hide (RS.out.below hb)
  replace BW := hide (BW.out.trans (hb.mono BW.out.size))
  replace H7 := hide (intsK.rb H7.out hb)
  replace J7 := hide (intsK.rb J7.out hb)
  replace H8 := hide (intsK.rb H8.out hb)
  replace J8 := hide (intsK.rb J8.out hb)
  clear hb z0 y0 z1 y1 z2 y2 z3 y3 z4 y4 z5 y5 z6 y6 z7 y7 z8 y8 z9 y9
  have z0 := RR.out.cell 0 _ rfl
  have y0 := RS.out.cell 0 _ rfl
  have z1 := RR.out.cell 1 _ rfl
  have y1 := RS.out.cell 1 _ rfl
  have z2 := RR.out.cell 2 _ rfl
  have y2 := RS.out.cell 2 _ rfl
  have z3 := RR.out.cell 3 _ rfl
  have y3 := RS.out.cell 3 _ rfl
  have z4 := RR.out.cell 4 _ rfl
  have y4 := RS.out.cell 4 _ rfl
  have z5 := RR.out.cell 5 _ rfl
  have y5 := RS.out.cell 5 _ rfl
  have z6 := RR.out.cell 6 _ rfl
  have y6 := RS.out.cell 6 _ rfl
  have z7 := RR.out.cell 7 _ rfl
  have y7 := RS.out.cell 7 _ rfl
  have z8 := RR.out.cell 8 _ rfl
  have y8 := RS.out.cell 8 _ rfl
  have z9 := RR.out.cell 9 _ rfl
  have y9 := RS.out.cell 9 _ rfl
  go_wp2_with fail
  refine (Dt.eqIntS x7 _ _ _ H7.out J7.out).mono ?_
  rintro e u7 ⟨rfl, hb⟩
  replace RR := hide (RR.out.below hb)
  replace RS := hide (RS.out.below hb)
  replace BW := hide (BW.out.trans (hb.mono BW.out.size))
  replace H8 := hide (intsK.rb H8.out hb)
  replace J8 := hide (intsK.rb J8.out hb)
  clear hb z0 y0 z1 y1 z2 y2 z3 y3 z4 y4 z5 y5 z6 y6 z7 y7 z8 y8 z9 y9
  have z0 := RR.out.cell 0 _ rfl
  have y0 := RS.out.cell 0 _ rfl
  have z1 := RR.out.cell 1 _ rfl
  have y1 := RS.out.cell 1 _ rfl
  have z2 := RR.out.cell 2 _ rfl
  have y2 := RS.out.cell 2 _ rfl
  have z3 := RR.out.cell 3 _ rfl
  have y3 := RS.out.cell 3 _ rfl
  have z4 := RR.out.cell 4 _ rfl
  have y4 := RS.out.cell 4 _ rfl
  have z5 := RR.out.cell 5 _ rfl
  have y5 := RS.out.cell 5 _ rfl
  have z6 := RR.out.cell 6 _ rfl
  have y6 := RS.out.cell 6 _ rfl
  have z7 := RR.out.cell 7 _ rfl
  have y7 := RS.out.cell 7 _ rfl
  have z8 := RR.out.cell 8 _ rfl
  have y8 := RS.out.cell 8 _ rfl
  have z9 := RR.out.cell 9 _ rfl
  have y9 := RS.out.cell 9 _ rfl
  go_wp2_with fail
  refine (Dt.eqIntS x8 _ _ _ H8.out J8.out).mono ?_
  rintro e u8 ⟨rfl, hb⟩
  replace RR := hide (RR.out.below hb)
  replace RS := hide (RS.out.below hb)
  replace BW := hide (BW.out.trans (hb.mono BW.out.size))
  clear hb z0 y0 z1 y1 z2 y2 z3 y3 z4 y4 z5 y5 z6 y6 z7 y7 z8 y8 z9 y9
  have z0 := RR.out.cell 0 _ rfl
  have y0 := RS.out.cell 0 _ rfl
  have z1 := RR.out.cell 1 _ rfl
  have y1 := RS.out.cell 1 _ rfl
  have z2 := RR.out.cell 2 _ rfl
  have y2 := RS.out.cell 2 _ rfl
  have z3 := RR.out.cell 3 _ rfl
  have y3 := RS.out.cell 3 _ rfl
  have z4 := RR.out.cell 4 _ rfl
  have y4 := RS.out.cell 4 _ rfl
  have z5 := RR.out.cell 5 _ rfl
  have y5 := RS.out.cell 5 _ rfl
  have z6 := RR.out.cell 6 _ rfl
  have y6 := RS.out.cell 6 _ rfl
  have z7 := RR.out.cell 7 _ rfl
  have y7 := RS.out.cell 7 _ rfl
  have z8 := RR.out.cell 8 _ rfl
  have y8 := RS.out.cell 8 _ rfl
  have z9 := RR.out.cell 9 _ rfl
  have y9 := RS.out.cell 9 _ rfl
  go_wp2
  go_ret
  exact ⟨rfl, BW.out⟩
theorem machR_nx {x0 : List Int} {a1 : Int} {x2 : List Int} {a3 : Int} {a4 : Bool} {a5 : Bool} {a6 : Int} {x7 : List Int} {x8 : List Int} {a9 : Int} : machR.nx (x0, a1, x2, a3, a4, a5, a6, x7, x8, a9) = intsK.nx x0 + (intsK.nx x2 + (intsK.nx x7 + (intsK.nx x8 + (0)))) := rfl
theorem machR_mr {x0 : List Int} {a1 : Int} {x2 : List Int} {a3 : Int} {a4 : Bool} {a5 : Bool} {a6 : Int} {x7 : List Int} {x8 : List Int} {a9 : Int} (k : Int) : machR.mr k (x0, a1, x2, a3, a4, a5, a6, x7, x8, a9) = (intsK.mr (k) x0, a1, intsK.mr (k + (intsK.nx x0 : Nat)) x2, a3, a4, a5, a6, intsK.mr (k + (intsK.nx x0 : Nat) + (intsK.nx x2 : Nat)) x7, intsK.mr (k + (intsK.nx x0 : Nat) + (intsK.nx x2 : Nat) + (intsK.nx x7 : Nat)) x8, a9) := rfl
set_option maxRecDepth 8000 in
set_option maxHeartbeats 4000000 in
theorem markMchMach (x0 : List Int) (a1 : Int) (x2 : List Int) (a3 : Int) (a4 : Bool) (a5 : Bool) (a6 : Int) (x7 : List Int) (x8 : List Int) (a9 : Int) (k : Int) (A : Nat → Prop) (cs : List Value) (w : World) (h : machR.ow w A cs (x0, a1, x2, a3, a4, a5, a6, x7, x8, a9)) (hA : ∀ b, A b → b < w.heap.size) (k0 : 0 ≤ k) (k1 : k + (machR.nx (x0, a1, x2, a3, a4, a5, a6, x7, x8, a9) : Nat) ≤ 1000000000) :
    Calls Try.prog 11 #[.agg cs.toArray, .int .i64 k] w fun e w' => e = .returned (.int .i64 (k + (machR.nx (x0, a1, x2, a3, a4, a5, a6, x7, x8, a9) : Nat))) ∧ machR.ow w' A cs (machR.mr k (x0, a1, x2, a3, a4, a5, a6, x7, x8, a9)) ∧ Keep A w w' := by
  obtain ⟨q0, c0, q2, c2, q7, c7, q8, c8, A0, A2, A7, A8, rfl, kk0, kk2, kk7, kk8, s0, s2, s7, s8, d0_2, d0_7, d0_8, d2_7, d2_8, d7_8⟩ := machR_own h
  rw [machR_nx] at k1 ⊢
  rw [machR_mr]
  have K1 := hide k1
  have bV : Below w.heap.size w (w.alloc (.cells #[.slice q0 x0.length c0, .int .i64 a1, .slice q2 x2.length c2, .int .i64 a3, .bool a4, .bool a5, .int .i64 a6, .slice q7 x7.length c7, .slice q8 x8.length c8, .int .i64 a9] 26)) := (Below.refl _ _).alloc (Nat.le_refl _) _
  have RR := hide (Rec.new w [.slice q0 x0.length c0, .int .i64 a1, .slice q2 x2.length c2, .int .i64 a3, .bool a4, .bool a5, .int .i64 a6, .slice q7 x7.length c7, .slice q8 x8.length c8, .int .i64 a9] 26)
  have H0 := hide (intsK.ob kk0 bV)
  have H2 := hide (intsK.ob kk2 bV)
  have H7 := hide (intsK.ob kk7 bV)
  have H8 := hide (intsK.ob kk8 bV)
  have NB : Hid (¬ A w.heap.size) := fun q => by have := hA _ q; omega
  have KP : Hid (Keep A w _) := Keep.of_below bV
  obtain ⟨E, eE⟩ : ∃ E, k + ((intsK.nx x0 + (intsK.nx x2 + (intsK.nx x7 + (intsK.nx x8 + (0)))) : Nat) : Int) = E := ⟨_, rfl⟩
  rw [eE]
  have EE := hide eE
  clear bV h k1 eE kk0 kk2 kk7 kk8
  obtain ⟨k2_, ek2⟩ : ∃ z, k + (intsK.nx x0 : Nat) = z := ⟨_, rfl⟩
  have EK2 := hide ek2
  have kb2 : 0 ≤ k2_ ∧ k2_ ≤ 1000000000 := by have := K1.out; have := EK2.out; omega
  rw [ek2] at ⊢
  clear ek2
  obtain ⟨k7_, ek7⟩ : ∃ z, k2_ + (intsK.nx x2 : Nat) = z := ⟨_, rfl⟩
  have EK7 := hide ek7
  have kb7 : 0 ≤ k7_ ∧ k7_ ≤ 1000000000 := by have := K1.out; have := EK2.out; have := EK7.out; omega
  rw [ek7] at ⊢
  clear ek7
  obtain ⟨k8_, ek8⟩ : ∃ z, k7_ + (intsK.nx x7 : Nat) = z := ⟨_, rfl⟩
  have EK8 := hide ek8
  have kb8 : 0 ≤ k8_ ∧ k8_ ≤ 1000000000 := by have := K1.out; have := EK2.out; have := EK7.out; have := EK8.out; omega
  rw [ek8] at ⊢
  clear ek8
  have EL : Hid (k8_ + (intsK.nx x8 : Nat) = E) := show _ = _ by have := EE.out; have := EK2.out; have := EK7.out; have := EK8.out; omega
  have eb : 0 ≤ E ∧ E ≤ 1000000000 := by have := EE.out; have := K1.out; omega
  go_enter Try.func11, Try.ntmps11
  go_wp2_with fail
  refine (Dt.markIntS x0 k A0 _ _ H0.out k0 (by have := K1.out; omega)).mono ?_
  rintro e u0 ⟨rfl, O0, hk⟩
  have W0 := hide O0
  clear O0
  replace RR := hide (RR.out.keep hk (fun q => NB.out (s0 _ q)))
  replace KP := hide (KP.out.trans (hk.mono (fun b _ q => s0 b q)))
  replace H2 := hide (intsK.ok H2.out hk (fun b q r => d0_2 b r q))
  replace H7 := hide (intsK.ok H7.out hk (fun b q r => d0_7 b r q))
  replace H8 := hide (intsK.ok H8.out hk (fun b q r => d0_8 b r q))
  clear hk H0
  rw [EK2.out]
  have z2 := RR.out.cell 2 _ rfl
  go_wp2_with fail
  refine (Dt.markIntS x2 k2_ A2 _ _ H2.out kb2.1 (by have := K1.out; have := EK2.out; omega)).mono ?_
  rintro e u2 ⟨rfl, O2, hk⟩
  have W2 := hide O2
  clear O2
  replace RR := hide (RR.out.keep hk (fun q => NB.out (s2 _ q)))
  replace KP := hide (KP.out.trans (hk.mono (fun b _ q => s2 b q)))
  replace W0 := hide (intsK.ok W0.out hk (fun b q r => d0_2 b q r))
  replace H7 := hide (intsK.ok H7.out hk (fun b q r => d2_7 b r q))
  replace H8 := hide (intsK.ok H8.out hk (fun b q r => d2_8 b r q))
  clear hk H2 z2
  rw [EK7.out]
  have z7 := RR.out.cell 7 _ rfl
  go_wp2_with fail
  refine (Dt.markIntS x7 k7_ A7 _ _ H7.out kb7.1 (by have := K1.out; have := EK2.out; have := EK7.out; omega)).mono ?_
  rintro e u7 ⟨rfl, O7, hk⟩
  have W7 := hide O7
  clear O7
  replace RR := hide (RR.out.keep hk (fun q => NB.out (s7 _ q)))
  replace KP := hide (KP.out.trans (hk.mono (fun b _ q => s7 b q)))
  replace W0 := hide (intsK.ok W0.out hk (fun b q r => d0_7 b q r))
  replace W2 := hide (intsK.ok W2.out hk (fun b q r => d2_7 b q r))
  replace H8 := hide (intsK.ok H8.out hk (fun b q r => d7_8 b r q))
  clear hk H7 z7
  rw [EK8.out]
  have z8 := RR.out.cell 8 _ rfl
  go_wp2_with fail
  refine (Dt.markIntS x8 k8_ A8 _ _ H8.out kb8.1 (by have := K1.out; have := EK2.out; have := EK7.out; have := EK8.out; omega)).mono ?_
  rintro e u8 ⟨rfl, O8, hk⟩
  have W8 := hide O8
  clear O8
  replace RR := hide (RR.out.keep hk (fun q => NB.out (s8 _ q)))
  replace KP := hide (KP.out.trans (hk.mono (fun b _ q => s8 b q)))
  replace W0 := hide (intsK.ok W0.out hk (fun b q r => d0_8 b q r))
  replace W2 := hide (intsK.ok W2.out hk (fun b q r => d2_8 b q r))
  replace W7 := hide (intsK.ok W7.out hk (fun b q r => d7_8 b q r))
  clear hk H8 z8
  rw [EL.out]
  have FIN := hide (machR_omk (A := A) (a1 := a1) (a3 := a3) (a4 := a4) (a5 := a5) (a6 := a6) (a9 := a9) W0.out W2.out W7.out W8.out s0 s2 s7 s8 d0_2 d0_7 d0_8 d2_7 d2_8 d7_8)
  clear RR
  go_wp2
  go_ret
  exact ⟨rfl, FIN.out, KP.out⟩
set_option maxRecDepth 8000 in
set_option maxHeartbeats 4000000 in
theorem heldMchMach (x0 : List Int) (a1 : Int) (x2 : List Int) (a3 : Int) (a4 : Bool) (a5 : Bool) (a6 : Int) (x7 : List Int) (x8 : List Int) (a9 : Int) (k : Int) (cs : List Value) (w : World) (h : machR.rd w cs (machR.mr k (x0, a1, x2, a3, a4, a5, a6, x7, x8, a9))) (k0 : 0 ≤ k) (k1 : k + (machR.nx (x0, a1, x2, a3, a4, a5, a6, x7, x8, a9) : Nat) ≤ 1000000000) :
    Calls Try.prog 31 #[.agg cs.toArray, .int .i64 k] w fun e w' => e = .returned (.int .i64 (k + (machR.nx (x0, a1, x2, a3, a4, a5, a6, x7, x8, a9) : Nat))) ∧ Below w.heap.size w w' := by
  obtain ⟨q0, c0, q2, c2, q7, c7, q8, c8, rfl, kk0, kk2, kk7, kk8⟩ := machR_rd (show machR.rd w cs (intsK.mr (k) x0, a1, intsK.mr (k + (intsK.nx x0 : Nat)) x2, a3, a4, a5, a6, intsK.mr (k + (intsK.nx x0 : Nat) + (intsK.nx x2 : Nat)) x7, intsK.mr (k + (intsK.nx x0 : Nat) + (intsK.nx x2 : Nat) + (intsK.nx x7 : Nat)) x8, a9) from h)
  simp only [intsK_len, intsK_len, intsK_len, intsK_len] at kk0 kk2 kk7 kk8 ⊢
  rw [machR_nx] at k1 ⊢
  have K1 := hide k1
  have bV : Below w.heap.size w (w.alloc (.cells #[.slice q0 x0.length c0, .int .i64 a1, .slice q2 x2.length c2, .int .i64 a3, .bool a4, .bool a5, .int .i64 a6, .slice q7 x7.length c7, .slice q8 x8.length c8, .int .i64 a9] 26)) := (Below.refl _ _).alloc (Nat.le_refl _) _
  have RR := hide (Rec.new w [.slice q0 x0.length c0, .int .i64 a1, .slice q2 x2.length c2, .int .i64 a3, .bool a4, .bool a5, .int .i64 a6, .slice q7 x7.length c7, .slice q8 x8.length c8, .int .i64 a9] 26)
  have H0 := hide (intsK.rb kk0 bV)
  have H2 := hide (intsK.rb kk2 bV)
  have H7 := hide (intsK.rb kk7 bV)
  have H8 := hide (intsK.rb kk8 bV)
  have BW := hide bV
  obtain ⟨E, eE⟩ : ∃ E, k + ((intsK.nx x0 + (intsK.nx x2 + (intsK.nx x7 + (intsK.nx x8 + (0)))) : Nat) : Int) = E := ⟨_, rfl⟩
  rw [eE]
  have EE := hide eE
  clear bV h k1 eE kk0 kk2 kk7 kk8
  obtain ⟨k2_, ek2⟩ : ∃ z, k + (intsK.nx x0 : Nat) = z := ⟨_, rfl⟩
  have EK2 := hide ek2
  have kb2 : 0 ≤ k2_ ∧ k2_ ≤ 1000000000 := by have := K1.out; have := EK2.out; omega
  rw [ek2] at H2 H7 H8
  clear ek2
  obtain ⟨k7_, ek7⟩ : ∃ z, k2_ + (intsK.nx x2 : Nat) = z := ⟨_, rfl⟩
  have EK7 := hide ek7
  have kb7 : 0 ≤ k7_ ∧ k7_ ≤ 1000000000 := by have := K1.out; have := EK2.out; have := EK7.out; omega
  rw [ek7] at H7 H8
  clear ek7
  obtain ⟨k8_, ek8⟩ : ∃ z, k7_ + (intsK.nx x7 : Nat) = z := ⟨_, rfl⟩
  have EK8 := hide ek8
  have kb8 : 0 ≤ k8_ ∧ k8_ ≤ 1000000000 := by have := K1.out; have := EK2.out; have := EK7.out; have := EK8.out; omega
  rw [ek8] at H8
  clear ek8
  have EL : Hid (k8_ + (intsK.nx x8 : Nat) = E) := show _ = _ by have := EE.out; have := EK2.out; have := EK7.out; have := EK8.out; omega
  have eb : 0 ≤ E ∧ E ≤ 1000000000 := by have := EE.out; have := K1.out; omega
  go_enter Try.func31, Try.ntmps31
  go_wp2_with fail
  refine (Dt.heldIntS x0 k _ _ H0.out k0 (by have := K1.out; omega)).mono ?_
  rintro e u0 ⟨rfl, hb⟩
  replace RR := hide (RR.out.below hb)
  replace BW := hide (BW.out.trans (hb.mono BW.out.size))
  replace H2 := hide (intsK.rb H2.out hb)
  replace H7 := hide (intsK.rb H7.out hb)
  replace H8 := hide (intsK.rb H8.out hb)
  clear hb H0
  rw [EK2.out]
  have nn0 : ¬ k2_ < 0 := by omega
  have z2 := RR.out.cell 2 _ rfl
  go_wp2_with fail
  refine (Dt.heldIntS x2 k2_ _ _ H2.out kb2.1 (by have := K1.out; have := EK2.out; omega)).mono ?_
  rintro e u2 ⟨rfl, hb⟩
  replace RR := hide (RR.out.below hb)
  replace BW := hide (BW.out.trans (hb.mono BW.out.size))
  replace H7 := hide (intsK.rb H7.out hb)
  replace H8 := hide (intsK.rb H8.out hb)
  clear hb H2 z2
  rw [EK7.out]
  have nn2 : ¬ k7_ < 0 := by omega
  have z7 := RR.out.cell 7 _ rfl
  go_wp2_with fail
  refine (Dt.heldIntS x7 k7_ _ _ H7.out kb7.1 (by have := K1.out; have := EK2.out; have := EK7.out; omega)).mono ?_
  rintro e u7 ⟨rfl, hb⟩
  replace RR := hide (RR.out.below hb)
  replace BW := hide (BW.out.trans (hb.mono BW.out.size))
  replace H8 := hide (intsK.rb H8.out hb)
  clear hb H7 z7
  rw [EK8.out]
  have nn7 : ¬ k8_ < 0 := by omega
  have z8 := RR.out.cell 8 _ rfl
  go_wp2_with fail
  refine (Dt.heldIntS x8 k8_ _ _ H8.out kb8.1 (by have := K1.out; have := EK2.out; have := EK7.out; have := EK8.out; omega)).mono ?_
  rintro e u8 ⟨rfl, hb⟩
  replace RR := hide (RR.out.below hb)
  replace BW := hide (BW.out.trans (hb.mono BW.out.size))
  clear hb H8 z8
  rw [EL.out]
  have nn8 : ¬ E < 0 := by omega
  go_wp2
  go_ret
  exact ⟨rfl, BW.out⟩
set_option maxRecDepth 8000 in
theorem machR_hold {w : World} {n : Nat} {cs : List Value} (h : Shape.Holds Try.prog w (n + 3) 24 cs) : ∃ x0 a1 x2 a3 a4 a5 a6 x7 x8 a9, machR.rd w cs (x0, a1, x2, a3, a4, a5, a6, x7, x8, a9) := by
  obtain ⟨hl, hf⟩ := Shape.holds_struct (n := n + 2) Try.underlying24 h
  have em : Try.prog.cellsOf 24 = 10 := by kernel_rfl
  rw [em] at hl
  have ec0 : Try.prog.cellsOf 22 = 1 := by kernel_rfl
  have ec1 : Try.prog.cellsOf 3 = 1 := by kernel_rfl
  have ec4 : Try.prog.cellsOf 4 = 1 := by kernel_rfl
  obtain ⟨v0, x0, e0, k0⟩ := intsK_hold (n := n + 0) (hf _ (List.mem_of_getElem? (i := 0) rfl))
  obtain ⟨a1, e1, _⟩ := Shape.holds_int (n := n + 1) Try.underlying3 (hf _ (List.mem_of_getElem? (i := 1) rfl))
  obtain ⟨v2, x2, e2, k2⟩ := intsK_hold (n := n + 0) (hf _ (List.mem_of_getElem? (i := 2) rfl))
  obtain ⟨a3, e3, _⟩ := Shape.holds_int (n := n + 1) Try.underlying3 (hf _ (List.mem_of_getElem? (i := 3) rfl))
  obtain ⟨a4, e4⟩ := Shape.holds_bool (n := n + 1) Try.underlying4 (hf _ (List.mem_of_getElem? (i := 4) rfl))
  obtain ⟨a5, e5⟩ := Shape.holds_bool (n := n + 1) Try.underlying4 (hf _ (List.mem_of_getElem? (i := 5) rfl))
  obtain ⟨a6, e6, _⟩ := Shape.holds_int (n := n + 1) Try.underlying3 (hf _ (List.mem_of_getElem? (i := 6) rfl))
  obtain ⟨v7, x7, e7, k7⟩ := intsK_hold (n := n + 0) (hf _ (List.mem_of_getElem? (i := 7) rfl))
  obtain ⟨v8, x8, e8, k8⟩ := intsK_hold (n := n + 0) (hf _ (List.mem_of_getElem? (i := 8) rfl))
  obtain ⟨a9, e9, _⟩ := Shape.holds_int (n := n + 1) Try.underlying3 (hf _ (List.mem_of_getElem? (i := 9) rfl))
  match cs, hl with
  | [c0, c1, c2, c3, c4, c5, c6, c7, c8, c9], _ =>
    simp [ec0, ec1, ec4] at e0 e1 e2 e3 e4 e5 e6 e7 e8 e9
    subst e0 e1 e2 e3 e4 e5 e6 e7 e8 e9
    exact ⟨x0, a1, x2, a3, a4, a5, a6, x7, x8, a9, machR_mk k0 k2 k7 k8⟩
end Go.Proofs.Ytlgpnogeoaoidaa.Dt
