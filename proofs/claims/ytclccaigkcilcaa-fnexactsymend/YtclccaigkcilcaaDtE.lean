/-
  Plain data: events and lists of them, by kinds.
-/
import Derived.Test.YtclccaigkcilcaaDtP
namespace Go.Proofs.Ytclccaigkcilcaa.Dt
set_option linter.unusedVariables false
set_option linter.unusedSimpArgs false
open Go.ChangeShapes Go.WideShapes Go.ChangeAt Go.RowKit IntS Pol
def evR : Rw (Int × Int × List Mono × List Mono × List (List Mono)) := int (int (sub polyK (sub polyK (last sumsK))))
theorem evR_rd {w : World} {cs : List Value} {a0 : Int} {a1 : Int} {x2 : List Mono} {x3 : List Mono} {x4 : List (List Mono)} (h : evR.rd w cs (a0, a1, x2, x3, x4)) : ∃ (q2 : Option Addr) (c2 : Nat) (q3 : Option Addr) (c3 : Nat) (q4 : Option Addr) (c4 : Nat), cs = [.int .i64 a0, .int .i64 a1, .slice q2 x2.length c2, .slice q3 x3.length c3, .slice q4 x4.length c4] ∧ polyK.rd w (.slice q2 x2.length c2) x2 ∧ polyK.rd w (.slice q3 x3.length c3) x3 ∧ sumsK.rd w (.slice q4 x4.length c4) x4 := by
  obtain ⟨vs0, e0, h0⟩ := h
  obtain ⟨vs1, e1, h1⟩ := h0
  obtain ⟨v2, vs2, e2, k2, h2⟩ := h1
  obtain ⟨v3, vs3, e3, k3, h3⟩ := h2
  obtain ⟨v4, e4, k4⟩ := h3
  obtain ⟨q2, c2, f2, _, _⟩ := LRd.form k2
  subst f2
  obtain ⟨q3, c3, f3, _, _⟩ := LRd.form k3
  subst f3
  obtain ⟨q4, c4, f4, _, _⟩ := LRd.form k4
  subst f4
  subst e4
  subst e3
  subst e2
  subst e1
  subst e0
  exact ⟨q2, c2, q3, c3, q4, c4, rfl, k2, k3, k4⟩
theorem evR_mk {w : World} {a0 : Int} {a1 : Int} {x2 : List Mono} {x3 : List Mono} {x4 : List (List Mono)} {v2 : Value} (k2 : polyK.rd w v2 x2) {v3 : Value} (k3 : polyK.rd w v3 x3) {v4 : Value} (k4 : sumsK.rd w v4 x4) : evR.rd w [.int .i64 a0, .int .i64 a1, v2, v3, v4] (a0, a1, x2, x3, x4) := ⟨_, rfl, ⟨_, rfl, ⟨_, _, rfl, k2, ⟨_, _, rfl, k3, ⟨_, rfl, k4⟩⟩⟩⟩⟩
theorem evR_own {w : World} {A : Nat → Prop} {cs : List Value} {a0 : Int} {a1 : Int} {x2 : List Mono} {x3 : List Mono} {x4 : List (List Mono)} (h : evR.ow w A cs (a0, a1, x2, x3, x4)) : ∃ (q2 : Option Addr) (c2 : Nat) (q3 : Option Addr) (c3 : Nat) (q4 : Option Addr) (c4 : Nat) (A2 : Nat → Prop) (A3 : Nat → Prop) (A4 : Nat → Prop), cs = [.int .i64 a0, .int .i64 a1, .slice q2 x2.length c2, .slice q3 x3.length c3, .slice q4 x4.length c4] ∧ polyK.ow w A2 (.slice q2 x2.length c2) x2 ∧ polyK.ow w A3 (.slice q3 x3.length c3) x3 ∧ sumsK.ow w A4 (.slice q4 x4.length c4) x4 ∧ (∀ b, A2 b → A b) ∧ (∀ b, A3 b → A b) ∧ (∀ b, A4 b → A b) ∧ (∀ b, A2 b → A3 b → False) ∧ (∀ b, A2 b → A4 b → False) ∧ (∀ b, A3 b → A4 b → False) := by
  obtain ⟨vs0, e0, h0⟩ := h
  obtain ⟨vs1, e1, h1⟩ := h0
  obtain ⟨v2, vs2, A2, B2, e2, s2, t2, d2, k2, h2⟩ := h1
  obtain ⟨v3, vs3, A3, B3, e3, s3, t3, d3, k3, h3⟩ := h2
  obtain ⟨v4, e4, k4⟩ := h3
  obtain ⟨q2, c2, f2, _, _⟩ := LRd.form (polyK.od k2)
  subst f2
  obtain ⟨q3, c3, f3, _, _⟩ := LRd.form (polyK.od k3)
  subst f3
  obtain ⟨q4, c4, f4, _, _⟩ := LRd.form (sumsK.od k4)
  subst f4
  subst e4
  subst e3
  subst e2
  subst e1
  subst e0
  exact ⟨q2, c2, q3, c3, q4, c4, A2, A3, B3, rfl, k2, k3, k4, (fun b hb => s2 b (hb)), (fun b hb => t2 b (s3 b (hb))), (fun b hb => t2 b (t3 b (hb))), (fun b h1 h2 => d2 b h1 (s3 b (h2))), (fun b h1 h2 => d2 b h1 (t3 b (h2))), (fun b h1 h2 => d3 b h1 (h2))⟩
theorem evR_omk {w : World} {A : Nat → Prop} {a0 : Int} {a1 : Int} {x2 : List Mono} {x3 : List Mono} {x4 : List (List Mono)} {v2 : Value} {A2 : Nat → Prop} (k2 : polyK.ow w A2 v2 x2) {v3 : Value} {A3 : Nat → Prop} (k3 : polyK.ow w A3 v3 x3) {v4 : Value} {A4 : Nat → Prop} (k4 : sumsK.ow w A4 v4 x4) (s2 : ∀ b, A2 b → A b) (s3 : ∀ b, A3 b → A b) (s4 : ∀ b, A4 b → A b) (d2_3 : ∀ b, A2 b → A3 b → False) (d2_4 : ∀ b, A2 b → A4 b → False) (d3_4 : ∀ b, A3 b → A4 b → False) : evR.ow w A [.int .i64 a0, .int .i64 a1, v2, v3, v4] (a0, a1, x2, x3, x4) := ⟨_, rfl, ⟨_, rfl, ⟨_, _, A2, (fun b => A3 b ∨ A4 b), rfl, s2, (fun b hb => by
    rcases hb with hb | hb
    · exact s3 b hb
    · exact s4 b hb), (fun b h1 hb => by
    rcases hb with hb | hb
    · exact d2_3 b h1 hb
    · exact d2_4 b h1 hb), k2, ⟨_, _, A3, A4, rfl, (fun b hb => Or.inl hb), (fun b hb => Or.inr hb), (fun b h1 hb => d3_4 b h1 hb), k3, ⟨_, rfl, k4⟩⟩⟩⟩⟩
def evsK : Kd (List (Int × Int × List Mono × List Mono × List (List Mono))) := list evR
theorem evR_sz {a0 : Int} {a1 : Int} {x2 : List Mono} {x3 : List Mono} {x4 : List (List Mono)} : evR.sz (a0, a1, x2, x3, x4) = polyK.sz x2 + (polyK.sz x3 + (sumsK.sz x4)) := rfl
set_option maxRecDepth 8000 in
set_option maxHeartbeats 4000000 in
theorem szSymEvent (a0 : Int) (a1 : Int) (x2 : List Mono) (x3 : List Mono) (x4 : List (List Mono)) (cs : List Value) (left : Int) (w : World) (h : evR.rd w cs (a0, a1, x2, x3, x4)) (h0 : 0 ≤ left) (h1 : left ≤ 1048576) :
    Calls Try.prog 45 #[.agg cs.toArray, .int .i64 left] w fun e w' => ∃ r : Int, e = .returned (.int .i64 r) ∧ -1 ≤ r ∧ (0 ≤ r → r = left - (evR.sz (a0, a1, x2, x3, x4) : Nat)) ∧ Below w.heap.size w w' := by
  obtain ⟨q2, c2, q3, c3, q4, c4, rfl, k2, k3, k4⟩ := evR_rd h
  have SZ := hide (evR_sz (a0 := a0) (a1 := a1) (x2 := x2) (x3 := x3) (x4 := x4))
  obtain ⟨Z, eZ⟩ : ∃ Z, evR.sz (a0, a1, x2, x3, x4) = Z := ⟨_, rfl⟩
  rw [eZ] at SZ ⊢
  have bV : Below w.heap.size w (w.alloc (.cells #[.int .i64 a0, .int .i64 a1, .slice q2 x2.length c2, .slice q3 x3.length c3, .slice q4 x4.length c4] 69)) := (Below.refl _ _).alloc (Nat.le_refl _) _
  have RR := hide (Rec.new w [.int .i64 a0, .int .i64 a1, .slice q2 x2.length c2, .slice q3 x3.length c3, .slice q4 x4.length c4] 69)
  have H2 := hide (polyK.rb k2 bV)
  have H3 := hide (polyK.rb k3 bV)
  have H4 := hide (sumsK.rb k4 bV)
  have BW := hide bV
  clear bV h eZ k2 k3 k4
  go_enter Try.func45, Try.ntmps45
  go_wp2_with fail
  refine (szTrmPoly x2 _ left _ (polyR_mk H2.out) h0 h1).mono ?_
  rintro e u2 ⟨r2, rfl, p2, g2, hb⟩
  have G2 : Hid (0 ≤ r2 → r2 = left - (polyK.sz x2 : Nat)) := g2
  replace RR := hide (RR.out.below hb)
  replace BW := hide (BW.out.trans (hb.mono BW.out.size))
  replace H3 := hide (polyK.rb H3.out hb)
  replace H4 := hide (sumsK.rb H4.out hb)
  clear g2 hb
  by_cases hs2 : r2 < 0
  · go_wp2
    go_ret
    exact ⟨-1, rfl, by omega, fun h => by omega, BW.out⟩
  have m2 : 0 ≤ r2 := by omega
  have b2 : r2 ≤ 1048576 := by have := G2.out m2; omega
  have z3 := RR.out.cell 3 _ rfl
  go_wp2_with fail
  refine (szTrmPoly x3 _ r2 _ (polyR_mk H3.out) m2 b2).mono ?_
  rintro e u3 ⟨r3, rfl, p3, g3, hb⟩
  have G3 : Hid (0 ≤ r3 → r3 = r2 - (polyK.sz x3 : Nat)) := g3
  replace RR := hide (RR.out.below hb)
  replace BW := hide (BW.out.trans (hb.mono BW.out.size))
  replace H4 := hide (sumsK.rb H4.out hb)
  clear g3 hb z3
  by_cases hs3 : r3 < 0
  · go_wp2
    go_ret
    exact ⟨-1, rfl, by omega, fun h => by omega, BW.out⟩
  have m3 : 0 ≤ r3 := by omega
  have b3 : r3 ≤ 1048576 := by have := G3.out m3; omega
  have z4 := RR.out.cell 4 _ rfl
  go_wp2_with fail
  refine (szTrmPolyS x4 _ r3 _ H4.out m3 b3).mono ?_
  rintro e u4 ⟨r4, rfl, p4, g4, hb⟩
  have G4 : Hid (0 ≤ r4 → r4 = r3 - (sumsK.sz x4 : Nat)) := g4
  replace RR := hide (RR.out.below hb)
  replace BW := hide (BW.out.trans (hb.mono BW.out.size))
  clear g4 hb z4
  by_cases hs4 : r4 < 0
  · go_wp2
    go_ret
    exact ⟨-1, rfl, by omega, fun h => by omega, BW.out⟩
  have m4 : 0 ≤ r4 := by omega
  have b4 : r4 ≤ 1048576 := by have := G4.out m4; omega
  go_wp2
  go_ret
  exact ⟨r4, rfl, by omega, fun h => by have := SZ.out; have := G2.out m2; have := G3.out m3; have := G4.out m4; omega, BW.out⟩
set_option maxRecDepth 8000 in
set_option maxHeartbeats 4000000 in
theorem laySymEvent {w : World} {ops : Array Oper} {rest : List Oper} {o : Oper} {a : Act} {Q : Exit → Act → World → Prop} (hgd : o.guard = none) (hds : o.dst = none) (x y : Operand) (ho : o.op = .store 50 x y)
    (Z : Nat) (y0 : Value) (y1 : Value) (y2 : Value) (y3 : Value) (y4 : Value) (hB : Rec Z [y0, y1, y2, y3, y4] w) (hx : a.eval x = .pointer (some ⟨Z, 0, none⟩)) (a0 : Int) (a1 : Int) (q2 : Option Addr) (n2 c2 : Nat) (q3 : Option Addr) (n3 c3 : Nat) (q4 : Option Addr) (n4 c4 : Nat) (hy : a.eval y = .agg #[.int .i64 a0, .int .i64 a1, .slice q2 n2 c2, .slice q3 n3 c3, .slice q4 n4 c4])
    (h : ∀ w' : World, Hid (Rec Z [.int .i64 a0, .int .i64 a1, .slice q2 n2 c2, .slice q3 n3 c3, .slice q4 n4 c4] w') → Hid (Turn Z w w') → wpList Try.prog ops Q rest a w') :
    wpList Try.prog ops Q (o :: rest) a w := by
  refine wpList_plain hgd fun K hK => ?_
  have z0 := hB.cell 0 _ rfl
  have s0 := hB.soft 0
  have z1 := hB.cell 1 _ rfl
  have s1 := hB.soft 1
  have z2 := hB.cell 2 _ rfl
  have s2 := hB.soft 2
  have z3 := hB.cell 3 _ rfl
  have s3 := hB.soft 3
  have z4 := hB.cell 4 _ rfl
  have s4 := hB.soft 4
  have key := hK _ _ (h _ (((((hB.set 0 (.int .i64 a0) (by simp) (show _ = ([.int .i64 a0, y1, y2, y3, y4] : List Value) from rfl)).set 1 (.int .i64 a1) (by simp) (show _ = ([.int .i64 a0, .int .i64 a1, y2, y3, y4] : List Value) from rfl)).set 2 (.slice q2 n2 c2) (by simp) (show _ = ([.int .i64 a0, .int .i64 a1, .slice q2 n2 c2, y3, y4] : List Value) from rfl)).set 3 (.slice q3 n3 c3) (by simp) (show _ = ([.int .i64 a0, .int .i64 a1, .slice q2 n2 c2, .slice q3 n3 c3, y4] : List Value) from rfl)).set 4 (.slice q4 n4 c4) (by simp) (show _ = ([.int .i64 a0, .int .i64 a1, .slice q2 n2 c2, .slice q3 n3 c3, .slice q4 n4 c4] : List Value) from rfl)) ((((((Turn.refl Z w).setCell (p := ⟨Z, 0, none⟩) rfl (.int .i64 a0)).setCell (p := ⟨Z, 1, none⟩) rfl (.int .i64 a1)).setCell (p := ⟨Z, 2, none⟩) rfl (.slice q2 n2 c2)).setCell (p := ⟨Z, 3, none⟩) rfl (.slice q3 n3 c3)).setCell (p := ⟨Z, 4, none⟩) rfl (.slice q4 n4 c4)))
  obtain ⟨dst, op, ty, pos, aft, gd⟩ := o
  simp only [] at hgd hds ho
  subst hgd hds ho
  clear h hK
  unfold Oper.wp
  simp only [execOp, hx, hy]
  go_simp
  exact key
set_option maxRecDepth 8000 in
set_option maxHeartbeats 4000000 in
theorem putSymEvent_0 {w : World} {ops : Array Oper} {rest : List Oper} {o : Oper} {a : Act} {Q : Exit → Act → World → Prop} (hgd : o.guard = none) (hds : o.dst = none) (x y : Operand) (ho : o.op = .store 3 x y)
    (Z i : Nat) (cs : List Value) (hB : Rec Z cs w) (hi : i < cs.length) (hx : a.eval x = .pointer (some ⟨Z, i, none⟩)) (n : Int) (hy : a.eval y = .int .i64 n)
    (h : ∀ w' : World, Hid (Rec Z (cs.set i (.int .i64 n)) w') → Hid (Turn Z w w') → wpList Try.prog ops Q rest a w') :
    wpList Try.prog ops Q (o :: rest) a w := by
  refine wpList_plain hgd fun K hK => ?_
  have z0 := hB.cell i _ (List.getElem?_eq_getElem hi)
  have y0 := hB.soft i
  have key := hK _ _ (h _ (hB.set i (.int .i64 n) hi rfl) ((Turn.refl Z w).setCell (p := ⟨Z, i, none⟩) rfl _))
  obtain ⟨dst, op, ty, pos, aft, gd⟩ := o
  simp only [] at hgd hds ho
  subst hgd hds ho
  clear h hK
  unfold Oper.wp
  simp only [execOp, hx, hy]
  go_simp
  exact key
set_option maxRecDepth 8000 in
set_option maxHeartbeats 4000000 in
theorem putSymEvent_2 {w : World} {ops : Array Oper} {rest : List Oper} {o : Oper} {a : Act} {Q : Exit → Act → World → Prop} (hgd : o.guard = none) (hds : o.dst = none) (x y : Operand) (ho : o.op = .store 35 x y)
    (Z i : Nat) (cs : List Value) (hB : Rec Z cs w) (hi : i < cs.length) (hx : a.eval x = .pointer (some ⟨Z, i, none⟩)) (q : Option Addr) (n c : Nat) (hy : a.eval y = .agg #[.slice q n c])
    (h : ∀ w' : World, Hid (Rec Z (cs.set i (.slice q n c)) w') → Hid (Turn Z w w') → wpList Try.prog ops Q rest a w') :
    wpList Try.prog ops Q (o :: rest) a w := by
  refine wpList_plain hgd fun K hK => ?_
  have z0 := hB.cell i _ (List.getElem?_eq_getElem hi)
  have y0 := hB.soft i
  have key := hK _ _ (h _ (hB.set i (.slice q n c) hi rfl) ((Turn.refl Z w).setCell (p := ⟨Z, i, none⟩) rfl _))
  obtain ⟨dst, op, ty, pos, aft, gd⟩ := o
  simp only [] at hgd hds ho
  subst hgd hds ho
  clear h hK
  unfold Oper.wp
  simp only [execOp, hx, hy]
  go_simp
  exact key
set_option maxRecDepth 8000 in
set_option maxHeartbeats 4000000 in
theorem putSymEvent_4 {w : World} {ops : Array Oper} {rest : List Oper} {o : Oper} {a : Act} {Q : Exit → Act → World → Prop} (hgd : o.guard = none) (hds : o.dst = none) (x y : Operand) (ho : o.op = .store 32 x y)
    (Z i : Nat) (cs : List Value) (hB : Rec Z cs w) (hi : i < cs.length) (hx : a.eval x = .pointer (some ⟨Z, i, none⟩)) (q : Option Addr) (n c : Nat) (hy : a.eval y = .slice q n c)
    (h : ∀ w' : World, Hid (Rec Z (cs.set i (.slice q n c)) w') → Hid (Turn Z w w') → wpList Try.prog ops Q rest a w') :
    wpList Try.prog ops Q (o :: rest) a w := by
  refine wpList_plain hgd fun K hK => ?_
  have z0 := hB.cell i _ (List.getElem?_eq_getElem hi)
  have y0 := hB.soft i
  have key := hK _ _ (h _ (hB.set i (.slice q n c) hi rfl) ((Turn.refl Z w).setCell (p := ⟨Z, i, none⟩) rfl _))
  obtain ⟨dst, op, ty, pos, aft, gd⟩ := o
  simp only [] at hgd hds ho
  subst hgd hds ho
  clear h hK
  unfold Oper.wp
  simp only [execOp, hx, hy]
  go_simp
  exact key
set_option maxRecDepth 8000 in
set_option maxHeartbeats 8000000 in
theorem toSymEvent (a0 : Int) (a1 : Int) (x2 : List Mono) (x3 : List Mono) (x4 : List (List Mono)) (cs : List Value) (w : World) (h : evR.rd w cs (a0, a1, x2, x3, x4)) (hs : evR.sz (a0, a1, x2, x3, x4) ≤ 1048576) :
    Calls Try.prog 48 #[.agg cs.toArray] w fun e w' => ∃ g2 g3 g4, e = .returned (.agg #[.int .i64 a0, .int .i64 a1, .slice (some ⟨g2, 0, none⟩) x2.length x2.length, .slice (some ⟨g3, 0, none⟩) x3.length x3.length, .slice (some ⟨g4, 0, none⟩) x4.length x4.length]) ∧ evR.ow w' (New w w') [.int .i64 a0, .int .i64 a1, .slice (some ⟨g2, 0, none⟩) x2.length x2.length, .slice (some ⟨g3, 0, none⟩) x3.length x3.length, .slice (some ⟨g4, 0, none⟩) x4.length x4.length] (a0, a1, x2, x3, x4) ∧ Below w.heap.size w w' := by
  obtain ⟨q2, c2, q3, c3, q4, c4, rfl, k2, k3, k4⟩ := evR_rd h
  rw [evR_sz] at hs
  have T := hide (Three.new w [.int .i64 a0, .int .i64 a1, .slice q2 x2.length c2, .slice q3 x3.length c3, .slice q4 x4.length c4] [.int .i64 0, .int .i64 0, .slice none 0 0, .slice none 0 0, .slice none 0 0] [.int .i64 a0, .int .i64 a1, .slice none 0 0, .slice none 0 0, .slice none 0 0] 69 50 50)
  have H2 := hide k2
  have S2 : Hid (polyK.sz x2 ≤ 1048576) := show _ ≤ _ by omega
  have H3 := hide k3
  have S3 : Hid (polyK.sz x3 ≤ 1048576) := show _ ≤ _ by omega
  have H4 := hide k4
  have S4 : Hid (sumsK.sz x4 ≤ 1048576) := show _ ≤ _ by omega
  clear h hs k2 k3 k4
  go_enter Try.func48, Try.ntmps48
  go_wp2_with fail
  generalize ((w.alloc (.cells #[.int .i64 a0, .int .i64 a1, .slice q2 x2.length c2, .slice q3 x3.length c3, .slice q4 x4.length c4] 69)).alloc (.cells #[.int .i64 0, .int .i64 0, .slice none 0 0, .slice none 0 0, .slice none 0 0] 50)).alloc (.cells #[.int .i64 a0, .int .i64 a1, .slice none 0 0, .slice none 0 0, .slice none 0 0] 50) = c0 at T ⊢
  refine (toTrmPoly x2 _ _ (polyR_mk (polyK.rb H2.out T.out.bw)) S2.out).mono ?_
  rintro e u2 ⟨g2, rfl, O2, hb⟩
  obtain ⟨_, e2, OO2⟩ := O2
  cases e2
  have W2 := hide OO2
  clear OO2
  have LO2 : Hid (w.heap.size + 1 + 1 < c0.heap.size) := T.out.o.lt
  have HI2 : Hid (u2.heap.size ≤ u2.heap.size) := Nat.le_refl _
  replace T := hide (T.out.below hb)
  clear hb H2 S2
  go_wp2_with (refine putSymEvent_2 rfl rfl _ _ rfl (w.heap.size + 1 + 1) 2 _ T.out.o (by simp) rfl _ _ _ rfl ?_; intro v2 RB TB; refine Hid.out ?_)
  replace T := hide (three_fill T.out TB.out (O' := [.int .i64 a0, .int .i64 a1, .slice (some ⟨g2, 0, none⟩) x2.length x2.length, .slice none 0 0, .slice none 0 0]) RB.out)
  replace W2 := hide (polyK.ot W2.out TB.out (fun q => by have := LO2.out; have := q.1; omega))
  replace HI2 : Hid (u2.heap.size ≤ v2.heap.size) := Nat.le_trans HI2.out TB.out.size
  clear RB TB
  refine hide ?_
  have ta3 := T.out.a.cell 3 _ rfl
  go_wp2_with fail
  refine (toTrmPoly x3 _ _ (polyR_mk (polyK.rb H3.out T.out.bw)) S3.out).mono ?_
  rintro e u3 ⟨g3, rfl, O3, hb⟩
  obtain ⟨_, e3, OO3⟩ := O3
  cases e3
  have W3 := hide OO3
  clear OO3
  have LO3 : Hid (w.heap.size + 1 + 1 < v2.heap.size) := T.out.o.lt
  have HI3 : Hid (u3.heap.size ≤ u3.heap.size) := Nat.le_refl _
  replace T := hide (T.out.below hb)
  have M2_3 := HI2
  replace W2 := hide (polyK.ob W2.out hb)
  replace HI2 : Hid (u2.heap.size ≤ u3.heap.size) := Nat.le_trans HI2.out hb.size
  clear hb H3 S3 ta3
  go_wp2_with (refine putSymEvent_2 rfl rfl _ _ rfl (w.heap.size + 1 + 1) 3 _ T.out.o (by simp) rfl _ _ _ rfl ?_; intro v3 RB TB; refine Hid.out ?_)
  replace T := hide (three_fill T.out TB.out (O' := [.int .i64 a0, .int .i64 a1, .slice (some ⟨g2, 0, none⟩) x2.length x2.length, .slice (some ⟨g3, 0, none⟩) x3.length x3.length, .slice none 0 0]) RB.out)
  replace W2 := hide (polyK.ot W2.out TB.out (fun q => by have := LO2.out; have := q.1; omega))
  replace HI2 : Hid (u2.heap.size ≤ v3.heap.size) := Nat.le_trans HI2.out TB.out.size
  replace W3 := hide (polyK.ot W3.out TB.out (fun q => by have := LO3.out; have := q.1; omega))
  replace HI3 : Hid (u3.heap.size ≤ v3.heap.size) := Nat.le_trans HI3.out TB.out.size
  clear RB TB
  refine hide ?_
  have ta4 := T.out.a.cell 4 _ rfl
  go_wp2_with fail
  refine (toTrmPolyS x4 _ _ (sumsK.rb H4.out T.out.bw) S4.out).mono ?_
  rintro e u4 ⟨g4, rfl, O4, hb⟩
  have W4 := hide O4
  clear O4
  have LO4 : Hid (w.heap.size + 1 + 1 < v3.heap.size) := T.out.o.lt
  have HI4 : Hid (u4.heap.size ≤ u4.heap.size) := Nat.le_refl _
  replace T := hide (T.out.below hb)
  have M2_4 := HI2
  replace W2 := hide (polyK.ob W2.out hb)
  replace HI2 : Hid (u2.heap.size ≤ u4.heap.size) := Nat.le_trans HI2.out hb.size
  have M3_4 := HI3
  replace W3 := hide (polyK.ob W3.out hb)
  replace HI3 : Hid (u3.heap.size ≤ u4.heap.size) := Nat.le_trans HI3.out hb.size
  clear hb H4 S4 ta4
  go_wp2_with (refine putSymEvent_4 rfl rfl _ _ rfl (w.heap.size + 1 + 1) 4 _ T.out.o (by simp) rfl _ _ _ rfl ?_; intro v4 RB TB; refine Hid.out ?_)
  replace T := hide (three_fill T.out TB.out (O' := [.int .i64 a0, .int .i64 a1, .slice (some ⟨g2, 0, none⟩) x2.length x2.length, .slice (some ⟨g3, 0, none⟩) x3.length x3.length, .slice (some ⟨g4, 0, none⟩) x4.length x4.length]) RB.out)
  replace W2 := hide (polyK.ot W2.out TB.out (fun q => by have := LO2.out; have := q.1; omega))
  replace HI2 : Hid (u2.heap.size ≤ v4.heap.size) := Nat.le_trans HI2.out TB.out.size
  replace W3 := hide (polyK.ot W3.out TB.out (fun q => by have := LO3.out; have := q.1; omega))
  replace HI3 : Hid (u3.heap.size ≤ v4.heap.size) := Nat.le_trans HI3.out TB.out.size
  replace W4 := hide (sumsK.ot W4.out TB.out (fun q => by have := LO4.out; have := q.1; omega))
  replace HI4 : Hid (u4.heap.size ≤ v4.heap.size) := Nat.le_trans HI4.out TB.out.size
  clear RB TB
  refine hide ?_
  have o0 := T.out.o.cell 0 _ rfl
  have o1 := T.out.o.cell 1 _ rfl
  have o2 := T.out.o.cell 2 _ rfl
  have o3 := T.out.o.cell 3 _ rfl
  have o4 := T.out.o.cell 4 _ rfl
  go_wp2_with (refine laySymEvent rfl rfl _ _ rfl (w.heap.size + 1) _ _ _ _ _ T.out.z rfl _ _ _ _ _ _ _ _ _ _ _ rfl ?_; intro V RB TB; refine Hid.out ?_)
  replace W2 := hide (polyK.ot W2.out TB.out (fun q => by have := LO2.out; have := q.1; omega))
  replace HI2 : Hid (u2.heap.size ≤ V.heap.size) := Nat.le_trans HI2.out TB.out.size
  replace W3 := hide (polyK.ot W3.out TB.out (fun q => by have := LO3.out; have := q.1; omega))
  replace HI3 : Hid (u3.heap.size ≤ V.heap.size) := Nat.le_trans HI3.out TB.out.size
  replace W4 := hide (sumsK.ot W4.out TB.out (fun q => by have := LO4.out; have := q.1; omega))
  replace HI4 : Hid (u4.heap.size ≤ V.heap.size) := Nat.le_trans HI4.out TB.out.size
  have BW := hide (T.out.bw.trans (TB.out.below (by omega) (Nat.le_of_lt T.out.a.lt)))
  have z0 := RB.out.cell 0 _ rfl
  have z1 := RB.out.cell 1 _ rfl
  have z2 := RB.out.cell 2 _ rfl
  have z3 := RB.out.cell 3 _ rfl
  have z4 := RB.out.cell 4 _ rfl
  have FIN := hide (evR_omk (A := New w V) (a0 := a0) (a1 := a1) (x2 := x2) (x3 := x3) (x4 := x4) W2.out W3.out W4.out (fun b q => ⟨by have := LO2.out; have := q.1; omega, by have := HI2.out; have := q.2; omega⟩) (fun b q => ⟨by have := LO3.out; have := q.1; omega, by have := HI3.out; have := q.2; omega⟩) (fun b q => ⟨by have := LO4.out; have := q.1; omega, by have := HI4.out; have := q.2; omega⟩) (fun b q r => by have := M2_3.out; have := q.2; have := r.1; omega) (fun b q r => by have := M2_4.out; have := q.2; have := r.1; omega) (fun b q r => by have := M3_4.out; have := q.2; have := r.1; omega))
  clear RB TB T o0 o1 o2 o3 o4
  refine hide ?_
  go_wp2
  exact bodyPost_ret (v := .agg #[.int .i64 a0, .int .i64 a1, .slice (some ⟨g2, 0, none⟩) x2.length x2.length, .slice (some ⟨g3, 0, none⟩) x3.length x3.length, .slice (some ⟨g4, 0, none⟩) x4.length x4.length]) (by simp [results, Try.results48, go_sem, z0, z1, z2, z3, z4]) rfl ⟨g2, g3, g4, rfl, FIN.out, BW.out⟩
set_option maxRecDepth 8000 in
set_option maxHeartbeats 4000000 in
theorem eqSymEvent (a0 : Int) (a1 : Int) (x2 : List Mono) (x3 : List Mono) (x4 : List (List Mono)) (cs cs' : List Value) (w : World) (h : evR.rd w cs (a0, a1, x2, x3, x4)) (h' : evR.rd w cs' (a0, a1, x2, x3, x4)) :
    Calls Try.prog 55 #[.agg cs.toArray, .agg cs'.toArray] w fun e w' => e = .returned (.bool true) ∧ Below w.heap.size w w' := by
  obtain ⟨q2, c2, q3, c3, q4, c4, rfl, k2, k3, k4⟩ := evR_rd h
  obtain ⟨p2, d2, p3, d3, p4, d4, rfl, l2, l3, l4⟩ := evR_rd h'
  have bV : Below w.heap.size w ((w.alloc (.cells #[.int .i64 a0, .int .i64 a1, .slice q2 x2.length c2, .slice q3 x3.length c3, .slice q4 x4.length c4] 50)).alloc (.cells #[.int .i64 a0, .int .i64 a1, .slice p2 x2.length d2, .slice p3 x3.length d3, .slice p4 x4.length d4] 50)) := ((Below.refl _ _).alloc (Nat.le_refl _) _).alloc (by simp) _
  have RR := hide ((Rec.new w [.int .i64 a0, .int .i64 a1, .slice q2 x2.length c2, .slice q3 x3.length c3, .slice q4 x4.length c4] 50).alloc (.cells #[.int .i64 a0, .int .i64 a1, .slice p2 x2.length d2, .slice p3 x3.length d3, .slice p4 x4.length d4] 50))
  have RS := Rec.new (w.alloc (.cells #[.int .i64 a0, .int .i64 a1, .slice q2 x2.length c2, .slice q3 x3.length c3, .slice q4 x4.length c4] 50)) [.int .i64 a0, .int .i64 a1, .slice p2 x2.length d2, .slice p3 x3.length d3, .slice p4 x4.length d4] 50
  rw [show (w.alloc (.cells #[.int .i64 a0, .int .i64 a1, .slice q2 x2.length c2, .slice q3 x3.length c3, .slice q4 x4.length c4] 50)).heap.size = w.heap.size + 1 by simp] at RS
  replace RS := hide RS
  have H2 := hide (polyK.rb k2 bV)
  have J2 := hide (polyK.rb l2 bV)
  have H3 := hide (polyK.rb k3 bV)
  have J3 := hide (polyK.rb l3 bV)
  have H4 := hide (sumsK.rb k4 bV)
  have J4 := hide (sumsK.rb l4 bV)
  have ne0 : (a0 != a0) = false := by simp
  have ne1 : (a1 != a1) = false := by simp
  have BW := hide bV
  clear bV h h' k2 l2 k3 l3 k4 l4
  go_enter Try.func55, Try.ntmps55
  go_wp2_with fail
  refine (eqTrmPoly x2 _ _ _ (polyR_mk H2.out) (polyR_mk J2.out)).mono ?_
  rintro e u2 ⟨rfl, hb⟩
  replace RR := hide (RR.out.below hb)
  replace RS := hide (RS.out.below hb)
  replace BW := hide (BW.out.trans (hb.mono BW.out.size))
  replace H3 := hide (polyK.rb H3.out hb)
  replace J3 := hide (polyK.rb J3.out hb)
  replace H4 := hide (sumsK.rb H4.out hb)
  replace J4 := hide (sumsK.rb J4.out hb)
  clear hb
  have z0 := RR.out.cell 0 _ rfl
  have y0 := RS.out.cell 0 _ rfl
  have z1 := RR.out.cell 1 _ rfl
  have y1 := RS.out.cell 1 _ rfl
  have z2 := RR.out.cell 2 _ rfl
  have y2 := RS.out.cell 2 _ rfl
  have z3 := RR.out.cell 3 _ rfl
  have y3 := RS.out.cell 3 _ rfl
  have z4 := RR.out.cell 4 _ rfl
  have y4 := RS.out.cell 4 _ rfl
  go_wp2_with fail
  refine (eqTrmPoly x3 _ _ _ (polyR_mk H3.out) (polyR_mk J3.out)).mono ?_
  rintro e u3 ⟨rfl, hb⟩
  replace RR := hide (RR.out.below hb)
  replace RS := hide (RS.out.below hb)
  replace BW := hide (BW.out.trans (hb.mono BW.out.size))
  replace H4 := hide (sumsK.rb H4.out hb)
  replace J4 := hide (sumsK.rb J4.out hb)
  clear hb z0 y0 z1 y1 z2 y2 z3 y3 z4 y4
  have z0 := RR.out.cell 0 _ rfl
  have y0 := RS.out.cell 0 _ rfl
  have z1 := RR.out.cell 1 _ rfl
  have y1 := RS.out.cell 1 _ rfl
  have z2 := RR.out.cell 2 _ rfl
  have y2 := RS.out.cell 2 _ rfl
  have z3 := RR.out.cell 3 _ rfl
  have y3 := RS.out.cell 3 _ rfl
  have z4 := RR.out.cell 4 _ rfl
  have y4 := RS.out.cell 4 _ rfl
  go_wp2_with fail
  refine (eqTrmPolyS x4 _ _ _ H4.out J4.out).mono ?_
  rintro e u4 ⟨rfl, hb⟩
  replace RR := hide (RR.out.below hb)
  replace RS := hide (RS.out.below hb)
  replace BW := hide (BW.out.trans (hb.mono BW.out.size))
  clear hb z0 y0 z1 y1 z2 y2 z3 y3 z4 y4
  have z0 := RR.out.cell 0 _ rfl
  have y0 := RS.out.cell 0 _ rfl
  have z1 := RR.out.cell 1 _ rfl
  have y1 := RS.out.cell 1 _ rfl
  have z2 := RR.out.cell 2 _ rfl
  have y2 := RS.out.cell 2 _ rfl
  have z3 := RR.out.cell 3 _ rfl
  have y3 := RS.out.cell 3 _ rfl
  have z4 := RR.out.cell 4 _ rfl
  have y4 := RS.out.cell 4 _ rfl
  go_wp2
  go_ret
  exact ⟨rfl, BW.out⟩
theorem evsK_len (k : Int) (xs : List (Int × Int × List Mono × List Mono × List (List Mono))) : (evsK.mr k xs).length = xs.length := markL_len xs k
set_option maxRecDepth 8000 in
set_option maxHeartbeats 4000000 in
theorem szSymEventS (xs : List (Int × Int × List Mono × List Mono × List (List Mono))) (v : Value) (left : Int) (w : World) (h : evsK.rd w v xs) (h0 : 0 ≤ left) (h1 : left ≤ 1048576) :
    Calls Try.prog 14 #[v, .int .i64 left] w fun e w' => ∃ r : Int, e = .returned (.int .i64 r) ∧ -1 ≤ r ∧ (0 ≤ r → r = left - (evsK.sz xs : Nat)) ∧ Below w.heap.size w w' := by
  obtain ⟨a, cap, B, off, rfl, h2, h3, hz, h4⟩ := h
  unfold maxLen at h3
  clear hz
  have SZ : Hid (evsK.sz xs = xs.length + sum evR.sz xs) := show _ = _ from rfl
  obtain ⟨Z, eZ⟩ : ∃ Z, evsK.sz xs = Z := ⟨_, rfl⟩
  rw [eZ] at SZ ⊢
  clear eZ
  by_cases e1 : left < xs.length
  · have e2 : left - (xs.length : Int) < 0 := by omega
    clear h4 e1
    go_enter Try.func14, Try.ntmps14
    go_wp2
    go_ret
    exact ⟨-1, rfl, by omega, fun h => by omega, Below.refl _ _⟩
  have e2 : ¬ left - (xs.length : Int) < 0 := by omega
  obtain ⟨n, en⟩ : ∃ n, xs.length = n := ⟨_, rfl⟩
  have EN := hide en
  rw [en] at h2 e1 e2 SZ ⊢
  have H4 := hide h4
  clear en h4
  go_enter Try.func14, Try.ntmps14
  go_wp2
  go_loopw [1, 5] (fun l i wr => ∃ (k : Nat) (r : Int), k ≤ n ∧ i = .int .i64 k ∧ l = .int .i64 r ∧ 0 ≤ r ∧ r ≤ 1048576 ∧ Hid (r = left - n - (sum evR.sz (xs.take k) : Nat)) ∧ Hid (Below w.heap.size w wr)) (fun _ i _ => n - (intOf i).toNat)
  case atStart => exact ⟨0, left - n, by omega, rfl, rfl, by omega, by omega, by show _ = _; simp [sum], Below.refl _ _⟩
  case round =>
    obtain ⟨k, r, hk, rfl, rfl, r0, r1, HR, HB⟩ := hrel
    by_cases hlt : k < n
    · obtain ⟨x, et⟩ : ∃ x, xs[k]? = some x := ⟨_, List.getElem?_eq_getElem (by rw [EN.out]; exact hlt)⟩
      obtain ⟨rfl, hc⟩ := H4.out.resolve_left (fun e => by rw [e] at et; simp at et)
      obtain ⟨cs, cc, hx⟩ := hc k x et
      replace cc := cc.below HB.out
      replace hx := evR.rb hx HB.out
      have TN := hide (sum_take (f := evR.sz) et)
      obtain ⟨a0, a1, x2, x3, x4⟩ := x
      have HX := hide hx
      obtain ⟨q2, c2, q3, c3, q4, c4, rfl, _, _, _⟩ := evR_rd hx
      have z0 : wr.cell? ⟨B, off + k * 5, none⟩ = some (.int .i64 a0) := cc 0 _ rfl
      have z1 : wr.cell? ⟨B, off + k * 5 + 1, none⟩ = some (.int .i64 a1) := cc 1 _ rfl
      have z2 : wr.cell? ⟨B, off + k * 5 + 2, none⟩ = some (.slice q2 x2.length c2) := cc 2 _ rfl
      have z3 : wr.cell? ⟨B, off + k * 5 + 3, none⟩ = some (.slice q3 x3.length c3) := cc 3 _ rfl
      have z4 : wr.cell? ⟨B, off + k * 5 + 4, none⟩ = some (.slice q4 x4.length c4) := cc 4 _ rfl
      have lk : ((k : Nat) : Int) < (n : Nat) := by omega
      clear et hc hx cc
      go_wp2_with fail
      refine (szSymEvent a0 a1 x2 x3 x4 _ r _ HX.out r0 r1).mono ?_
      rintro e u ⟨r', rfl, q0, hr, hb⟩
      have HR2 := hide hr
      have HB2 := hide (HB.out.trans (hb.mono HB.out.size))
      clear hb hr z0 z1 z2 z3 z4
      by_cases hs : r' < 0
      · go_wp2
        go_ret
        exact ⟨-1, rfl, by omega, fun h => by omega, HB2.out⟩
      · have HR3 : Hid (r' = left - n - (sum evR.sz (xs.take (k + 1)) : Nat)) := show _ = _ by have := HR.out; have := TN.out; have := HR2.out (by omega); omega
        have rl : r' ≤ 1048576 := by have := HR2.out (by omega); omega
        go_wp2
        exact ⟨⟨k + 1, r', by omega, by go_num, rfl, by omega, rl, HR3, HB2⟩, by simp [intOf]; omega⟩
    · have HD : Hid (r = left - (Z : Nat)) := show _ = _ by
        have := HR.out
        rw [List.take_of_length_le (by rw [EN.out]; omega)] at this
        have := SZ.out
        omega
      go_wp2
      go_ret
      exact ⟨r, rfl, by omega, fun _ => HD.out, HB.out⟩
theorem makeSymEventS (n : Nat) (hn : n ≤ 1048576) (w : World) : (Instr.makeSlice 31 (.int .i64 (n : Int)) (.int .i64 (n : Int))).run Try.prog w = .ok (.slice (some ⟨w.heap.size, 0, none⟩) n n) (w.alloc (.cells (madeCells #[.int .i64 0, .int .i64 0, .slice none 0 0, .slice none 0 0, .slice none 0 0] (n * 5)) 50)) := by
  have hinfo : (Try.prog.info? 50).map (fun i => (i.zero, i.size, i.bytes)) = some (some (.agg #[.int .i64 0, .int .i64 0, .slice none 0 0, .slice none 0 0, .slice none 0 0]), 5, 88) := by kernel_rfl
  obtain ⟨i, hi, hzz⟩ := Option.map_eq_some_iff.1 hinfo
  simp only [Prod.mk.injEq] at hzz
  obtain ⟨hz, hs, hb⟩ := hzz
  have hr := run_make (P := Try.prog) w 31 50 i _ Try.underlying31 hi hz .i64 .i64 n n (by omega) (Int.le_refl _) (by rw [hb]; omega) (by omega)
  simp only [Int.toNat_natCast, hs] at hr
  exact hr
set_option maxRecDepth 8000 in
set_option maxHeartbeats 4000000 in
theorem toSymEventS (xs : List (Int × Int × List Mono × List Mono × List (List Mono))) (v : Value) (w : World) (h : evsK.rd w v xs) (hs : evsK.sz xs ≤ 1048576) :
    Calls Try.prog 20 #[v] w fun e w' => ∃ g, e = .returned (.slice (some ⟨g, 0, none⟩) xs.length xs.length) ∧ evsK.ow w' (New w w') (.slice (some ⟨g, 0, none⟩) xs.length xs.length) xs ∧ Below w.heap.size w w' := by
  obtain ⟨a, cap, B, off, rfl, h2, h3, hz, h4⟩ := h
  unfold maxLen at h3
  clear hz
  replace hs : xs.length + sum evR.sz xs ≤ 1048576 := hs
  obtain ⟨n, en⟩ : ∃ n, xs.length = n := ⟨_, rfl⟩
  have EN := hide en
  have hn : n ≤ 1048576 := by omega
  have HS : Hid (sum evR.sz xs ≤ 1048576) := show _ ≤ _ by omega
  have M0 : Hid (Fill evR w n xs 0 (w.alloc (.cells (madeCells #[.int .i64 0, .int .i64 0, .slice none 0 0, .slice none 0 0, .slice none 0 0] (n * 5)) 50))) := Fill.new evR w n xs 50 #[.int .i64 0, .int .i64 0, .slice none 0 0, .slice none 0 0, .slice none 0 0] rfl
  have hmk := makeSymEventS n hn w
  rw [en] at h2 ⊢
  have GO : Hid (∀ V g, LOw evR V (New w V) (.slice (some ⟨g, 0, none⟩) n n) xs → evsK.ow V (New w V) (.slice (some ⟨g, 0, none⟩) n n) xs) := fun V g hV => hV
  have H4 := hide h4
  clear en h4 hs
  by_cases n0 : n = 0
  · subst n0
    have FF := hide (GO.out _ _ (M0.out.whole EN.out (by unfold maxLen; omega)))
    have FB := hide M0.out.below
    clear M0 H4 GO
    replace hmk : (Instr.makeSlice 31 (.int .i64 0) (.int .i64 0)).run Try.prog w = .ok (.slice (some ⟨w.heap.size, 0, none⟩) 0 0) (w.alloc (.cells (madeCells #[.int .i64 0, .int .i64 0, .slice none 0 0, .slice none 0 0, .slice none 0 0] (0 * 5)) 50)) := hmk
    generalize w.alloc (.cells (madeCells #[.int .i64 0, .int .i64 0, .slice none 0 0, .slice none 0 0, .slice none 0 0] (0 * 5)) 50) = U at hmk FF FB
    go_enter Try.func20, Try.ntmps20
    go_wp2
    refine wp_loop_rounds 1 ?_
    rw [rounds_succ]
    go_wp2
    go_ret
    exact ⟨w.heap.size, rfl, FF.out, FB.out⟩
  · obtain ⟨rfl, hc⟩ := H4.out.resolve_left (fun e => n0 (by rw [← EN.out, e]; rfl))
    have HC := hide hc
    clear hc H4
    generalize w.alloc (.cells (madeCells #[.int .i64 0, .int .i64 0, .slice none 0 0, .slice none 0 0, .slice none 0 0] (n * 5)) 50) = U at hmk M0
    go_enter Try.func20, Try.ntmps20
    go_wp2
    clear hmk
    go_loopw [4] (fun i wr => ∃ k : Nat, k ≤ n ∧ i = .int .i64 k ∧ Hid (Fill evR w n xs k wr)) (fun i _ => n - (intOf i).toNat)
    case atStart => exact ⟨0, by omega, rfl, M0⟩
    case round =>
      obtain ⟨k, hk, rfl, HF⟩ := hrel
      by_cases hlt : k < n
      · obtain ⟨x, et⟩ : ∃ x, xs[k]? = some x := ⟨_, List.getElem?_eq_getElem (by rw [EN.out]; exact hlt)⟩
        obtain ⟨cs, cc, hx⟩ := HC.out k x et
        replace cc := cc.below HF.out.below
        replace hx := evR.rb hx HF.out.below
        have LA : Hid (evR.sz x ≤ 1048576) := show _ ≤ _ by have := sum_one (f := evR.sz) et; have := HS.out; omega
        have ET := hide et
        obtain ⟨a0, a1, x2, x3, x4⟩ := x
        have HX := hide hx
        obtain ⟨q2, c2, q3, c3, q4, c4, rfl, _, _, _⟩ := evR_rd hx
        have z0 : wr.cell? ⟨B, off + k * 5, none⟩ = some (.int .i64 a0) := cc 0 _ rfl
        have z1 : wr.cell? ⟨B, off + k * 5 + 1, none⟩ = some (.int .i64 a1) := cc 1 _ rfl
        have z2 : wr.cell? ⟨B, off + k * 5 + 2, none⟩ = some (.slice q2 x2.length c2) := cc 2 _ rfl
        have z3 : wr.cell? ⟨B, off + k * 5 + 3, none⟩ = some (.slice q3 x3.length c3) := cc 3 _ rfl
        have z4 : wr.cell? ⟨B, off + k * 5 + 4, none⟩ = some (.slice q4 x4.length c4) := cc 4 _ rfl
        have lk : ((k : Nat) : Int) < (n : Nat) := by omega
        clear et hx cc
        go_wp2_with fail
        refine (toSymEvent a0 a1 x2 x3 x4 _ _ HX.out LA.out).mono ?_
        rintro e u ⟨g2, g3, g4, rfl, RX, hb⟩
        have NX := hide (Fill.next HF.out hlt ET.out hb RX)
        obtain ⟨y0, e0⟩ := HF.out.left (k * 5) (by show _ < n * 5; omega)
        obtain ⟨y1, e1⟩ := HF.out.left (k * 5 + 1) (by show _ < n * 5; omega)
        obtain ⟨y2, e2⟩ := HF.out.left (k * 5 + 2) (by show _ < n * 5; omega)
        obtain ⟨y3, e3⟩ := HF.out.left (k * 5 + 3) (by show _ < n * 5; omega)
        obtain ⟨y4, e4⟩ := HF.out.left (k * 5 + 4) (by show _ < n * 5; omega)
        have p0 := cell_below hb e0
        have p1 := cell_below hb e1
        have p2 := cell_below hb e2
        have p3 := cell_below hb e3
        have p4 := cell_below hb e4
        have ff (i : Nat) (hi : i < n * 5) : u.frozen? ⟨w.heap.size, i, none⟩ = false := by rw [World.frozen?_of_block (w := wr) (a := ⟨w.heap.size, i, none⟩) (hb.block w.heap.size HF.out.lt)]; exact HF.out.soft _ hi
        have f0 := ff (k * 5) (by omega)
        have f1 := ff (k * 5 + 1) (by omega)
        have f2 := ff (k * 5 + 2) (by omega)
        have f3 := ff (k * 5 + 3) (by omega)
        have f4 := ff (k * 5 + 4) (by omega)
        have lw : w.heap.size < u.heap.size := Nat.lt_of_lt_of_le HF.out.lt hb.size
        rw [show k * evR.n = k * 5 from rfl] at NX
        simp only [setN, Nat.add_assoc, Nat.reduceAdd] at NX
        clear hb RX e0 z0 e1 z1 e2 z2 e3 z3 e4 z4 HF HX ff
        go_wp2
        exact ⟨⟨k + 1, by omega, by go_num, NX⟩, by simp [intOf]; omega⟩
      · obtain rfl : k = n := by omega
        have FF := hide (GO.out _ _ (HF.out.whole EN.out (by unfold maxLen; omega)))
        have FB := hide HF.out.below
        clear HF GO
        go_wp2
        go_ret
        exact ⟨w.heap.size, rfl, FF.out, FB.out⟩
set_option maxRecDepth 8000 in
set_option maxHeartbeats 4000000 in
theorem eqSymEventS (xs : List (Int × Int × List Mono × List Mono × List (List Mono))) (v v' : Value) (w : World) (h : evsK.rd w v xs) (h' : evsK.rd w v' xs) :
    Calls Try.prog 27 #[v, v'] w fun e w' => e = .returned (.bool true) ∧ Below w.heap.size w w' := by
  obtain ⟨a, cap, B, off, rfl, h2, h3, hz, h4⟩ := h
  obtain ⟨a', cap', B', off', rfl, h2', h3', hz', h4'⟩ := h'
  unfold maxLen at h3 h3'
  clear hz hz'
  obtain ⟨n, en⟩ : ∃ n, xs.length = n := ⟨_, rfl⟩
  have EN := hide en
  rw [en] at h2 h2' ⊢
  have H4 := hide h4
  have H4' := hide h4'
  have nn : ((n : Int) != (n : Int)) = false := by simp
  clear en h4 h4'
  go_enter Try.func27, Try.ntmps27
  by_cases n0 : n = 0
  · subst n0
    go_wp2
    refine wp_loop_rounds 1 ?_
    rw [rounds_succ]
    go_wp2
    go_ret
    exact ⟨rfl, Below.refl _ _⟩
  · obtain ⟨rfl, hc⟩ := H4.out.resolve_left (fun e => n0 (by rw [← EN.out, e]; rfl))
    obtain ⟨rfl, hc'⟩ := H4'.out.resolve_left (fun e => n0 (by rw [← EN.out, e]; rfl))
    have HC := hide hc
    have HC' := hide hc'
    clear hc hc' H4 H4'
    go_wp2
    go_loopw [5] (fun i wr => ∃ k : Nat, k ≤ n ∧ i = .int .i64 k ∧ Hid (Below w.heap.size w wr)) (fun i _ => n - (intOf i).toNat)
    case atStart => exact ⟨0, by omega, rfl, Below.refl _ _⟩
    case round =>
      obtain ⟨k, hk, rfl, HB⟩ := hrel
      by_cases hlt : k < n
      · obtain ⟨x, et⟩ : ∃ x, xs[k]? = some x := ⟨_, List.getElem?_eq_getElem (by rw [EN.out]; exact hlt)⟩
        obtain ⟨cs, cc, hx⟩ := HC.out k x et
        obtain ⟨cs', cc', hx'⟩ := HC'.out k x et
        have HB2 : Hid (Below w.heap.size w wr.drew) := HB.out.drew
        replace cc := cc.below HB2.out
        replace cc' := cc'.below HB2.out
        replace hx := evR.rb hx HB2.out
        replace hx' := evR.rb hx' HB2.out
        obtain ⟨a0, a1, x2, x3, x4⟩ := x
        have HX := hide hx
        have HX' := hide hx'
        obtain ⟨q2, c2, q3, c3, q4, c4, rfl, _, _, _⟩ := evR_rd hx
        obtain ⟨p2, d2, p3, d3, p4, d4, rfl, _, _, _⟩ := evR_rd hx'
        have z0 : wr.drew.cell? ⟨B, off + k * 5, none⟩ = some (.int .i64 a0) := cc 0 _ rfl
        have z1 : wr.drew.cell? ⟨B, off + k * 5 + 1, none⟩ = some (.int .i64 a1) := cc 1 _ rfl
        have z2 : wr.drew.cell? ⟨B, off + k * 5 + 2, none⟩ = some (.slice q2 x2.length c2) := cc 2 _ rfl
        have z3 : wr.drew.cell? ⟨B, off + k * 5 + 3, none⟩ = some (.slice q3 x3.length c3) := cc 3 _ rfl
        have z4 : wr.drew.cell? ⟨B, off + k * 5 + 4, none⟩ = some (.slice q4 x4.length c4) := cc 4 _ rfl
        have y0 : wr.drew.cell? ⟨B', off' + k * 5, none⟩ = some (.int .i64 a0) := cc' 0 _ rfl
        have y1 : wr.drew.cell? ⟨B', off' + k * 5 + 1, none⟩ = some (.int .i64 a1) := cc' 1 _ rfl
        have y2 : wr.drew.cell? ⟨B', off' + k * 5 + 2, none⟩ = some (.slice p2 x2.length d2) := cc' 2 _ rfl
        have y3 : wr.drew.cell? ⟨B', off' + k * 5 + 3, none⟩ = some (.slice p3 x3.length d3) := cc' 3 _ rfl
        have y4 : wr.drew.cell? ⟨B', off' + k * 5 + 4, none⟩ = some (.slice p4 x4.length d4) := cc' 4 _ rfl
        have lk : ((k : Nat) : Int) < (n : Nat) := by omega
        clear et hx hx' cc cc'
        go_wp2_with fail
        refine region_tail 8 (by kernel_rfl) (by kernel_rfl) ?_
        simp only [List.take_succ_cons, List.take_zero, List.drop_succ_cons, List.drop_zero]
        repeat still_step
        refine wpStill_nil ?_
        go_wp2_with fail
        refine (eqSymEvent a0 a1 x2 x3 x4 _ _ _ HX.out HX'.out).mono ?_
        rintro e u ⟨rfl, hb⟩
        have HB3 := hide (HB2.out.trans (hb.mono HB2.out.size))
        clear hb
        go_wp2
        exact ⟨⟨k + 1, by omega, by go_num, HB3⟩, by simp [intOf]; omega⟩
      · go_wp2
        go_ret
        exact ⟨rfl, HB.out⟩
theorem evR_nx {a0 : Int} {a1 : Int} {x2 : List Mono} {x3 : List Mono} {x4 : List (List Mono)} : evR.nx (a0, a1, x2, x3, x4) = 1 + (1 + (polyK.nx x2 + (polyK.nx x3 + (sumsK.nx x4)))) := rfl
theorem evR_mr {a0 : Int} {a1 : Int} {x2 : List Mono} {x3 : List Mono} {x4 : List (List Mono)} (k : Int) : evR.mr k (a0, a1, x2, x3, x4) = (k, k + 1, polyK.mr (k + 1 + 1) x2, polyK.mr (k + 1 + 1 + (polyK.nx x2 : Nat)) x3, sumsK.mr (k + 1 + 1 + (polyK.nx x2 : Nat) + (polyK.nx x3 : Nat)) x4) := rfl
set_option maxRecDepth 8000 in
set_option maxHeartbeats 8000000 in
theorem markSymEventS (xs : List (Int × Int × List Mono × List Mono × List (List Mono))) (k : Int) (A : Nat → Prop) (v : Value) (w : World) (h : evsK.ow w A v xs) (k0 : 0 ≤ k) (k1 : k + (evsK.nx xs : Nat) ≤ 1000000000) :
    Calls Try.prog 39 #[v, .int .i64 k] w fun e w' => e = .returned (.int .i64 (k + (evsK.nx xs : Nat))) ∧ evsK.ow w' A v (evsK.mr k xs) ∧ Keep A w w' := by
  obtain ⟨a, G, off, cap, E, rfl, h⟩ := h
  have h2 := h.le
  have h3 := h.mx
  unfold maxLen at h3
  obtain ⟨n, en⟩ : ∃ n, xs.length = n := ⟨_, rfl⟩
  have EN := hide en
  replace k1 : k + (sum evR.nx xs : Nat) ≤ 1000000000 := k1
  have HS := hide k1
  have HW := hide h
  rw [en] at h2 ⊢
  have ML : Hid ((markL evR k xs).length = n) := show _ = _ by rw [markL_len, en]
  have MW : Hid (mixL evR k xs n = markL evR k xs) := show _ = _ by rw [← en]; exact mixL_whole xs k
  have GO : Hid (∀ V, LW evR V A a G off cap E (mixL evR k xs n) → evsK.ow V A (.slice a n cap) (evsK.mr k xs)) := fun V hV => ⟨a, G, off, cap, E, (by show _ = Value.slice a (markL evR k xs).length cap; rw [ML.out]), by show LW evR V A a G off cap E (markL evR k xs); rw [← MW.out]; exact hV⟩
  have KX : Hid (evsK.nx xs = sum evR.nx xs) := show _ = _ from rfl
  rw [KX.out]
  obtain ⟨KE, eKE⟩ : ∃ KE, k + (sum evR.nx xs : Nat) = KE := ⟨_, rfl⟩
  rw [eKE]
  have EKE := hide eKE
  obtain ⟨OUT, eO⟩ : ∃ O, evsK.mr k xs = O := ⟨_, rfl⟩
  rw [eO] at GO ⊢
  clear en h eKE eO k1
  go_enter Try.func39, Try.ntmps39
  by_cases n0 : n = 0
  · subst n0
    have FF : Hid (evsK.ow w A (.slice a 0 cap) OUT) := GO.out w (by rw [mixL_zero]; exact HW.out)
    have OZ : Hid (k = KE) := show _ = _ by rw [← EKE.out, show xs = [] from List.length_eq_zero_iff.1 EN.out]; simp [sum]
    clear GO
    go_wp2
    refine wp_loop_rounds 1 ?_
    rw [rounds_succ]
    go_wp2
    go_ret
    exact ⟨ret_int OZ.out, FF.out, Keep.refl _ _⟩
  · have hG := HW.out.at_.resolve_left (fun e => n0 (by rw [← EN.out, e]; rfl))
    obtain ⟨rfl, hG2⟩ := hG
    have GG := hide hG2
    clear hG2
    go_wp2
    go_loopw [1, 5] (fun q i wr => ∃ (j : Nat) (kk : Int), j ≤ n ∧ i = .int .i64 j ∧ q = .int .i64 kk ∧ Hid (kk = k + (sum evR.nx (xs.take j) : Nat)) ∧ 0 ≤ kk ∧ kk ≤ 1000000000 ∧ Hid (LW evR wr A (some ⟨G, off, none⟩) G off cap E (mixL evR k xs j)) ∧ Hid (Keep A w wr)) (fun _ i _ => n - (intOf i).toNat)
    case atStart => exact ⟨0, k, by omega, rfl, rfl, by show _ = _; simp [sum], k0, by have := HS.out; omega, by show LW _ _ _ _ _ _ _ _ _; rw [mixL_zero]; exact HW.out, Keep.refl _ _⟩
    case round =>
      obtain ⟨j, kk, hj, rfl, rfl, HK, kk0, kk1, HP, HB⟩ := hrel
      by_cases hlt : j < n
      case neg =>
        obtain rfl : j = n := by omega
        have HD : Hid (kk = KE) := show _ = _ by rw [← EKE.out, HK.out, List.take_of_length_le (by rw [EN.out]; omega)]
        have FF := hide (GO.out wr HP.out)
        clear GO
        go_wp2
        go_ret
        exact ⟨ret_int HD.out, FF.out, HB.out⟩
      obtain ⟨x, et⟩ : ∃ x, xs[j]? = some x := ⟨_, List.getElem?_eq_getElem (by rw [EN.out]; exact hlt)⟩
      have em := (mixL_at (R := evR) (k := k) (n := j) et).trans (by rw [if_neg (Nat.lt_irrefl _)])
      obtain ⟨cs, cc, cf, cx, cA, cG⟩ := HP.out.cells j x em
      have sz := sum_one (f := evR.nx) et
      have ON := hide (sum_take (f := evR.nx) et)
      have MX := hide (mixL_next (R := evR) (k := k) et)
      have EM := hide em
      have KL : Hid (kk + (evR.nx x : Nat) ≤ 1000000000) := show _ ≤ _ by have := HS.out; have := HK.out; omega
      obtain ⟨a0, a1, x2, x3, x4⟩ := x
      rw [evR_nx] at ON KL
      rw [evR_mr] at MX
      obtain ⟨q2, c2, q3, c3, q4, c4, A2, A3, A4, rfl, k2, k3, k4, s2, s3, s4, d2_3, d2_4, d3_4⟩ := evR_own cx
      have lw : G < wr.heap.size := Nat.lt_of_lt_of_le GG.out.2 HB.out.size
      have lj : ((j : Nat) : Int) < (n : Nat) := by omega
      have RA : Hid (RowAt wr wr G (off + j * 5) 5 [.int .i64 a0, .int .i64 a1, .slice q2 x2.length c2, .slice q3 x3.length c3, .slice q4 x4.length c4]) := ⟨lw, cc, rfl, fun _ _ => rfl, fun _ => rfl⟩
      have f0 : wr.frozen? ⟨G, off + j * 5, none⟩ = false := cf 0 (by show 0 < 5; omega) (by exact Or.inl rfl)
      have f1 : wr.frozen? ⟨G, off + j * 5 + 1, none⟩ = false := cf 1 (by show 1 < 5; omega) (by exact Or.inr (Or.inl rfl))
      have NG : Hid (¬ A2 G ∧ ¬ A3 G ∧ ¬ A4 G ∧ True) := ⟨(fun q => cG (s2 _ q)), (fun q => cG (s3 _ q)), (fun q => cG (s4 _ q)), trivial⟩
      have KW : Hid (Keep (fun b => b = G ∨ E j b) wr wr) := Keep.refl _ _
      have H2 := hide k2
      have H3 := hide k3
      have H4 := hide k4
      have CA := hide cA
      clear et em sz cc cf cx cA cG k2 k3 k4
      have w0_ : wr.cell? ⟨G, off + j * 5, none⟩ = _ := RA.out.at_ 0 _ rfl
      have v0_ : wr.frozen? ⟨G, off + j * 5, none⟩ = false := (RA.out.fr _).trans f0
      have w1_ : wr.cell? ⟨G, off + j * 5 + 1, none⟩ = _ := RA.out.at_ 1 _ rfl
      have v1_ : wr.frozen? ⟨G, off + j * 5 + 1, none⟩ = false := (RA.out.fr _).trans f1
      have TB := (((Turn.refl G wr).setCell (p := ⟨G, off + j * 5, none⟩) rfl (.int .i64 kk)).setCell (p := ⟨G, off + j * 5 + 1, none⟩) rfl (.int .i64 (kk + 1)))
      have RA2 := hide ((RA.out.set (f := 0) (q := off + j * 5) (by omega) (.int .i64 kk) rfl (show _ = ([.int .i64 kk, .int .i64 a1, .slice q2 x2.length c2, .slice q3 x3.length c3, .slice q4 x4.length c4] : List Value) from rfl)).set (f := 1) (q := off + j * 5 + 1) (by omega) (.int .i64 (kk + 1)) rfl (show _ = ([.int .i64 kk, .int .i64 (kk + 1), .slice q2 x2.length c2, .slice q3 x3.length c3, .slice q4 x4.length c4] : List Value) from rfl))
      have KW2 := hide (KW.out.trans ((Keep.of_turn TB).mono (fun b _ q => Or.inl q)))
      have H22 := hide (polyK.ot H2.out TB NG.out.1)
      have H32 := hide (polyK.ot H3.out TB NG.out.2.1)
      have H42 := hide (sumsK.ot H4.out TB NG.out.2.2.1)
      have gl_ : G < wr.heap.size := RA.out.lt
      clear TB RA KW H2 H3 H4 
      have z2 : ((wr.setCell ⟨G, off + j * 5, none⟩ (.int .i64 kk)).setCell ⟨G, off + j * 5 + 1, none⟩ (.int .i64 (kk + 1))).cell? ⟨G, off + j * 5 + 2, none⟩ = _ := RA2.out.at_ 2 _ rfl
      go_wp2_with fail
      generalize (wr.setCell ⟨G, off + j * 5, none⟩ (.int .i64 kk)).setCell ⟨G, off + j * 5 + 1, none⟩ (.int .i64 (kk + 1)) = U2 at RA2 KW2 H22 H32 H42  z2 ⊢
      have RA := RA2
      have KW := KW2
      have H2 := H22
      have H3 := H32
      have H4 := H42
      clear RA2 KW2 H22 H32 H42  w0_ v0_ w1_ v1_
      obtain ⟨k2_, ek2⟩ : ∃ z, (kk + 1) + 1 = z := ⟨_, rfl⟩
      rw [ek2]
      have EK2 : Hid (k2_ = (kk + 1) + 1) := ek2.symm
      have kb2 : 0 ≤ k2_ ∧ k2_ + (polyK.nx x2 : Nat) ≤ 1000000000 := by have := KL.out; omega
      clear ek2
      refine (markTrmMonoS x2 k2_ A2 _ _ H2.out kb2.1 kb2.2).mono ?_
      rintro e u2 ⟨rfl, O2, hk⟩
      have W2 := hide O2
      replace RA := hide (RA.out.keep hk NG.out.1)
      replace KW := hide (KW.out.trans (hk.mono (fun b _ q => Or.inr (s2 b q))))
      replace H3 := hide (polyK.ok H3.out hk (fun b q r => d2_3 b r q))
      replace H4 := hide (sumsK.ok H4.out hk (fun b q r => d2_4 b r q))
      clear O2 hk H2 z2
      obtain ⟨r2_, er2⟩ : ∃ z, k2_ + (polyK.nx x2 : Nat) = z := ⟨_, rfl⟩
      rw [er2]
      have ER2 : Hid (r2_ = k2_ + (polyK.nx x2 : Nat)) := er2.symm
      have rb2 : 0 ≤ r2_ ∧ r2_ ≤ 1000000000 := by omega
      clear er2
      have z3 : u2.cell? ⟨G, off + j * 5 + 3, none⟩ = _ := RA.out.at_ 3 _ rfl
      go_wp2_with fail
      obtain ⟨k3_, ek3⟩ : ∃ z, r2_ = z := ⟨_, rfl⟩
      rw [ek3]
      have EK3 : Hid (k3_ = r2_) := ek3.symm
      have kb3 : 0 ≤ k3_ ∧ k3_ + (polyK.nx x3 : Nat) ≤ 1000000000 := by have := KL.out; have := EK2.out; have := ER2.out; omega
      clear ek3
      refine (markTrmMonoS x3 k3_ A3 _ _ H3.out kb3.1 kb3.2).mono ?_
      rintro e u3 ⟨rfl, O3, hk⟩
      have W3 := hide O3
      replace RA := hide (RA.out.keep hk NG.out.2.1)
      replace KW := hide (KW.out.trans (hk.mono (fun b _ q => Or.inr (s3 b q))))
      replace W2 := hide (polyK.ok W2.out hk (fun b q r => d2_3 b q r))
      replace H4 := hide (sumsK.ok H4.out hk (fun b q r => d3_4 b r q))
      clear O3 hk H3 z3
      obtain ⟨r3_, er3⟩ : ∃ z, k3_ + (polyK.nx x3 : Nat) = z := ⟨_, rfl⟩
      rw [er3]
      have ER3 : Hid (r3_ = k3_ + (polyK.nx x3 : Nat)) := er3.symm
      have rb3 : 0 ≤ r3_ ∧ r3_ ≤ 1000000000 := by omega
      clear er3
      have z4 : u3.cell? ⟨G, off + j * 5 + 4, none⟩ = _ := RA.out.at_ 4 _ rfl
      go_wp2_with fail
      obtain ⟨k4_, ek4⟩ : ∃ z, r3_ = z := ⟨_, rfl⟩
      rw [ek4]
      have EK4 : Hid (k4_ = r3_) := ek4.symm
      have kb4 : 0 ≤ k4_ ∧ k4_ + (sumsK.nx x4 : Nat) ≤ 1000000000 := by have := KL.out; have := EK2.out; have := ER2.out; have := EK3.out; have := ER3.out; omega
      clear ek4
      refine (markTrmPolyS x4 k4_ A4 _ _ H4.out kb4.1 kb4.2).mono ?_
      rintro e u4 ⟨rfl, O4, hk⟩
      have W4 := hide O4
      replace RA := hide (RA.out.keep hk NG.out.2.2.1)
      replace KW := hide (KW.out.trans (hk.mono (fun b _ q => Or.inr (s4 b q))))
      replace W2 := hide (polyK.ok W2.out hk (fun b q r => d2_4 b q r))
      replace W3 := hide (polyK.ok W3.out hk (fun b q r => d3_4 b q r))
      clear O4 hk H4 z4
      obtain ⟨r4_, er4⟩ : ∃ z, k4_ + (sumsK.nx x4 : Nat) = z := ⟨_, rfl⟩
      rw [er4]
      have ER4 : Hid (r4_ = k4_ + (sumsK.nx x4 : Nat)) := er4.symm
      have rb4 : 0 ≤ r4_ ∧ r4_ ≤ 1000000000 := by omega
      clear er4
      have NW := LW.mark HP.out EM.out KW.out (show CellsAt _ G (off + j * 5) _ from RA.out.at_) (show ∀ o, (o < off + j * 5 ∨ off + j * 5 + 5 ≤ o) → _ from RA.out.far) RA.out.fr (evR_omk (A := E j) (a0 := kk) (a1 := (kk + 1)) W2.out W3.out W4.out s2 s3 s4 d2_3 d2_4 d3_4)
      have NW2 : Hid (LW evR u4 A (some ⟨G, off, none⟩) G off cap E (mixL evR k xs (j + 1))) := show LW _ _ _ _ _ _ _ _ _ by
        rw [← MX.out]
        have eq : (kk, (kk + 1), polyK.mr k2_ x2, polyK.mr k3_ x3, sumsK.mr k4_ x4) = ((k + (sum evR.nx (xs.take j) : Nat)), (k + (sum evR.nx (xs.take j) : Nat)) + 1, polyK.mr ((k + (sum evR.nx (xs.take j) : Nat)) + 1 + 1) x2, polyK.mr ((k + (sum evR.nx (xs.take j) : Nat)) + 1 + 1 + (polyK.nx x2 : Nat)) x3, sumsK.mr ((k + (sum evR.nx (xs.take j) : Nat)) + 1 + 1 + (polyK.nx x2 : Nat) + (polyK.nx x3 : Nat)) x4) := by
          have h0 := HK.out
          have q0_ : kk = (k + (sum evR.nx (xs.take j) : Nat)) := by omega
          have q1_ : (kk + 1) = (k + (sum evR.nx (xs.take j) : Nat)) + 1 := by omega
          have q2_ : k2_ = (k + (sum evR.nx (xs.take j) : Nat)) + 1 + 1 := by have := EK2.out; omega
          have q3_ : k3_ = (k + (sum evR.nx (xs.take j) : Nat)) + 1 + 1 + (polyK.nx x2 : Nat) := by have := EK2.out; have := ER2.out; have := EK3.out; omega
          have q4_ : k4_ = (k + (sum evR.nx (xs.take j) : Nat)) + 1 + 1 + (polyK.nx x2 : Nat) + (polyK.nx x3 : Nat) := by have := EK2.out; have := ER2.out; have := EK3.out; have := ER3.out; have := EK4.out; omega
          exact (Prod.ext q0_ (Prod.ext q1_ (Prod.ext (congrArg (fun z => polyK.mr z x2) q2_) (Prod.ext (congrArg (fun z => polyK.mr z x3) q3_) (congrArg (fun z => sumsK.mr z x4) q4_)))))
        rw [← eq]
        exact NW
      have QK := hide (HB.out.trans (KW.out.mono (fun b _ q => by
        rcases q with q | q
        · subst q; exact GG.out.1
        · exact CA.out b q)))
      have QE : Hid (r4_ = k + (sum evR.nx (xs.take (j + 1)) : Nat)) := show _ = _ by have := ON.out; have := HK.out; have := EK2.out; have := ER2.out; have := EK3.out; have := ER3.out; have := EK4.out; have := ER4.out; omega
      have b9 : 0 ≤ r4_ ∧ r4_ ≤ 1000000000 := by have := KL.out; have := EK2.out; have := ER2.out; have := EK3.out; have := ER3.out; have := EK4.out; have := ER4.out; omega
      clear NW RA KW W2 W3 W4 HP HB GO
      go_wp2
      exact ⟨⟨j + 1, r4_, by omega, by go_num, rfl, QE, b9.1, b9.2, NW2, QK⟩, by simp [intOf]; omega⟩
set_option maxRecDepth 8000 in
set_option maxHeartbeats 8000000 in
theorem heldSymEventS (xs : List (Int × Int × List Mono × List Mono × List (List Mono))) (k : Int) (v : Value) (w : World) (h : evsK.rd w v (evsK.mr k xs)) (k0 : 0 ≤ k) (k1 : k + (evsK.nx xs : Nat) ≤ 1000000000) :
    Calls Try.prog 42 #[v, .int .i64 k] w fun e w' => e = .returned (.int .i64 (k + (evsK.nx xs : Nat))) ∧ Below w.heap.size w w' := by
  replace h : LRd evR w v (markL evR k xs) := h
  obtain ⟨a, cap, B, off, rfl, h2, h3, hz, h4⟩ := h
  unfold maxLen at h3
  clear hz
  obtain ⟨n, en⟩ : ∃ n, xs.length = n := ⟨_, rfl⟩
  have EN := hide en
  replace k1 : k + (sum evR.nx xs : Nat) ≤ 1000000000 := k1
  have HS := hide k1
  rw [markL_len, en] at h2 ⊢
  have H4 := hide h4
  have KX : Hid (evsK.nx xs = sum evR.nx xs) := show _ = _ from rfl
  rw [KX.out]
  obtain ⟨KE, eKE⟩ : ∃ KE, k + (sum evR.nx xs : Nat) = KE := ⟨_, rfl⟩
  rw [eKE]
  have EKE := hide eKE
  clear en h4 eKE k1
  go_enter Try.func42, Try.ntmps42
  by_cases n0 : n = 0
  · subst n0
    have OZ : Hid (k = KE) := show _ = _ by rw [← EKE.out, show xs = [] from List.length_eq_zero_iff.1 EN.out]; simp [sum]
    go_wp2
    refine wp_loop_rounds 1 ?_
    rw [rounds_succ]
    go_wp2
    go_ret
    exact ⟨ret_int OZ.out, Below.refl _ _⟩
  · obtain ⟨rfl, hc⟩ := H4.out.resolve_left (fun e => n0 (by have := congrArg List.length e; rw [markL_len, EN.out] at this; exact this))
    have HC := hide hc
    clear hc H4
    go_wp2
    go_loopw [1, 5] (fun q i wr => ∃ (j : Nat) (kk : Int), j ≤ n ∧ i = .int .i64 j ∧ q = .int .i64 kk ∧ Hid (kk = k + (sum evR.nx (xs.take j) : Nat)) ∧ 0 ≤ kk ∧ kk ≤ 1000000000 ∧ Hid (Below w.heap.size w wr)) (fun _ i _ => n - (intOf i).toNat)
    case atStart => exact ⟨0, k, by omega, rfl, rfl, by show _ = _; simp [sum], k0, by have := HS.out; omega, Below.refl _ _⟩
    case round =>
      obtain ⟨j, kk, hj, rfl, rfl, HK, kk0, kk1, HB⟩ := hrel
      by_cases hlt : j < n
      case neg =>
        obtain rfl : j = n := by omega
        have HD : Hid (kk = KE) := show _ = _ by rw [← EKE.out, HK.out, List.take_of_length_le (by rw [EN.out]; omega)]
        go_wp2
        go_ret
        exact ⟨ret_int HD.out, HB.out⟩
      obtain ⟨x, et⟩ : ∃ x, xs[j]? = some x := ⟨_, List.getElem?_eq_getElem (by rw [EN.out]; exact hlt)⟩
      obtain ⟨cs, cc, hx⟩ := HC.out j _ (markL_at et)
      replace cc := cc.below HB.out
      replace hx := evR.rb hx HB.out
      have sz := sum_one (f := evR.nx) et
      have ON := hide (sum_take (f := evR.nx) et)
      have KL : Hid (kk + (evR.nx x : Nat) ≤ 1000000000) := show _ ≤ _ by have := HS.out; have := HK.out; omega
      rw [← HK.out] at hx
      obtain ⟨a0, a1, x2, x3, x4⟩ := x
      rw [evR_nx] at ON KL
      rw [evR_mr] at hx
      obtain ⟨k2_, ek2⟩ : ∃ z, (kk + 1) + 1 = z := ⟨_, rfl⟩
      rw [ek2] at hx
      obtain ⟨r2_, er2⟩ : ∃ z, k2_ + (polyK.nx x2 : Nat) = z := ⟨_, rfl⟩
      try rw [er2] at hx
      have EK2 : Hid (k2_ = (kk + 1) + 1) := ek2.symm
      have ER2 : Hid (r2_ = k2_ + (polyK.nx x2 : Nat)) := er2.symm
      have kb2 : 0 ≤ k2_ ∧ k2_ + (polyK.nx x2 : Nat) ≤ 1000000000 := by have := KL.out; omega
      have rb2 : 0 ≤ r2_ ∧ r2_ ≤ 1000000000 := by omega
      have nn2 : ¬ r2_ < 0 := by omega
      obtain ⟨k3_, ek3⟩ : ∃ z, r2_ = z := ⟨_, rfl⟩
      rw [ek3] at hx
      obtain ⟨r3_, er3⟩ : ∃ z, k3_ + (polyK.nx x3 : Nat) = z := ⟨_, rfl⟩
      try rw [er3] at hx
      have EK3 : Hid (k3_ = r2_) := ek3.symm
      have ER3 : Hid (r3_ = k3_ + (polyK.nx x3 : Nat)) := er3.symm
      have kb3 : 0 ≤ k3_ ∧ k3_ + (polyK.nx x3 : Nat) ≤ 1000000000 := by have := KL.out; omega
      have rb3 : 0 ≤ r3_ ∧ r3_ ≤ 1000000000 := by omega
      have nn3 : ¬ r3_ < 0 := by omega
      obtain ⟨k4_, ek4⟩ : ∃ z, r3_ = z := ⟨_, rfl⟩
      rw [ek4] at hx
      obtain ⟨r4_, er4⟩ : ∃ z, k4_ + (sumsK.nx x4 : Nat) = z := ⟨_, rfl⟩
      try rw [er4] at hx
      have EK4 : Hid (k4_ = r3_) := ek4.symm
      have ER4 : Hid (r4_ = k4_ + (sumsK.nx x4 : Nat)) := er4.symm
      have kb4 : 0 ≤ k4_ ∧ k4_ + (sumsK.nx x4 : Nat) ≤ 1000000000 := by have := KL.out; omega
      have rb4 : 0 ≤ r4_ ∧ r4_ ≤ 1000000000 := by omega
      have nn4 : ¬ r4_ < 0 := by omega
      obtain ⟨q2, c2, q3, c3, q4, c4, rfl, k2, k3, k4⟩ := evR_rd hx
      simp only [polyK_len, sumsK_len] at k2 k3 k4 cc
      have z0 : wr.cell? ⟨B, off + j * 5, none⟩ = some (.int .i64 kk) := cc 0 _ rfl
      have z1 : wr.cell? ⟨B, off + j * 5 + 1, none⟩ = some (.int .i64 (kk + 1)) := cc 1 _ rfl
      have z2 : wr.cell? ⟨B, off + j * 5 + 2, none⟩ = some (.slice q2 x2.length c2) := cc 2 _ rfl
      have z3 : wr.cell? ⟨B, off + j * 5 + 3, none⟩ = some (.slice q3 x3.length c3) := cc 3 _ rfl
      have z4 : wr.cell? ⟨B, off + j * 5 + 4, none⟩ = some (.slice q4 x4.length c4) := cc 4 _ rfl
      have Z0 := hide z0
      have ne0 : (kk != kk) = false := by simp
      have Z1 := hide z1
      have ne1 : (kk + 1 != kk + 1) = false := by simp
      have Z2 := hide z2
      have Z3 := hide z3
      have Z4 := hide z4
      have H2 := hide k2
      have H3 := hide k3
      have H4 := hide k4
      have lj : ((j : Nat) : Int) < (n : Nat) := by omega
      clear et sz hx cc k2 k3 k4 er2 er3 er4
      go_wp2_with fail
      try rw [ek2]
      refine (heldTrmMonoS x2 k2_ _ _ H2.out kb2.1 kb2.2).mono ?_
      rintro e u2 ⟨rfl, hb⟩
      rw [← ER2.out]
      replace HB := hide (HB.out.trans (hb.mono HB.out.size))
      replace H3 := hide (polyK.rb H3.out hb)
      replace H4 := hide (sumsK.rb H4.out hb)
      replace Z0 := hide (cell_below hb Z0.out)
      replace z0 := Z0.out
      replace Z1 := hide (cell_below hb Z1.out)
      replace z1 := Z1.out
      replace Z2 := hide (cell_below hb Z2.out)
      replace z2 := Z2.out
      replace Z3 := hide (cell_below hb Z3.out)
      replace z3 := Z3.out
      replace Z4 := hide (cell_below hb Z4.out)
      replace z4 := Z4.out
      clear hb H2 ek2
      go_wp2_with fail
      try rw [ek3]
      refine (heldTrmMonoS x3 k3_ _ _ H3.out kb3.1 kb3.2).mono ?_
      rintro e u3 ⟨rfl, hb⟩
      rw [← ER3.out]
      replace HB := hide (HB.out.trans (hb.mono HB.out.size))
      replace H4 := hide (sumsK.rb H4.out hb)
      replace Z0 := hide (cell_below hb Z0.out)
      replace z0 := Z0.out
      replace Z1 := hide (cell_below hb Z1.out)
      replace z1 := Z1.out
      replace Z2 := hide (cell_below hb Z2.out)
      replace z2 := Z2.out
      replace Z3 := hide (cell_below hb Z3.out)
      replace z3 := Z3.out
      replace Z4 := hide (cell_below hb Z4.out)
      replace z4 := Z4.out
      clear hb H3 ek3
      go_wp2_with fail
      try rw [ek4]
      refine (heldTrmPolyS x4 k4_ _ _ H4.out kb4.1 kb4.2).mono ?_
      rintro e u4 ⟨rfl, hb⟩
      rw [← ER4.out]
      replace HB := hide (HB.out.trans (hb.mono HB.out.size))
      replace Z0 := hide (cell_below hb Z0.out)
      replace z0 := Z0.out
      replace Z1 := hide (cell_below hb Z1.out)
      replace z1 := Z1.out
      replace Z2 := hide (cell_below hb Z2.out)
      replace z2 := Z2.out
      replace Z3 := hide (cell_below hb Z3.out)
      replace z3 := Z3.out
      replace Z4 := hide (cell_below hb Z4.out)
      replace z4 := Z4.out
      clear hb H4 ek4
      have QE : Hid (r4_ = k + (sum evR.nx (xs.take (j + 1)) : Nat)) := show _ = _ by have := ON.out; have := HK.out; have := EK2.out; have := ER2.out; have := EK3.out; have := ER3.out; have := EK4.out; have := ER4.out; omega
      have b9 : 0 ≤ r4_ ∧ r4_ ≤ 1000000000 := by have := KL.out; have := EK2.out; have := ER2.out; have := EK3.out; have := ER3.out; have := EK4.out; have := ER4.out; omega
      go_wp2
      exact ⟨⟨j + 1, r4_, by omega, by go_num, rfl, QE, b9.1, b9.2, HB⟩, by simp [intOf]; omega⟩
set_option maxRecDepth 8000 in
theorem evR_hold {w : World} {n : Nat} {cs : List Value} (h : Shape.Holds Try.prog w (n + 7) 69 cs) : ∃ a0 a1 x2 x3 x4, evR.rd w cs (a0, a1, x2, x3, x4) := by
  obtain ⟨hl, hf⟩ := Shape.holds_struct (n := n + 6) Try.underlying69 h
  have em : Try.prog.cellsOf 69 = 5 := by kernel_rfl
  rw [em] at hl
  have ec0 : Try.prog.cellsOf 3 = 1 := by kernel_rfl
  have ec2 : Try.prog.cellsOf 26 = 1 := by kernel_rfl
  have ec4 : Try.prog.cellsOf 23 = 1 := by kernel_rfl
  obtain ⟨a0, e0, _⟩ := Shape.holds_int (n := n + 5) Try.underlying3 (hf _ (List.mem_of_getElem? (i := 0) rfl))
  obtain ⟨a1, e1, _⟩ := Shape.holds_int (n := n + 5) Try.underlying3 (hf _ (List.mem_of_getElem? (i := 1) rfl))
  obtain ⟨x2, v2, e2, k2⟩ := polyR_hold (n := n + 1) (hf _ (List.mem_of_getElem? (i := 2) rfl))
  obtain ⟨x3, v3, e3, k3⟩ := polyR_hold (n := n + 1) (hf _ (List.mem_of_getElem? (i := 3) rfl))
  obtain ⟨v4, x4, e4, k4⟩ := sumsK_hold (n := n + 0) (hf _ (List.mem_of_getElem? (i := 4) rfl))
  match cs, hl with
  | [c0, c1, c2, c3, c4], _ =>
    simp [ec0, ec2, ec4] at e0 e1 e2 e3 e4
    subst e0 e1 e2 e3 e4
    exact ⟨a0, a1, x2, x3, x4, evR_mk k2 k3 k4⟩
set_option maxRecDepth 8000 in
theorem evsK_hold {w : World} {n : Nat} {cs : List Value} (h : Shape.Holds Try.prog w (n + 8) 22 cs) : ∃ v xs, cs = [v] ∧ evsK.rd w v xs :=
  list_hold (R := evR) (n := n + 7) Try.underlying22 (by kernel_rfl) (by decide) h (fun ys hy => by
    obtain ⟨a0, a1, x2, x3, x4, hq⟩ := evR_hold (n := n) hy
    exact ⟨_, hq⟩)
end Go.Proofs.Ytclccaigkcilcaa.Dt
