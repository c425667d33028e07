/-
  The program's SymEnd.
-/
import Derived.Test.YtclccaigkcilcaaSeD
import Derived.Test.YtclccaigkcilcaaSeE
namespace Go.Proofs.Ytclccaigkcilcaa.Dt
set_option linter.unusedVariables false
set_option linter.unusedSimpArgs false
open Go.ChangeShapes Go.WideShapes Go.ChangeAt Go.RowKit IntS Pol Push
set_option maxRecDepth 8000 in
set_option maxHeartbeats 8000000 in
theorem implEnd (x0 : List Ev5) (x1 : List (List Mono)) (a2 : Int) (x3 x4 : List Mono) (a5 bh : Int) (cs : List Value) (w : World) (h : symR.rd w cs (x0, x1, a2, x3, x4, a5)) (hs : symR.sz (x0, x1, a2, x3, x4, a5) ≤ 1048576) :
    Calls Try.prog 11 #[.agg cs.toArray, .int .i64 bh] w fun e w' => ∃ cs', e = .returned (.agg cs'.toArray) ∧ symR.ow w' (New w w') cs' (symEndD (x0, x1, a2, x3, x4, a5) bh) ∧ Below w.heap.size w w' := by
  have HH := hide h
  have SS := hide hs
  obtain ⟨q0, c0, q1, c1, q3, c3, q4, c4, rfl, k0, k1, k3, k4⟩ := symR_rd h
  have NO : Hid (okP x3 = false ∨ okP x4 = false → symEndD (x0, x1, a2, x3, x4, a5) bh = ([], [], 0, [], [], 0)) := fun q => by show symEndD _ _ = _; unfold symEndD; exact if_pos q
  have YES : Hid (okP x3 = true → okP x4 = true → symEndD (x0, x1, a2, x3, x4, a5) bh = symD (endD a2 a5 bh (numP x3).1 (numP x4).1 (ordP x3 x4) (numP x3).2 (numP x4).2) (x0, x1, a2, x3, x4, a5)) := fun q q' => by
    show symEndD _ _ = _
    unfold symEndD
    exact if_neg (fun h => h.elim (fun h => Bool.noConfusion (q.symm.trans h)) (fun h => Bool.noConfusion (q'.symm.trans h)))
  obtain ⟨R, eR⟩ : ∃ R, symEndD (x0, x1, a2, x3, x4, a5) bh = R := ⟨_, rfl⟩
  rw [eR] at NO YES ⊢
  clear eR h hs
  have R0 := (Rec.new w [.slice q0 x0.length c0, .slice q1 x1.length c1, .int .i64 a2, .slice q3 x3.length c3, .slice q4 x4.length c4, .int .i64 a5] 37).alloc (.cells #[.slice none 0 0, .slice none 0 0, .int .i64 0, .slice none 0 0, .slice none 0 0, .int .i64 0] 37)
  have R1 := Rec.new (w.alloc (.cells #[.slice q0 x0.length c0, .slice q1 x1.length c1, .int .i64 a2, .slice q3 x3.length c3, .slice q4 x4.length c4, .int .i64 a5] 37)) [.slice none 0 0, .slice none 0 0, .int .i64 0, .slice none 0 0, .slice none 0 0, .int .i64 0] 37
  rw [show (w.alloc (.cells #[.slice q0 x0.length c0, .slice q1 x1.length c1, .int .i64 a2, .slice q3 x3.length c3, .slice q4 x4.length c4, .int .i64 a5] 37)).heap.size = w.heap.size + 1 by simp] at R1
  have b0 : Below w.heap.size w ((w.alloc (.cells #[.slice q0 x0.length c0, .slice q1 x1.length c1, .int .i64 a2, .slice q3 x3.length c3, .slice q4 x4.length c4, .int .i64 a5] 37)).alloc (.cells #[.slice none 0 0, .slice none 0 0, .int .i64 0, .slice none 0 0, .slice none 0 0, .int .i64 0] 37)) := ((Below.refl _ _).alloc (Nat.le_refl _) _).alloc (by simp) _
  have RS := hide R0
  have RZ := hide R1
  have BW := hide b0
  have H3 := hide k3
  have H4 := hide k4
  clear R0 R1 b0 k0 k1 k3 k4
  go_enter Try.func11, Try.ntmps11
  go_wp2_with fail
  generalize ((w.alloc (.cells #[.slice q0 x0.length c0, .slice q1 x1.length c1, .int .i64 a2, .slice q3 x3.length c3, .slice q4 x4.length c4, .int .i64 a5] 37)).alloc (.cells #[.slice none 0 0, .slice none 0 0, .int .i64 0, .slice none 0 0, .slice none 0 0, .int .i64 0] 37)) = W0 at RS RZ BW ⊢
  refine (implOkD x3 _ _ (polyK.rb H3.out BW.out)).mono ?_
  rintro e u1 ⟨rfl, hb⟩
  replace RS := hide (RS.out.below hb)
  replace RZ := hide (RZ.out.below hb)
  replace BW := hide (BW.out.trans (hb.mono BW.out.size))
  clear hb
  obtain ⟨bx3, ex3⟩ : ∃ b, okP x3 = b := ⟨_, rfl⟩
  rw [ex3] at NO YES ⊢
  clear ex3
  cases bx3 with
  | false =>
    obtain rfl := NO.out (Or.inl (by trivial))
    clear NO YES
    go_wp2_with (refine laySymSym rfl rfl _ _ rfl (w.heap.size + 1) _ _ _ _ _ _ RZ.out rfl _ _ _ _ _ _ _ _ _ _ _ _ _ _ rfl ?_; intro p1 RB TB; refine Hid.out ?_)
    replace BW := hide (BW.out.trans (TB.out.below (by omega) BW.out.size))
    have FIN := hide (sym_zero p1 (New w p1))
    clear TB
    refine hide ?_
    have y0 := RB.out.cell 0 _ rfl
    have y1 := RB.out.cell 1 _ rfl
    have y2 := RB.out.cell 2 _ rfl
    have y3 := RB.out.cell 3 _ rfl
    have y4 := RB.out.cell 4 _ rfl
    have y5 := RB.out.cell 5 _ rfl
    go_wp2
    exact bodyPost_ret (v := .agg #[.slice none 0 0, .slice none 0 0, .int .i64 0, .slice none 0 0, .slice none 0 0, .int .i64 0]) (by simp [results, Try.results11, go_sem, y0, y1, y2, y3, y4, y5]) rfl ⟨_, rfl, FIN.out, BW.out⟩
  | true =>
  have z0 := RS.out.cell 0 _ rfl
  have z1 := RS.out.cell 1 _ rfl
  have z2 := RS.out.cell 2 _ rfl
  have z3 := RS.out.cell 3 _ rfl
  have z4 := RS.out.cell 4 _ rfl
  have z5 := RS.out.cell 5 _ rfl
  go_wp2_with fail
  refine (implOkD x4 _ _ (polyK.rb H4.out BW.out)).mono ?_
  rintro e u2 ⟨rfl, hb⟩
  clear z0 z1 z2 z3 z4 z5
  replace RS := hide (RS.out.below hb)
  replace RZ := hide (RZ.out.below hb)
  replace BW := hide (BW.out.trans (hb.mono BW.out.size))
  clear hb
  obtain ⟨bx4, ex4⟩ : ∃ b, okP x4 = b := ⟨_, rfl⟩
  rw [ex4] at NO YES ⊢
  clear ex4
  cases bx4 with
  | false =>
    obtain rfl := NO.out (Or.inr (by trivial))
    clear NO YES
    go_wp2_with (refine laySymSym rfl rfl _ _ rfl (w.heap.size + 1) _ _ _ _ _ _ RZ.out rfl _ _ _ _ _ _ _ _ _ _ _ _ _ _ rfl ?_; intro p2 RB TB; refine Hid.out ?_)
    replace BW := hide (BW.out.trans (TB.out.below (by omega) BW.out.size))
    have FIN := hide (sym_zero p2 (New w p2))
    clear TB
    refine hide ?_
    have y0 := RB.out.cell 0 _ rfl
    have y1 := RB.out.cell 1 _ rfl
    have y2 := RB.out.cell 2 _ rfl
    have y3 := RB.out.cell 3 _ rfl
    have y4 := RB.out.cell 4 _ rfl
    have y5 := RB.out.cell 5 _ rfl
    go_wp2
    exact bodyPost_ret (v := .agg #[.slice none 0 0, .slice none 0 0, .int .i64 0, .slice none 0 0, .slice none 0 0, .int .i64 0]) (by simp [results, Try.results11, go_sem, y0, y1, y2, y3, y4, y5]) rfl ⟨_, rfl, FIN.out, BW.out⟩
  | true =>
  have EQ := hide (YES.out (by trivial) (by trivial))
  clear NO YES
  have z0 := RS.out.cell 0 _ rfl
  have z1 := RS.out.cell 1 _ rfl
  have z2 := RS.out.cell 2 _ rfl
  have z3 := RS.out.cell 3 _ rfl
  have z4 := RS.out.cell 4 _ rfl
  have z5 := RS.out.cell 5 _ rfl
  go_wp2_with fail
  have LZ : Hid (w.heap.size + 1 < u2.heap.size) := RZ.out.lt
  refine (copiedSym x0 x1 a2 x3 x4 a5 _ _ (symR.rb HH.out BW.out) SS.out).mono ?_
  rintro e u3 ⟨cs', rfl, OW, hb⟩
  clear z0 z1 z2 z3 z4 z5
  replace RS := hide (RS.out.below hb)
  replace RZ := hide (RZ.out.below hb)
  replace BW := hide (BW.out.trans (hb.mono BW.out.size))
  clear hb
  have OW2 := hide OW
  obtain ⟨m0, d0, m1, d1, m3, d3, m4, d4, A0, A1, A3, A4, rfl, -, -, k3, k4, -⟩ := symR_own OW
  have K3 := hide (polyK.od k3)
  have K4 := hide (polyK.od k4)
  clear k3 k4 OW HH SS H3 H4
  go_wp2_with fail
  refine (plainest m0 x0.length d0 m1 x1.length d1 a2 m3 x3.length d3 m4 x4.length d4 a5 bh x3 x4 _ K3.out K4.out).mono ?_
  rintro e u4 ⟨rfl, hb⟩
  obtain ⟨dd, edd⟩ : ∃ d, endD a2 a5 bh (numP x3).1 (numP x4).1 (ordP x3 x4) (numP x3).2 (numP x4).2 = d := ⟨_, rfl⟩
  rw [edd] at EQ ⊢
  have EQ2 := hide (cellD_ow (symR.ob OW2.out hb) dd)
  have SZ : Hid (u3.heap.size ≤ u4.heap.size) := hb.size
  have FD : ∃ y0 z0 d0' y1 z1 d1' i2 y3 z3 d3' y4 z4 d4' i5, cellD dd m0 x0.length d0 m1 x1.length d1 a2 m3 x3.length d3 m4 x4.length d4 a5 = [.slice y0 z0 d0', .slice y1 z1 d1', .int .i64 i2, .slice y3 z3 d3', .slice y4 z4 d4', .int .i64 i5] := by
    unfold cellD
    split
    · exact ⟨_, _, _, _, _, _, _, _, _, _, _, _, _, _, rfl⟩
    · split
      · exact ⟨_, _, _, _, _, _, _, _, _, _, _, _, _, _, rfl⟩
      · exact ⟨_, _, _, _, _, _, _, _, _, _, _, _, _, _, rfl⟩
  obtain ⟨n0, z0', g0, n1, z1', g1, i2, n3, z3', g3, n4, z4', g4, i5, eD⟩ := FD
  rw [eD] at EQ2 ⊢
  have ER := EQ.out
  subst ER
  clear eD edd EQ OW2 K3 K4
  replace RS := hide (RS.out.below hb)
  replace RZ := hide (RZ.out.below hb)
  replace BW := hide (BW.out.trans (hb.mono BW.out.size))
  clear hb
  go_wp2_with (refine laySymSym rfl rfl _ _ rfl (w.heap.size + 1) _ _ _ _ _ _ RZ.out rfl _ _ _ _ _ _ _ _ _ _ _ _ _ _ rfl ?_; intro p3 RB TB; refine Hid.out ?_)
  replace BW := hide (BW.out.trans (TB.out.below (by omega) BW.out.size))
  have FIN : Hid (symR.ow p3 (New w p3) [.slice n0 z0' g0, .slice n1 z1' g1, .int .i64 i2, .slice n3 z3' g3, .slice n4 z4' g4, .int .i64 i5] (symD dd (x0, x1, a2, x3, x4, a5))) := by
    have hh := symR.ot EQ2.out TB.out (fun q => by have := q.1; have := LZ.out; omega)
    have ts := TB.out.size
    have gs := SZ.out
    exact symR.ov hh (fun b q => ⟨by have := q.1; have := LZ.out; omega, by have := q.2; omega⟩)
  clear TB
  refine hide ?_
  have y0 := RB.out.cell 0 _ rfl
  have y1 := RB.out.cell 1 _ rfl
  have y2 := RB.out.cell 2 _ rfl
  have y3 := RB.out.cell 3 _ rfl
  have y4 := RB.out.cell 4 _ rfl
  have y5 := RB.out.cell 5 _ rfl
  go_wp2
  exact bodyPost_ret (v := .agg #[.slice n0 z0' g0, .slice n1 z1' g1, .int .i64 i2, .slice n3 z3' g3, .slice n4 z4' g4, .int .i64 i5]) (by simp [results, Try.results11, go_sem, y0, y1, y2, y3, y4, y5]) rfl ⟨_, rfl, FIN.out, BW.out⟩
end Go.Proofs.Ytclccaigkcilcaa.Dt
