/-
  The program's copiedSym.
-/
import Derived.Test.YtclccaigkcilcaaSeC
namespace Go.Proofs.Ytclccaigkcilcaa.Dt
set_option linter.unusedVariables false
set_option linter.unusedSimpArgs false
open Go.ChangeShapes Go.WideShapes Go.ChangeAt Go.RowKit IntS Pol Push
set_option maxRecDepth 8000 in
set_option maxHeartbeats 16000000 in
theorem copiedSym (x0 : List Ev5) (x1 : List (List Mono)) (a2 : Int) (x3 x4 : List Mono) (a5 : Int) (cs : List Value) (w : World) (h : symR.rd w cs (x0, x1, a2, x3, x4, a5)) (hs : symR.sz (x0, x1, a2, x3, x4, a5) ≤ 1048576) :
    Calls Try.prog 38 #[.agg cs.toArray] w fun e w' => ∃ cs', e = .returned (.agg cs'.toArray) ∧ symR.ow w' (New w w') cs' (x0, x1, a2, x3, x4, a5) ∧ Below w.heap.size w w' := by
  obtain ⟨q0, c0, q1, c1, q3, c3, q4, c4, rfl, k0, k1, k3, k4⟩ := symR_rd h
  rw [symR_sz] at hs
  have S0 := hide (evs_small (xs := x0) (N := 1048576) (by omega))
  have S1 : Hid (sumsK.sz x1 ≤ 1048576) := show _ ≤ _ by omega
  have S3 : Hid (polyK.sz x3 ≤ 1048576) := show _ ≤ _ by omega
  have S4 : Hid (polyK.sz x4 ≤ 1048576) := show _ ≤ _ by omega
  clear h hs
  have FA : Hid (∀ (i : Nat) x, x0[i]? = some x → ∃ B off cs, q0 = some ⟨B, off, none⟩ ∧ CellsAt w B (off + i * 5) cs ∧ evR.rd w cs x) := fun i x hx => by
    obtain ⟨_, _, B, off, ea, _, _, _, h4⟩ := k0
    obtain ⟨e, q⟩ := h4.resolve_left (fun e => by rw [e] at hx; simp at hx)
    obtain ⟨cs, k1, k2⟩ := q i x hx
    injection ea with e1
    exact ⟨B, off, cs, e1.trans e, k1, k2⟩
  have cp : x0.length ≤ c0 ∧ c0 ≤ maxLen := by
    obtain ⟨_, _, B, off, ea, h1, h2, _⟩ := k0
    injection ea with _ _ e3
    omega
  unfold maxLen at cp
  obtain ⟨cp1, cp2⟩ := cp
  have TK : Hid (∀ (k : Nat) x, x0[k]? = some x → x0.take k ++ [x] = x0.take (k + 1) ∧ (x0.take k).length = k) := fun k x hx => ⟨take_snoc hx, take_length_le (Nat.le_of_lt (List.getElem?_eq_some_iff.1 hx).1)⟩
  have FO : Hid (∀ q2 cap2 wr, OF evR 50 wr (w.heap.size + 1 + 1) q2 cap2 (x0.take x0.length) → evsK.ow wr (fun b => w.heap.size + 1 + 1 ≤ b ∧ b < wr.heap.size) (.slice q2 x0.length cap2) x0) := fun q2 cap2 wr H => by
    rw [List.take_length] at H
    exact H.whole
  have LN : Hid (x0.length ≤ 1048576) := S0.out.1
  obtain ⟨n, en⟩ : ∃ n, x0.length = n := ⟨_, rfl⟩
  have EN := hide en
  rw [en] at cp1 FO LN ⊢
  have R0 := (Rec.new w [.slice q0 n c0, .slice q1 x1.length c1, .int .i64 a2, .slice q3 x3.length c3, .slice q4 x4.length c4, .int .i64 a5] 37).alloc (.cells #[.slice none 0 0, .slice none 0 0, .int .i64 0, .slice none 0 0, .slice none 0 0, .int .i64 0] 37)
  have R1 := Rec.new (w.alloc (.cells #[.slice q0 n c0, .slice q1 x1.length c1, .int .i64 a2, .slice q3 x3.length c3, .slice q4 x4.length c4, .int .i64 a5] 37)) [.slice none 0 0, .slice none 0 0, .int .i64 0, .slice none 0 0, .slice none 0 0, .int .i64 0] 37
  rw [show (w.alloc (.cells #[.slice q0 n c0, .slice q1 x1.length c1, .int .i64 a2, .slice q3 x3.length c3, .slice q4 x4.length c4, .int .i64 a5] 37)).heap.size = w.heap.size + 1 by simp] at R1
  have b0 : Below w.heap.size w ((w.alloc (.cells #[.slice q0 n c0, .slice q1 x1.length c1, .int .i64 a2, .slice q3 x3.length c3, .slice q4 x4.length c4, .int .i64 a5] 37)).alloc (.cells #[.slice none 0 0, .slice none 0 0, .int .i64 0, .slice none 0 0, .slice none 0 0, .int .i64 0] 37)) := ((Below.refl _ _).alloc (Nat.le_refl _) _).alloc (by simp) _
  have RA0 := hide (And.intro R0 R1)
  have BW0 := hide b0
  have H1 := hide k1
  have H3 := hide k3
  have H4 := hide k4
  clear R0 R1 b0 k0 k1 k3 k4 en
  go_enter Try.func38, Try.ntmps38
  go_wp2
  generalize ((w.alloc (.cells #[.slice q0 n c0, .slice q1 x1.length c1, .int .i64 a2, .slice q3 x3.length c3, .slice q4 x4.length c4, .int .i64 a5] 37)).alloc (.cells #[.slice none 0 0, .slice none 0 0, .int .i64 0, .slice none 0 0, .slice none 0 0, .int .i64 0] 37)) = W0 at RA0 BW0 ⊢
  go_loopw [3, 9] (fun rs i wr => ∃ (k cap2 : Nat) (q2 : Option Addr), k ≤ n ∧ i = .int .i64 k ∧ rs = .slice q2 k cap2 ∧ Hid (OF evR 50 wr (w.heap.size + 1 + 1) q2 cap2 (x0.take k)) ∧ Hid (Rec w.heap.size [.slice q0 n c0, .slice q1 x1.length c1, .int .i64 a2, .slice q3 x3.length c3, .slice q4 x4.length c4, .int .i64 a5] wr ∧ Rec (w.heap.size + 1) [.slice none 0 0, .slice none 0 0, .int .i64 0, .slice none 0 0, .slice none 0 0, .int .i64 0] wr) ∧ Hid (Below w.heap.size w wr)) (fun _ i _ => n - (intOf i).toNat)
  case atStart => exact ⟨0, 0, none, by omega, rfl, rfl, OF.nil _ _ _ _, RA0, BW0⟩
  case round =>
    clear RA0 BW0
    obtain ⟨k, cap2, q2, hk, rfl, rfl, OS, RA, BW⟩ := hrel
    by_cases hlt : k < n
    case pos =>
      obtain ⟨⟨f0, f1, f2, f3, f4⟩, et⟩ : ∃ x, x0[k]? = some x := ⟨_, List.getElem?_eq_getElem (by rw [EN.out]; exact hlt)⟩
      obtain ⟨B, off, cs, rfl, cc, hx⟩ := FA.out k _ et
      obtain ⟨r2, s2, r3, s3, r4, s4, rfl, k2, k3, k4⟩ := evR_rd hx
      have d0 : wr.cell? ⟨B, off + k * 5, none⟩ = _ := cell_below BW.out (cc 0 _ rfl)
      have d1 := cell_below BW.out (cc 1 _ rfl)
      have d2 := cell_below BW.out (cc 2 _ rfl)
      have d3 := cell_below BW.out (cc 3 _ rfl)
      have d4 := cell_below BW.out (cc 4 _ rfl)
      have SX := S0.out.2 k _ et
      rw [evR_sz] at SX
      have S2 : Hid (polyK.sz f2 ≤ 1048576) := show _ ≤ _ by omega
      have S5 : Hid (polyK.sz f3 ≤ 1048576) := show _ ≤ _ by omega
      have S6 : Hid (sumsK.sz f4 ≤ 1048576) := show _ ≤ _ by omega
      have TT := hide (TK.out k _ et)
      have lk : ((k : Nat) : Int) < (n : Nat) := by omega
      clear et SX cc hx
      have bA : Below wr.heap.size wr (wr.alloc (.cells #[.int .i64 f0, .int .i64 f1, .slice r2 f2.length s2, .slice r3 f3.length s3, .slice r4 f4.length s4] 50)).drew := ((Below.refl _ _).alloc (Nat.le_refl _) _).drew
      have RE := hide ((Rec.new wr [.int .i64 f0, .int .i64 f1, .slice r2 f2.length s2, .slice r3 f3.length s3, .slice r4 f4.length s4] 50).drew)
      have LE : Hid (w.heap.size + 1 < wr.heap.size) := RA.out.2.lt
      go_wp2_with fail
      have RD := hide (And.intro (RA.out.1.below bA) (RA.out.2.below bA))
      have BD := hide (BW.out.trans (bA.mono BW.out.size))
      have K2 := hide (polyK.rb k2 BD.out)
      have K3 := hide (polyK.rb k3 BD.out)
      have K4 := hide (sumsK.rb k4 BD.out)
      have BC := hide bA
      refine (wpIn_wide (n := 0)).1 ?_
      refine PhaseIn.region (S := Rec wr.heap.size [.int .i64 f0, .int .i64 f1, .slice r2 f2.length s2, .slice r3 f3.length s3, .slice r4 f4.length s4]) 10 (by kernel_rfl) ?_
      generalize (wr.alloc (.cells #[.int .i64 f0, .int .i64 f1, .slice r2 f2.length s2, .slice r3 f3.length s3, .slice r4 f4.length s4] 50)).drew = d9 at RE RD BD K2 K3 K4 BC ⊢
      have hHeld := RE.out
      have ZD : Hid (wr.heap.size < d9.heap.size) := RE.out.lt
      clear bA d0 d1 d2 d3 d4 k2 k3 k4
      refine PhaseIn.takeD (i := 0) (v := ?_) [0, 1, 2, 5, 8, 9, 10, 11, 12, 13, 14] 13 rfl (by rfl) (by kernel_rfl) (by kernel_rfl) (by kernel_rfl) (by kernel_rfl) (by kernel_rfl) (fun _ _ _ h => h) (Or.inl ⟨by kernel_rfl, ?_⟩) hHeld ?_
      rotate_left
      · intro w' hSw
        (try dsimp only at hSw)
        go_simp
        first | done | with_reducible rfl
      try simp only [Act.put, List.setIfInBounds_toArray, List.set]
      refine PhaseIn.takeD (i := 1) (v := ?_) [1, 2, 5, 8, 9, 10, 11, 12, 13, 14] 14 rfl (by rfl) (by kernel_rfl) (by kernel_rfl) (by kernel_rfl) (by kernel_rfl) (by kernel_rfl) (fun _ _ _ h => h) (Or.inl ⟨by kernel_rfl, ?_⟩) hHeld ?_
      rotate_left
      · intro w' hSw
        (try dsimp only at hSw)
        have z0 := hSw.cell 0 _ rfl; have z1 := hSw.cell 1 _ rfl; have z2 := hSw.cell 2 _ rfl; have z3 := hSw.cell 3 _ rfl; have z4 := hSw.cell 4 _ rfl
        go_simp
        first | done | with_reducible rfl
      try simp only [Act.put, List.setIfInBounds_toArray, List.set]
      refine PhaseIn.takeD (i := 3) (v := ?_) [3, 4, 5, 8, 9, 10, 11, 12, 13, 14] 16 rfl (by rfl) (by kernel_rfl) (by kernel_rfl) (by kernel_rfl) (by kernel_rfl) (by kernel_rfl) (fun _ _ _ h => h) (Or.inl ⟨by kernel_rfl, ?_⟩) hHeld ?_
      rotate_left
      · intro w' hSw
        (try dsimp only at hSw)
        go_simp
        first | done | with_reducible rfl
      try simp only [Act.put, List.setIfInBounds_toArray, List.set]
      refine PhaseIn.takeD (i := 4) (v := ?_) [4, 5, 8, 9, 10, 11, 12, 13, 14] 17 rfl (by rfl) (by kernel_rfl) (by kernel_rfl) (by kernel_rfl) (by kernel_rfl) (by kernel_rfl) (fun _ _ _ h => h) (Or.inl ⟨by kernel_rfl, ?_⟩) hHeld ?_
      rotate_left
      · intro w' hSw
        (try dsimp only at hSw)
        have z0 := hSw.cell 0 _ rfl; have z1 := hSw.cell 1 _ rfl; have z2 := hSw.cell 2 _ rfl; have z3 := hSw.cell 3 _ rfl; have z4 := hSw.cell 4 _ rfl
        go_simp
        first | done | with_reducible rfl
      try simp only [Act.put, List.setIfInBounds_toArray, List.set]
      refine PhaseIn.takeD (i := 6) (v := ?_) [6, 7, 8, 9, 10, 11, 12, 13, 14] 19 rfl (by rfl) (by kernel_rfl) (by kernel_rfl) (by kernel_rfl) (by kernel_rfl) (by kernel_rfl) (fun _ _ _ h => h) (Or.inl ⟨by kernel_rfl, ?_⟩) hHeld ?_
      rotate_left
      · intro w' hSw
        (try dsimp only at hSw)
        go_simp
        first | done | with_reducible rfl
      try simp only [Act.put, List.setIfInBounds_toArray, List.set]
      refine PhaseIn.takeD (i := 7) (v := ?_) [7, 8, 9, 10, 11, 12, 13, 14] 20 rfl (by rfl) (by kernel_rfl) (by kernel_rfl) (by kernel_rfl) (by kernel_rfl) (by kernel_rfl) (fun _ _ _ h => h) (Or.inl ⟨by kernel_rfl, ?_⟩) hHeld ?_
      rotate_left
      · intro w' hSw
        (try dsimp only at hSw)
        have z0 := hSw.cell 0 _ rfl; have z1 := hSw.cell 1 _ rfl; have z2 := hSw.cell 2 _ rfl; have z3 := hSw.cell 3 _ rfl; have z4 := hSw.cell 4 _ rfl
        go_simp
        first | done | with_reducible rfl
      try simp only [Act.put, List.setIfInBounds_toArray, List.set]
      refine PhaseIn.one (i := 2) (by kernel_rfl) rfl (by kernel_rfl) (fun K hK => ?_)
      unfold Oper.wpIn
      refine ⟨fun _ _ => trivial, ?_⟩
      go_simp
      refine ⟨rfl, (callsIn_wide.2 (copiedSumD f2 _ _ K2.out S2.out)).mono ?_⟩
      rintro e u3 ⟨ga, ca, rfl, WW, hb⟩
      refine hK _ _ (fun _ => hHeld.below hb) ?_
      replace hHeld := hHeld.below hb
      have W2 := hide WW
      replace RE := hide (RE.out.below hb)
      replace RD := hide (And.intro (RD.out.1.below hb) (RD.out.2.below hb))
      replace BD := hide (BD.out.trans (hb.mono BD.out.size))
      replace BC := hide (BC.out.trans (hb.mono BC.out.size))
      have Zu3 : Hid (_ ≤ u3.heap.size) := hb.size
      replace K3 := hide (polyK.rb K3.out hb)
      replace K4 := hide (sumsK.rb K4.out hb)
      clear hb hK K WW
      try simp only [Act.put, List.setIfInBounds_toArray, List.set]
      refine PhaseIn.takeD (i := 9) (v := ?_) [9, 10, 11, 12, 13, 14] 22 rfl (by rfl) (by kernel_rfl) (by kernel_rfl) (by kernel_rfl) (by kernel_rfl) (by kernel_rfl) (fun _ _ _ h => h) (Or.inl ⟨by kernel_rfl, ?_⟩) hHeld ?_
      rotate_left
      · intro w' hSw
        (try dsimp only at hSw)
        go_simp
        first | done | with_reducible rfl
      try simp only [Act.put, List.setIfInBounds_toArray, List.set]
      refine PhaseIn.one (i := 5) (by kernel_rfl) rfl (by kernel_rfl) (fun K hK => ?_)
      unfold Oper.wpIn
      refine ⟨fun _ _ => trivial, ?_⟩
      go_simp
      refine ⟨rfl, (callsIn_wide.2 (copiedSumD f3 _ _ K3.out S5.out)).mono ?_⟩
      rintro e u4 ⟨gb, cb, rfl, WW, hb⟩
      refine hK _ _ (fun _ => hHeld.below hb) ?_
      replace hHeld := hHeld.below hb
      have W3 := hide WW
      replace RE := hide (RE.out.below hb)
      replace RD := hide (And.intro (RD.out.1.below hb) (RD.out.2.below hb))
      replace BD := hide (BD.out.trans (hb.mono BD.out.size))
      replace BC := hide (BC.out.trans (hb.mono BC.out.size))
      have Zu4 : Hid (_ ≤ u4.heap.size) := hb.size
      replace K4 := hide (sumsK.rb K4.out hb)
      replace W2 := hide (polyK.ob W2.out hb)
      clear hb hK K WW
      try simp only [Act.put, List.setIfInBounds_toArray, List.set]
      refine PhaseIn.one (i := 8) (by kernel_rfl) rfl (by kernel_rfl) (fun K hK => ?_)
      unfold Oper.wpIn
      refine ⟨fun _ _ => trivial, ?_⟩
      go_simp
      refine ⟨rfl, (callsIn_wide.2 (copiedSums f4 _ _ K4.out S6.out)).mono ?_⟩
      rintro e u5 ⟨gc, cc, rfl, WW, hb⟩
      refine hK _ _ (fun _ => hHeld.below hb) ?_
      replace hHeld := hHeld.below hb
      have W4 := hide WW
      replace RE := hide (RE.out.below hb)
      replace RD := hide (And.intro (RD.out.1.below hb) (RD.out.2.below hb))
      replace BD := hide (BD.out.trans (hb.mono BD.out.size))
      replace BC := hide (BC.out.trans (hb.mono BC.out.size))
      have Zu5 : Hid (_ ≤ u5.heap.size) := hb.size
      replace W2 := hide (polyK.ob W2.out hb)
      replace W3 := hide (polyK.ob W3.out hb)
      clear hb hK K WW
      try simp only [Act.put, List.setIfInBounds_toArray, List.set]
      clear hHeld
      have y2 := RE.out.cell 2 _ rfl
      have t2 := RE.out.soft 2
      refine PhaseIn.one (i := 10) (by kernel_rfl) rfl (by kernel_rfl) (fun K hK => ?_)
      unfold Oper.wpIn
      refine ⟨fun _ _ => trivial, ?_⟩
      go_simp
      have tb : Turn wr.heap.size u5 (u5.setCell ⟨wr.heap.size, 2, none⟩ (.slice ga f2.length ca)) := (Turn.refl _ u5).setCell (p := ⟨wr.heap.size, 2, none⟩) rfl _
      have RE2 := hide (RE.out.set 2 (.slice ga f2.length ca) (by simp) (show _ = ([.int .i64 f0, .int .i64 f1, .slice ga f2.length ca, .slice r3 f3.length s3, .slice r4 f4.length s4] : List Value) from rfl))
      replace W2 := hide (polyK.ot W2.out tb (fun q => by have := q.1; have := ZD.out; have := Zu3.out; have := Zu4.out; have := Zu5.out; omega))
      replace W3 := hide (polyK.ot W3.out tb (fun q => by have := q.1; have := ZD.out; have := Zu3.out; have := Zu4.out; have := Zu5.out; omega))
      replace W4 := hide (sumsK.ot W4.out tb (fun q => by have := q.1; have := ZD.out; have := Zu3.out; have := Zu4.out; have := Zu5.out; omega))
      replace RD := hide (And.intro (RD.out.1.turn tb (by have := LE.out; omega)) (RD.out.2.turn tb (by have := LE.out; omega)))
      replace BD := hide (BD.out.trans (tb.below (by have := LE.out; omega) BD.out.size))
      replace BC := hide (BC.out.trans (tb.below (Nat.le_refl _) BC.out.size))
      have ZVv2 : Hid (_ ≤ (u5.setCell ⟨wr.heap.size, 2, none⟩ (.slice ga f2.length ca)).heap.size) := tb.size
      refine hK _ _ (fun h => absurd h (by omega)) ?_
      clear hK K y2 t2 tb RE
      try simp only [Act.put, List.setIfInBounds_toArray, List.set]
      generalize u5.setCell ⟨wr.heap.size, 2, none⟩ (.slice ga f2.length ca) = v2 at RE2 W2 W3 W4 RD BD BC ZVv2 ⊢
      have RE := RE2
      clear RE2
      refine PhaseIn.late (i := 11) (v := ?_) (by kernel_rfl) rfl 23 (by rfl) (by omega) (Or.inl ⟨by kernel_rfl, ?_⟩) ?_
      rotate_left
      · intro w' hSw
        go_simp
        first | done | with_reducible rfl
      try simp only [Act.put, List.setIfInBounds_toArray, List.set]
      have y3 := RE.out.cell 3 _ rfl
      have t3 := RE.out.soft 3
      refine PhaseIn.one (i := 12) (by kernel_rfl) rfl (by kernel_rfl) (fun K hK => ?_)
      unfold Oper.wpIn
      refine ⟨fun _ _ => trivial, ?_⟩
      go_simp
      have tb : Turn wr.heap.size v2 (v2.setCell ⟨wr.heap.size, 3, none⟩ (.slice gb f3.length cb)) := (Turn.refl _ v2).setCell (p := ⟨wr.heap.size, 3, none⟩) rfl _
      have RE2 := hide (RE.out.set 3 (.slice gb f3.length cb) (by simp) (show _ = ([.int .i64 f0, .int .i64 f1, .slice ga f2.length ca, .slice gb f3.length cb, .slice r4 f4.length s4] : List Value) from rfl))
      replace W2 := hide (polyK.ot W2.out tb (fun q => by have := q.1; have := ZD.out; have := Zu3.out; have := Zu4.out; have := Zu5.out; omega))
      replace W3 := hide (polyK.ot W3.out tb (fun q => by have := q.1; have := ZD.out; have := Zu3.out; have := Zu4.out; have := Zu5.out; omega))
      replace W4 := hide (sumsK.ot W4.out tb (fun q => by have := q.1; have := ZD.out; have := Zu3.out; have := Zu4.out; have := Zu5.out; omega))
      replace RD := hide (And.intro (RD.out.1.turn tb (by have := LE.out; omega)) (RD.out.2.turn tb (by have := LE.out; omega)))
      replace BD := hide (BD.out.trans (tb.below (by have := LE.out; omega) BD.out.size))
      replace BC := hide (BC.out.trans (tb.below (Nat.le_refl _) BC.out.size))
      have ZVv3 : Hid (_ ≤ (v2.setCell ⟨wr.heap.size, 3, none⟩ (.slice gb f3.length cb)).heap.size) := tb.size
      refine hK _ _ (fun h => absurd h (by omega)) ?_
      clear hK K y3 t3 tb RE
      try simp only [Act.put, List.setIfInBounds_toArray, List.set]
      generalize v2.setCell ⟨wr.heap.size, 3, none⟩ (.slice gb f3.length cb) = v3 at RE2 W2 W3 W4 RD BD BC ZVv3 ⊢
      have RE := RE2
      clear RE2
      refine PhaseIn.late (i := 13) (v := ?_) (by kernel_rfl) rfl 24 (by rfl) (by omega) (Or.inl ⟨by kernel_rfl, ?_⟩) ?_
      rotate_left
      · intro w' hSw
        go_simp
        first | done | with_reducible rfl
      try simp only [Act.put, List.setIfInBounds_toArray, List.set]
      have y4 := RE.out.cell 4 _ rfl
      have t4 := RE.out.soft 4
      refine PhaseIn.one (i := 14) (by kernel_rfl) rfl (by kernel_rfl) (fun K hK => ?_)
      unfold Oper.wpIn
      refine ⟨fun _ _ => trivial, ?_⟩
      go_simp
      have tb : Turn wr.heap.size v3 (v3.setCell ⟨wr.heap.size, 4, none⟩ (.slice gc f4.length cc)) := (Turn.refl _ v3).setCell (p := ⟨wr.heap.size, 4, none⟩) rfl _
      have RE2 := hide (RE.out.set 4 (.slice gc f4.length cc) (by simp) (show _ = ([.int .i64 f0, .int .i64 f1, .slice ga f2.length ca, .slice gb f3.length cb, .slice gc f4.length cc] : List Value) from rfl))
      replace W2 := hide (polyK.ot W2.out tb (fun q => by have := q.1; have := ZD.out; have := Zu3.out; have := Zu4.out; have := Zu5.out; omega))
      replace W3 := hide (polyK.ot W3.out tb (fun q => by have := q.1; have := ZD.out; have := Zu3.out; have := Zu4.out; have := Zu5.out; omega))
      replace W4 := hide (sumsK.ot W4.out tb (fun q => by have := q.1; have := ZD.out; have := Zu3.out; have := Zu4.out; have := Zu5.out; omega))
      replace RD := hide (And.intro (RD.out.1.turn tb (by have := LE.out; omega)) (RD.out.2.turn tb (by have := LE.out; omega)))
      replace BD := hide (BD.out.trans (tb.below (by have := LE.out; omega) BD.out.size))
      replace BC := hide (BC.out.trans (tb.below (Nat.le_refl _) BC.out.size))
      have ZVv4 : Hid (_ ≤ (v3.setCell ⟨wr.heap.size, 4, none⟩ (.slice gc f4.length cc)).heap.size) := tb.size
      refine hK _ _ (fun h => absurd h (by omega)) ?_
      clear hK K y4 t4 tb RE
      try simp only [Act.put, List.setIfInBounds_toArray, List.set]
      generalize v3.setCell ⟨wr.heap.size, 4, none⟩ (.slice gc f4.length cc) = v4 at RE2 W2 W3 W4 RD BD BC ZVv4 ⊢
      have RE := RE2
      clear RE2
      refine PhaseIn.done (by kernel_rfl) ?_ _
      have bo : Below v4.heap.size v4 (v4.alloc (.cells #[.int .i64 f0, .int .i64 f1, .slice ga f2.length ca, .slice gb f3.length cb, .slice gc f4.length cc] 50)) := (Below.refl _ _).alloc (Nat.le_refl _) _
      have NR := hide (Rec.new v4 [.int .i64 f0, .int .i64 f1, .slice ga f2.length ca, .slice gb f3.length cb, .slice gc f4.length cc] 50)
      have e0 := RE.out.cell 0 _ rfl
      have e1 := RE.out.cell 1 _ rfl
      have e2 := RE.out.cell 2 _ rfl
      have e3 := RE.out.cell 3 _ rfl
      have e4 := RE.out.cell 4 _ rfl
      replace RD := hide (And.intro (RD.out.1.below bo) (RD.out.2.below bo))
      replace BD := hide (BD.out.trans (bo.mono BD.out.size))
      replace BC := hide (BC.out.trans (bo.mono BC.out.size))
      have sz : d9.heap.size ≤ u3.heap.size ∧ u3.heap.size ≤ u4.heap.size ∧ u4.heap.size ≤ u5.heap.size ∧ u5.heap.size ≤ v2.heap.size ∧ v2.heap.size ≤ v3.heap.size ∧ v3.heap.size ≤ v4.heap.size ∧ v4.heap.size ≤ (v4.alloc (.cells #[.int .i64 f0, .int .i64 f1, .slice ga f2.length ca, .slice gb f3.length cb, .slice gc f4.length cc] 50)).heap.size := ⟨Zu3.out, Zu4.out, Zu5.out, ZVv2.out, ZVv3.out, ZVv4.out, bo.size⟩
      have zd := ZD.out
      have sA := LE.out
      have EVO : evR.ow (v4.alloc (.cells #[.int .i64 f0, .int .i64 f1, .slice ga f2.length ca, .slice gb f3.length cb, .slice gc f4.length cc] 50)) (New wr (v4.alloc (.cells #[.int .i64 f0, .int .i64 f1, .slice ga f2.length ca, .slice gb f3.length cb, .slice gc f4.length cc] 50))) [.int .i64 f0, .int .i64 f1, .slice ga f2.length ca, .slice gb f3.length cb, .slice gc f4.length cc] (f0, f1, f2, f3, f4) := evR_omk (polyK.ob W2.out bo) (polyK.ob W3.out bo) (sumsK.ob W4.out bo) (fun b h => ⟨by have := h.1; omega, by have := h.2; omega⟩) (fun b h => ⟨by have := h.1; omega, by have := h.2; omega⟩) (fun b h => ⟨by have := h.1; omega, by have := h.2; omega⟩) (fun b h h' => by have := h.2; have := h'.1; omega) (fun b h h' => by have := h.2; have := h'.1; omega) (fun b h h' => by have := h.2; have := h'.1; omega)
      obtain ⟨ti, hi, hz, hsz, hby⟩ := infoEvD
      obtain ⟨g2, cp9, u6, hrun, O2, BL, -, KP⟩ := OS.out.push (P := Try.prog) BC.out EVO 31 31 Try.underlying31 hi hz hsz hby rfl (by decide) (by omega) ⟨v4.heap.size, 0, none⟩ (fun j v hv => by
        rw [Addr.add_lit, Nat.zero_add]
        exact NR.out.cell j v hv) (fun v hv => by simp at hv; rcases hv with rfl | rfl | rfl | rfl | rfl <;> rfl) (by have := LN.out; rw [TT.out.2]; omega) (by omega)
      rw [TT.out.2] at hrun
      rw [TT.out.1] at O2
      have O3 := hide O2
      have qlow (Z : Nat) (hZ : Z < w.heap.size + 1 + 1) : ¬ q2 = some ⟨Z, 0, none⟩ := fun e => by
        rcases OS.out.form with e1 | ⟨G, e1, e2⟩
        · rw [e1] at e; cases e
        · rw [e1] at e
          injection e with e3
          injection e3 with e4
          omega
      replace RD := hide (And.intro (RD.out.1.keep KP (qlow _ (by omega))) (RD.out.2.keep KP (qlow _ (by omega))))
      replace BD := hide (BD.out.trans (BL.mono (by omega)))
      clear KP BL O2 EVO bo NR W2 W3 W4 hi hz hsz hby sz zd qlow Zu3 Zu4 Zu5 ZVv2 ZVv3 ZVv4 BC RE OS RA BW
      go_wp2_with (at_builtin; refine Flat.push_list rfl _ _ rfl rfl rfl hrun ?_)
      exact ⟨⟨k + 1, cp9, some ⟨g2, 0, none⟩, by omega, by go_num, rfl, O3, RD, BD⟩, by simp [intOf]; omega⟩
    obtain rfl : k = n := by omega
    have W0 := hide (FO.out _ _ _ OS.out)
    have ZD : Hid (w.heap.size + 1 < wr.heap.size) := RA.out.2.lt
    clear OS FO FA TK LN S0
    have bA : Below wr.heap.size wr wr.drew := (Below.refl _ _).drew
    go_wp2_with fail
    have RE := hide (RA.out.1.below bA)
    have RZ := hide (RA.out.2.below bA)
    replace BW := hide (BW.out.trans (bA.mono BW.out.size))
    replace W0 := hide (evsK.ob W0.out bA)
    have DS : Hid (wr.heap.size ≤ wr.drew.heap.size) := bA.size
    refine (wpIn_wide (n := 0)).1 ?_
    refine PhaseIn.region (S := Rec w.heap.size [.slice q0 k c0, .slice q1 x1.length c1, .int .i64 a2, .slice q3 x3.length c3, .slice q4 x4.length c4, .int .i64 a5]) 11 (by kernel_rfl) ?_
    generalize wr.drew = d9 at RE RZ BW W0 DS ⊢
    have hHeld := RE.out
    clear bA RA
    refine PhaseIn.takeD (i := 0) (v := ?_) [0, 10, 11, 12, 13, 14, 15, 16, 17] 30 rfl (by rfl) (by kernel_rfl) (by kernel_rfl) (by kernel_rfl) (by kernel_rfl) (by kernel_rfl) (fun _ _ _ h => h) (Or.inl ⟨by kernel_rfl, ?_⟩) hHeld ?_
    rotate_left
    · intro w' hSw
      (try dsimp only at hSw)
      go_simp
      first | done | with_reducible rfl
    try simp only [Act.put, List.setIfInBounds_toArray, List.set]
    refine PhaseIn.takeD (i := 1) (v := ?_) [1, 2, 3, 6, 9, 10, 11, 12, 13, 14, 15, 16, 17] 31 rfl (by rfl) (by kernel_rfl) (by kernel_rfl) (by kernel_rfl) (by kernel_rfl) (by kernel_rfl) (fun _ _ _ h => h) (Or.inl ⟨by kernel_rfl, ?_⟩) hHeld ?_
    rotate_left
    · intro w' hSw
      (try dsimp only at hSw)
      go_simp
      first | done | with_reducible rfl
    try simp only [Act.put, List.setIfInBounds_toArray, List.set]
    refine PhaseIn.takeD (i := 2) (v := ?_) [2, 3, 6, 9, 10, 11, 12, 13, 14, 15, 16, 17] 32 rfl (by rfl) (by kernel_rfl) (by kernel_rfl) (by kernel_rfl) (by kernel_rfl) (by kernel_rfl) (fun _ _ _ h => h) (Or.inl ⟨by kernel_rfl, ?_⟩) hHeld ?_
    rotate_left
    · intro w' hSw
      (try dsimp only at hSw)
      have z0 := hSw.cell 0 _ rfl; have z1 := hSw.cell 1 _ rfl; have z2 := hSw.cell 2 _ rfl; have z3 := hSw.cell 3 _ rfl; have z4 := hSw.cell 4 _ rfl; have z5 := hSw.cell 5 _ rfl
      go_simp
      first | done | with_reducible rfl
    try simp only [Act.put, List.setIfInBounds_toArray, List.set]
    refine PhaseIn.takeD (i := 4) (v := ?_) [4, 5, 6, 9, 10, 11, 12, 13, 14, 15, 16, 17] 34 rfl (by rfl) (by kernel_rfl) (by kernel_rfl) (by kernel_rfl) (by kernel_rfl) (by kernel_rfl) (fun _ _ _ h => h) (Or.inl ⟨by kernel_rfl, ?_⟩) hHeld ?_
    rotate_left
    · intro w' hSw
      (try dsimp only at hSw)
      go_simp
      first | done | with_reducible rfl
    try simp only [Act.put, List.setIfInBounds_toArray, List.set]
    refine PhaseIn.takeD (i := 5) (v := ?_) [5, 6, 9, 10, 11, 12, 13, 14, 15, 16, 17] 35 rfl (by rfl) (by kernel_rfl) (by kernel_rfl) (by kernel_rfl) (by kernel_rfl) (by kernel_rfl) (fun _ _ _ h => h) (Or.inl ⟨by kernel_rfl, ?_⟩) hHeld ?_
    rotate_left
    · intro w' hSw
      (try dsimp only at hSw)
      have z0 := hSw.cell 0 _ rfl; have z1 := hSw.cell 1 _ rfl; have z2 := hSw.cell 2 _ rfl; have z3 := hSw.cell 3 _ rfl; have z4 := hSw.cell 4 _ rfl; have z5 := hSw.cell 5 _ rfl
      go_simp
      first | done | with_reducible rfl
    try simp only [Act.put, List.setIfInBounds_toArray, List.set]
    refine PhaseIn.takeD (i := 7) (v := ?_) [7, 8, 9, 10, 11, 12, 13, 14, 15, 16, 17] 37 rfl (by rfl) (by kernel_rfl) (by kernel_rfl) (by kernel_rfl) (by kernel_rfl) (by kernel_rfl) (fun _ _ _ h => h) (Or.inl ⟨by kernel_rfl, ?_⟩) hHeld ?_
    rotate_left
    · intro w' hSw
      (try dsimp only at hSw)
      go_simp
      first | done | with_reducible rfl
    try simp only [Act.put, List.setIfInBounds_toArray, List.set]
    refine PhaseIn.takeD (i := 8) (v := ?_) [8, 9, 10, 11, 12, 13, 14, 15, 16, 17] 38 rfl (by rfl) (by kernel_rfl) (by kernel_rfl) (by kernel_rfl) (by kernel_rfl) (by kernel_rfl) (fun _ _ _ h => h) (Or.inl ⟨by kernel_rfl, ?_⟩) hHeld ?_
    rotate_left
    · intro w' hSw
      (try dsimp only at hSw)
      have z0 := hSw.cell 0 _ rfl; have z1 := hSw.cell 1 _ rfl; have z2 := hSw.cell 2 _ rfl; have z3 := hSw.cell 3 _ rfl; have z4 := hSw.cell 4 _ rfl; have z5 := hSw.cell 5 _ rfl
      go_simp
      first | done | with_reducible rfl
    try simp only [Act.put, List.setIfInBounds_toArray, List.set]
    refine PhaseIn.takeD (i := 10) (v := ?_) [10, 11, 12, 13, 14, 15, 16, 17] 40 rfl (by rfl) (by kernel_rfl) (by kernel_rfl) (by kernel_rfl) (by kernel_rfl) (by kernel_rfl) (fun _ _ _ h => h) (Or.inl ⟨by kernel_rfl, ?_⟩) hHeld ?_
    rotate_left
    · intro w' hSw
      (try dsimp only at hSw)
      go_simp
      first | done | with_reducible rfl
    try simp only [Act.put, List.setIfInBounds_toArray, List.set]
    refine PhaseIn.one (i := 3) (by kernel_rfl) rfl (by kernel_rfl) (fun K hK => ?_)
    unfold Oper.wpIn
    refine ⟨fun _ _ => trivial, ?_⟩
    go_simp
    refine ⟨rfl, (callsIn_wide.2 (copiedSums x1 _ _ (sumsK.rb H1.out BW.out) S1.out)).mono ?_⟩
    rintro e u3 ⟨ga, ca, rfl, WW, hb⟩
    refine hK _ _ (fun _ => hHeld.below hb) ?_
    replace hHeld := hHeld.below hb
    have W1 := hide WW
    replace RE := hide (RE.out.below hb)
    replace RZ := hide (RZ.out.below hb)
    replace BW := hide (BW.out.trans (hb.mono BW.out.size))
    have Zu3 : Hid (d9.heap.size ≤ u3.heap.size) := hb.size
    replace W0 := hide (evsK.ob W0.out hb)
    clear hb hK K WW
    try simp only [Act.put, List.setIfInBounds_toArray, List.set]
    refine PhaseIn.one (i := 6) (by kernel_rfl) rfl (by kernel_rfl) (fun K hK => ?_)
    unfold Oper.wpIn
    refine ⟨fun _ _ => trivial, ?_⟩
    go_simp
    refine ⟨rfl, (callsIn_wide.2 (copiedSumD x3 _ _ (polyK.rb H3.out BW.out) S3.out)).mono ?_⟩
    rintro e u4 ⟨gb, cb, rfl, WW, hb⟩
    refine hK _ _ (fun _ => hHeld.below hb) ?_
    replace hHeld := hHeld.below hb
    have W3 := hide WW
    replace RE := hide (RE.out.below hb)
    replace RZ := hide (RZ.out.below hb)
    replace BW := hide (BW.out.trans (hb.mono BW.out.size))
    have Zu4 : Hid (u3.heap.size ≤ u4.heap.size) := hb.size
    replace W0 := hide (evsK.ob W0.out hb)
    replace W1 := hide (sumsK.ob W1.out hb)
    clear hb hK K WW
    try simp only [Act.put, List.setIfInBounds_toArray, List.set]
    refine PhaseIn.one (i := 9) (by kernel_rfl) rfl (by kernel_rfl) (fun K hK => ?_)
    unfold Oper.wpIn
    refine ⟨fun _ _ => trivial, ?_⟩
    go_simp
    refine ⟨rfl, (callsIn_wide.2 (copiedSumD x4 _ _ (polyK.rb H4.out BW.out) S4.out)).mono ?_⟩
    rintro e u5 ⟨gc, cc, rfl, WW, hb⟩
    refine hK _ _ (fun _ => hHeld.below hb) ?_
    replace hHeld := hHeld.below hb
    have W4 := hide WW
    replace RE := hide (RE.out.below hb)
    replace RZ := hide (RZ.out.below hb)
    replace BW := hide (BW.out.trans (hb.mono BW.out.size))
    have Zu5 : Hid (u4.heap.size ≤ u5.heap.size) := hb.size
    replace W0 := hide (evsK.ob W0.out hb)
    replace W1 := hide (sumsK.ob W1.out hb)
    replace W3 := hide (polyK.ob W3.out hb)
    clear hb hK K WW
    try simp only [Act.put, List.setIfInBounds_toArray, List.set]
    clear hHeld
    have y0 := RE.out.cell 0 _ rfl
    have t0 := RE.out.soft 0
    refine PhaseIn.one (i := 11) (by kernel_rfl) rfl (by kernel_rfl) (fun K hK => ?_)
    unfold Oper.wpIn
    refine ⟨fun _ _ => trivial, ?_⟩
    go_simp
    have tb : Turn w.heap.size u5 (u5.setCell ⟨w.heap.size, 0, none⟩ (.slice q2 k cap2)) := (Turn.refl _ u5).setCell (p := ⟨w.heap.size, 0, none⟩) rfl _
    have RE2 := hide (RE.out.set 0 (.slice q2 k cap2) (by simp) (show _ = ([.slice q2 k cap2, .slice q1 x1.length c1, .int .i64 a2, .slice q3 x3.length c3, .slice q4 x4.length c4, .int .i64 a5] : List Value) from rfl))
    replace W0 := hide (evsK.ot W0.out tb (fun q => by have := q.1; have := ZD.out; have := DS.out; have := Zu3.out; have := Zu4.out; have := Zu5.out; omega))
    replace W1 := hide (sumsK.ot W1.out tb (fun q => by have := q.1; have := ZD.out; have := DS.out; have := Zu3.out; have := Zu4.out; have := Zu5.out; omega))
    replace W3 := hide (polyK.ot W3.out tb (fun q => by have := q.1; have := ZD.out; have := DS.out; have := Zu3.out; have := Zu4.out; have := Zu5.out; omega))
    replace W4 := hide (polyK.ot W4.out tb (fun q => by have := q.1; have := ZD.out; have := DS.out; have := Zu3.out; have := Zu4.out; have := Zu5.out; omega))
    replace RZ := hide (RZ.out.turn tb (by omega))
    replace BW := hide (BW.out.trans (tb.below (Nat.le_refl _) BW.out.size))
    have ZVv0 : Hid (u5.heap.size ≤ (u5.setCell ⟨w.heap.size, 0, none⟩ (.slice q2 k cap2)).heap.size) := tb.size
    refine hK _ _ (fun h => absurd h (by omega)) ?_
    clear hK K y0 t0 tb RE
    try simp only [Act.put, List.setIfInBounds_toArray, List.set]
    generalize u5.setCell ⟨w.heap.size, 0, none⟩ (.slice q2 k cap2) = v0 at RE2 W0 W1 W3 W4 RZ BW ZVv0 ⊢
    have RE := RE2
    clear RE2
    refine PhaseIn.late (i := 12) (v := ?_) (by kernel_rfl) rfl 41 (by rfl) (by omega) (Or.inl ⟨by kernel_rfl, ?_⟩) ?_
    rotate_left
    · intro w' hSw
      go_simp
      first | done | with_reducible rfl
    try simp only [Act.put, List.setIfInBounds_toArray, List.set]
    have y1 := RE.out.cell 1 _ rfl
    have t1 := RE.out.soft 1
    refine PhaseIn.one (i := 13) (by kernel_rfl) rfl (by kernel_rfl) (fun K hK => ?_)
    unfold Oper.wpIn
    refine ⟨fun _ _ => trivial, ?_⟩
    go_simp
    have tb : Turn w.heap.size v0 (v0.setCell ⟨w.heap.size, 1, none⟩ (.slice ga x1.length ca)) := (Turn.refl _ v0).setCell (p := ⟨w.heap.size, 1, none⟩) rfl _
    have RE2 := hide (RE.out.set 1 (.slice ga x1.length ca) (by simp) (show _ = ([.slice q2 k cap2, .slice ga x1.length ca, .int .i64 a2, .slice q3 x3.length c3, .slice q4 x4.length c4, .int .i64 a5] : List Value) from rfl))
    replace W0 := hide (evsK.ot W0.out tb (fun q => by have := q.1; have := ZD.out; have := DS.out; have := Zu3.out; have := Zu4.out; have := Zu5.out; omega))
    replace W1 := hide (sumsK.ot W1.out tb (fun q => by have := q.1; have := ZD.out; have := DS.out; have := Zu3.out; have := Zu4.out; have := Zu5.out; omega))
    replace W3 := hide (polyK.ot W3.out tb (fun q => by have := q.1; have := ZD.out; have := DS.out; have := Zu3.out; have := Zu4.out; have := Zu5.out; omega))
    replace W4 := hide (polyK.ot W4.out tb (fun q => by have := q.1; have := ZD.out; have := DS.out; have := Zu3.out; have := Zu4.out; have := Zu5.out; omega))
    replace RZ := hide (RZ.out.turn tb (by omega))
    replace BW := hide (BW.out.trans (tb.below (Nat.le_refl _) BW.out.size))
    have ZVv1 : Hid (v0.heap.size ≤ (v0.setCell ⟨w.heap.size, 1, none⟩ (.slice ga x1.length ca)).heap.size) := tb.size
    refine hK _ _ (fun h => absurd h (by omega)) ?_
    clear hK K y1 t1 tb RE
    try simp only [Act.put, List.setIfInBounds_toArray, List.set]
    generalize v0.setCell ⟨w.heap.size, 1, none⟩ (.slice ga x1.length ca) = v1 at RE2 W0 W1 W3 W4 RZ BW ZVv1 ⊢
    have RE := RE2
    clear RE2
    refine PhaseIn.late (i := 14) (v := ?_) (by kernel_rfl) rfl 42 (by rfl) (by omega) (Or.inl ⟨by kernel_rfl, ?_⟩) ?_
    rotate_left
    · intro w' hSw
      go_simp
      first | done | with_reducible rfl
    try simp only [Act.put, List.setIfInBounds_toArray, List.set]
    have y3 := RE.out.cell 3 _ rfl
    have t3 := RE.out.soft 3
    refine PhaseIn.one (i := 15) (by kernel_rfl) rfl (by kernel_rfl) (fun K hK => ?_)
    unfold Oper.wpIn
    refine ⟨fun _ _ => trivial, ?_⟩
    go_simp
    have tb : Turn w.heap.size v1 (v1.setCell ⟨w.heap.size, 3, none⟩ (.slice gb x3.length cb)) := (Turn.refl _ v1).setCell (p := ⟨w.heap.size, 3, none⟩) rfl _
    have RE2 := hide (RE.out.set 3 (.slice gb x3.length cb) (by simp) (show _ = ([.slice q2 k cap2, .slice ga x1.length ca, .int .i64 a2, .slice gb x3.length cb, .slice q4 x4.length c4, .int .i64 a5] : List Value) from rfl))
    replace W0 := hide (evsK.ot W0.out tb (fun q => by have := q.1; have := ZD.out; have := DS.out; have := Zu3.out; have := Zu4.out; have := Zu5.out; omega))
    replace W1 := hide (sumsK.ot W1.out tb (fun q => by have := q.1; have := ZD.out; have := DS.out; have := Zu3.out; have := Zu4.out; have := Zu5.out; omega))
    replace W3 := hide (polyK.ot W3.out tb (fun q => by have := q.1; have := ZD.out; have := DS.out; have := Zu3.out; have := Zu4.out; have := Zu5.out; omega))
    replace W4 := hide (polyK.ot W4.out tb (fun q => by have := q.1; have := ZD.out; have := DS.out; have := Zu3.out; have := Zu4.out; have := Zu5.out; omega))
    replace RZ := hide (RZ.out.turn tb (by omega))
    replace BW := hide (BW.out.trans (tb.below (Nat.le_refl _) BW.out.size))
    have ZVv3 : Hid (v1.heap.size ≤ (v1.setCell ⟨w.heap.size, 3, none⟩ (.slice gb x3.length cb)).heap.size) := tb.size
    refine hK _ _ (fun h => absurd h (by omega)) ?_
    clear hK K y3 t3 tb RE
    try simp only [Act.put, List.setIfInBounds_toArray, List.set]
    generalize v1.setCell ⟨w.heap.size, 3, none⟩ (.slice gb x3.length cb) = v3 at RE2 W0 W1 W3 W4 RZ BW ZVv3 ⊢
    have RE := RE2
    clear RE2
    refine PhaseIn.late (i := 16) (v := ?_) (by kernel_rfl) rfl 43 (by rfl) (by omega) (Or.inl ⟨by kernel_rfl, ?_⟩) ?_
    rotate_left
    · intro w' hSw
      go_simp
      first | done | with_reducible rfl
    try simp only [Act.put, List.setIfInBounds_toArray, List.set]
    have y4 := RE.out.cell 4 _ rfl
    have t4 := RE.out.soft 4
    refine PhaseIn.one (i := 17) (by kernel_rfl) rfl (by kernel_rfl) (fun K hK => ?_)
    unfold Oper.wpIn
    refine ⟨fun _ _ => trivial, ?_⟩
    go_simp
    have tb : Turn w.heap.size v3 (v3.setCell ⟨w.heap.size, 4, none⟩ (.slice gc x4.length cc)) := (Turn.refl _ v3).setCell (p := ⟨w.heap.size, 4, none⟩) rfl _
    have RE2 := hide (RE.out.set 4 (.slice gc x4.length cc) (by simp) (show _ = ([.slice q2 k cap2, .slice ga x1.length ca, .int .i64 a2, .slice gb x3.length cb, .slice gc x4.length cc, .int .i64 a5] : List Value) from rfl))
    replace W0 := hide (evsK.ot W0.out tb (fun q => by have := q.1; have := ZD.out; have := DS.out; have := Zu3.out; have := Zu4.out; have := Zu5.out; omega))
    replace W1 := hide (sumsK.ot W1.out tb (fun q => by have := q.1; have := ZD.out; have := DS.out; have := Zu3.out; have := Zu4.out; have := Zu5.out; omega))
    replace W3 := hide (polyK.ot W3.out tb (fun q => by have := q.1; have := ZD.out; have := DS.out; have := Zu3.out; have := Zu4.out; have := Zu5.out; omega))
    replace W4 := hide (polyK.ot W4.out tb (fun q => by have := q.1; have := ZD.out; have := DS.out; have := Zu3.out; have := Zu4.out; have := Zu5.out; omega))
    replace RZ := hide (RZ.out.turn tb (by omega))
    replace BW := hide (BW.out.trans (tb.below (Nat.le_refl _) BW.out.size))
    have ZVv4 : Hid (v3.heap.size ≤ (v3.setCell ⟨w.heap.size, 4, none⟩ (.slice gc x4.length cc)).heap.size) := tb.size
    refine hK _ _ (fun h => absurd h (by omega)) ?_
    clear hK K y4 t4 tb RE
    try simp only [Act.put, List.setIfInBounds_toArray, List.set]
    generalize v3.setCell ⟨w.heap.size, 4, none⟩ (.slice gc x4.length cc) = v4 at RE2 W0 W1 W3 W4 RZ BW ZVv4 ⊢
    have RE := RE2
    clear RE2
    refine PhaseIn.done (by kernel_rfl) ?_ _
    have sz : w.heap.size + 1 < wr.heap.size ∧ wr.heap.size ≤ d9.heap.size ∧ d9.heap.size ≤ u3.heap.size ∧ u3.heap.size ≤ u4.heap.size ∧ u4.heap.size ≤ u5.heap.size ∧ u5.heap.size ≤ v0.heap.size ∧ v0.heap.size ≤ v1.heap.size ∧ v1.heap.size ≤ v3.heap.size ∧ v3.heap.size ≤ v4.heap.size := ⟨ZD.out, DS.out, Zu3.out, Zu4.out, Zu5.out, ZVv0.out, ZVv1.out, ZVv3.out, ZVv4.out⟩
    have EN2 := EN.out
    subst EN2
    have OWN : Hid (symR.ow v4 (fun b => w.heap.size + 1 < b ∧ b < v4.heap.size) [.slice q2 x0.length cap2, .slice ga x1.length ca, .int .i64 a2, .slice gb x3.length cb, .slice gc x4.length cc, .int .i64 a5] (x0, x1, a2, x3, x4, a5)) := symR_omk W0.out W1.out W3.out W4.out (fun b h => ⟨by have := h.1; omega, by have := h.2; omega⟩) (fun b h => ⟨by have := h.1; omega, by have := h.2; omega⟩) (fun b h => ⟨by have := h.1; omega, by have := h.2; omega⟩) (fun b h => ⟨by have := h.1; omega, by have := h.2; omega⟩) (fun b h h' => by have := h.2; have := h'.1; omega) (fun b h h' => by have := h.2; have := h'.1; omega) (fun b h h' => by have := h.2; have := h'.1; omega) (fun b h h' => by have := h.2; have := h'.1; omega) (fun b h h' => by have := h.2; have := h'.1; omega) (fun b h h' => by have := h.2; have := h'.1; omega)
    clear W0 W1 W3 W4 sz ZVv0 ZVv1 ZVv3 ZVv4 Zu3 Zu4 Zu5 DS ZD H1 H3 H4 S1 S3 S4 EN
    have e0 := RE.out.cell 0 _ rfl
    have e1 := RE.out.cell 1 _ rfl
    have e2 := RE.out.cell 2 _ rfl
    have e3 := RE.out.cell 3 _ rfl
    have e4 := RE.out.cell 4 _ rfl
    have e5 := RE.out.cell 5 _ rfl
    go_wp2_with (refine laySymSym rfl rfl _ _ rfl (w.heap.size + 1) _ _ _ _ _ _ RZ.out rfl _ _ _ _ _ _ _ _ _ _ _ _ _ _ rfl ?_; intro p1 RB TB; refine Hid.out ?_)
    replace BW := hide (BW.out.trans (TB.out.below (by omega) BW.out.size))
    have FIN : Hid (symR.ow p1 (New w p1) [.slice q2 x0.length cap2, .slice ga x1.length ca, .int .i64 a2, .slice gb x3.length cb, .slice gc x4.length cc, .int .i64 a5] (x0, x1, a2, x3, x4, a5)) := by
      have hh := symR.ot OWN.out TB.out (fun q => by have := q.1; omega)
      have ts := TB.out.size
      exact symR.ov hh (fun b q => ⟨by have := q.1; omega, by have := q.2; omega⟩)
    clear TB OWN RE
    refine hide ?_
    clear e0 e1 e2 e3 e4 e5
    have y0 := RB.out.cell 0 _ rfl
    have y1 := RB.out.cell 1 _ rfl
    have y2 := RB.out.cell 2 _ rfl
    have y3 := RB.out.cell 3 _ rfl
    have y4 := RB.out.cell 4 _ rfl
    have y5 := RB.out.cell 5 _ rfl
    go_wp2
    exact bodyPost_ret (v := .agg #[.slice q2 x0.length cap2, .slice ga x1.length ca, .int .i64 a2, .slice gb x3.length cb, .slice gc x4.length cc, .int .i64 a5]) (by simp [results, Try.results38, go_sem, y0, y1, y2, y3, y4, y5]) rfl ⟨_, rfl, FIN.out, BW.out⟩
end Go.Proofs.Ytclccaigkcilcaa.Dt
