/-
  The specification's SymEnd.
-/
import Derived.Test.YtclccaigkcilcaaSeB
import Derived.Test.YtclccaigkcilcaaPhaseIn
namespace Go.Proofs.Ytclccaigkcilcaa.Dt
set_option linter.unusedVariables false
set_option linter.unusedSimpArgs false
open Go.ChangeShapes Go.WideShapes Go.ChangeAt Go.RowKit IntS Pol Push
abbrev Ev5 := Int × Int × List Mono × List Mono × List (List Mono)
/-- What SymEnd tells. -/
def symEndD (s : Sym6) (bh : Int) : Sym6 := if okP s.2.2.2.1 = false ∨ okP s.2.2.2.2.1 = false then ([], [], 0, [], [], 0) else symD (endD s.2.2.1 s.2.2.2.2.2 bh (numP s.2.2.2.1).1 (numP s.2.2.2.2.1).1 (ordP s.2.2.2.1 s.2.2.2.2.1) (numP s.2.2.2.1).2 (numP s.2.2.2.2.1).2) s
theorem evs_small {xs : List Ev5} {N : Nat} (hs : evsK.sz xs ≤ N) : xs.length ≤ N ∧ ∀ (i : Nat) e, xs[i]? = some e → evR.sz e ≤ N := by
  have e : evsK.sz xs = xs.length + sum evR.sz xs := rfl
  refine ⟨by omega, fun i p hi => ?_⟩
  have h1 := sum_one (f := evR.sz) hi
  omega
theorem infoEvD : ∃ i, Try.prog.info? 50 = some i ∧ i.zero = some (.agg #[.int .i64 0, .int .i64 0, .slice none 0 0, .slice none 0 0, .slice none 0 0]) ∧ i.size = 5 ∧ i.bytes = 88 := by
  have hinfo : (Try.prog.info? 50).map (fun i => (i.zero, i.size, i.bytes)) = some (some (.agg #[.int .i64 0, .int .i64 0, .slice none 0 0, .slice none 0 0, .slice none 0 0]), 5, 88) := by kernel_rfl
  obtain ⟨i, hi, h⟩ := Option.map_eq_some_iff.1 hinfo
  simp only [Prod.mk.injEq] at h
  exact ⟨i, hi, h.1, h.2.1, h.2.2⟩
theorem specOkD (p : List Mono) (v : Value) (w : World) (h : polyK.rd w v p) : Calls Try.prog 30 #[.agg #[v]] w fun e w' => e = .returned (.bool (okP p)) ∧ Below w.heap.size w w' := by
  obtain ⟨B, hr⟩ := poly_to h
  exact specOk p B v w hr
theorem implOkD (p : List Mono) (v : Value) (w : World) (h : polyK.rd w v p) : Calls Try.prog 36 #[.agg #[v]] w fun e w' => e = .returned (.bool (okP p)) ∧ Below w.heap.size w w' := by
  obtain ⟨B, hr⟩ := poly_to h
  exact implOk p B v w hr
theorem sym_zero (w : World) (A : Nat → Prop) : symR.ow w A [.slice none 0 0, .slice none 0 0, .int .i64 0, .slice none 0 0, .slice none 0 0, .int .i64 0] ([], [], 0, [], [], 0) :=
  symR_omk (A0 := fun _ => False) (A1 := fun _ => False) (A3 := fun _ => False) (A4 := fun _ => False) (LOw.nil evR w _) (LOw.nil (last polyK) w _) (poly_nil _ _) (poly_nil _ _) (fun _ h => h.elim) (fun _ h => h.elim) (fun _ h => h.elim) (fun _ h => h.elim) (fun _ h _ => h) (fun _ h _ => h) (fun _ h _ => h) (fun _ h _ => h) (fun _ h _ => h) (fun _ h _ => h)
set_option maxRecDepth 8000 in
set_option maxHeartbeats 16000000 in
theorem specEnd (x0 : List Ev5) (x1 : List (List Mono)) (a2 : Int) (x3 x4 : List Mono) (a5 bh : Int) (cs : List Value) (w : World) (h : symR.rd w cs (x0, x1, a2, x3, x4, a5)) (hs : symR.sz (x0, x1, a2, x3, x4, a5) ≤ 1048576) :
    Calls Try.prog 10 #[.agg cs.toArray, .int .i64 bh] w fun e w' => ∃ cs', e = .returned (.agg cs'.toArray) ∧ symR.ow w' (New w w') cs' (symEndD (x0, x1, a2, x3, x4, a5) bh) ∧ Below w.heap.size w w' := by
  obtain ⟨q0, c0, q1, c1, q3, c3, q4, c4, rfl, k0, k1, k3, k4⟩ := symR_rd h
  rw [symR_sz] at hs
  have S0 := hide (evs_small (xs := x0) (N := 1048576) (by omega))
  have S1 : Hid (sumsK.sz x1 ≤ 1048576) := show _ ≤ _ by omega
  have S3 : Hid (polyK.sz x3 ≤ 1048576) := show _ ≤ _ by omega
  have S4 : Hid (polyK.sz x4 ≤ 1048576) := show _ ≤ _ by omega
  have NO : Hid (okP x3 = false ∨ okP x4 = false → symEndD (x0, x1, a2, x3, x4, a5) bh = ([], [], 0, [], [], 0)) := fun q => by show symEndD _ _ = _; unfold symEndD; exact if_pos q
  have YES : Hid (okP x3 = true → okP x4 = true → symEndD (x0, x1, a2, x3, x4, a5) bh = symD (endD a2 a5 bh (numP x3).1 (numP x4).1 (ordP x3 x4) (numP x3).2 (numP x4).2) (x0, x1, a2, x3, x4, a5)) := fun q q' => by
    show symEndD _ _ = _
    unfold symEndD
    exact if_neg (fun h => h.elim (fun h => Bool.noConfusion (q.symm.trans h)) (fun h => Bool.noConfusion (q'.symm.trans h)))
  obtain ⟨R, eR⟩ : ∃ R, symEndD (x0, x1, a2, x3, x4, a5) bh = R := ⟨_, rfl⟩
  rw [eR] at NO YES ⊢
  clear eR h hs
  have R0 := (Rec.new w [.slice q0 x0.length c0, .slice q1 x1.length c1, .int .i64 a2, .slice q3 x3.length c3, .slice q4 x4.length c4, .int .i64 a5] 37).alloc (.cells #[.slice none 0 0, .slice none 0 0, .int .i64 0, .slice none 0 0, .slice none 0 0, .int .i64 0] 37)
  have R1 := Rec.new (w.alloc (.cells #[.slice q0 x0.length c0, .slice q1 x1.length c1, .int .i64 a2, .slice q3 x3.length c3, .slice q4 x4.length c4, .int .i64 a5] 37)) [.slice none 0 0, .slice none 0 0, .int .i64 0, .slice none 0 0, .slice none 0 0, .int .i64 0] 37
  rw [show (w.alloc (.cells #[.slice q0 x0.length c0, .slice q1 x1.length c1, .int .i64 a2, .slice q3 x3.length c3, .slice q4 x4.length c4, .int .i64 a5] 37)).heap.size = w.heap.size + 1 by simp] at R1
  have b0 : Below w.heap.size w ((w.alloc (.cells #[.slice q0 x0.length c0, .slice q1 x1.length c1, .int .i64 a2, .slice q3 x3.length c3, .slice q4 x4.length c4, .int .i64 a5] 37)).alloc (.cells #[.slice none 0 0, .slice none 0 0, .int .i64 0, .slice none 0 0, .slice none 0 0, .int .i64 0] 37)) := ((Below.refl _ _).alloc (Nat.le_refl _) _).alloc (by simp) _
  have RS := hide R0
  have RZ := hide R1
  have BW := hide b0
  have H0 := hide k0
  have H1 := hide k1
  have H3 := hide k3
  have H4 := hide k4
  clear R0 R1 b0 k0 k1 k3 k4
  go_enter Try.func10, Try.ntmps10
  go_wp2_with fail
  generalize ((w.alloc (.cells #[.slice q0 x0.length c0, .slice q1 x1.length c1, .int .i64 a2, .slice q3 x3.length c3, .slice q4 x4.length c4, .int .i64 a5] 37)).alloc (.cells #[.slice none 0 0, .slice none 0 0, .int .i64 0, .slice none 0 0, .slice none 0 0, .int .i64 0] 37)) = W0 at RS RZ BW ⊢
  refine (specOkD x3 _ _ (polyK.rb H3.out BW.out)).mono ?_
  rintro e u1 ⟨rfl, hb⟩
  replace RS := hide (RS.out.below hb)
  replace RZ := hide (RZ.out.below hb)
  replace BW := hide (BW.out.trans (hb.mono BW.out.size))
  clear hb
  obtain ⟨b3, e3⟩ : ∃ b, okP x3 = b := ⟨_, rfl⟩
  rw [e3] at NO YES ⊢
  clear e3
  cases b3 with
  | false =>
    obtain rfl := NO.out (Or.inl rfl)
    clear NO YES
    have LZ : Hid (w.heap.size + 1 < _) := RZ.out.lt
    go_wp2_with (refine laySymSym rfl rfl _ _ rfl (w.heap.size + 1) _ _ _ _ _ _ RZ.out rfl _ _ _ _ _ _ _ _ _ _ _ _ _ _ rfl ?_; intro p1 RB TB; refine Hid.out ?_)
    replace BW := hide (BW.out.trans (TB.out.below (by omega) BW.out.size))
    have FIN := hide (sym_zero p1 (New w p1))
    clear TB LZ
    refine hide ?_
    have y0 := RB.out.cell 0 _ rfl
    have y1 := RB.out.cell 1 _ rfl
    have y2 := RB.out.cell 2 _ rfl
    have y3 := RB.out.cell 3 _ rfl
    have y4 := RB.out.cell 4 _ rfl
    have y5 := RB.out.cell 5 _ rfl
    go_wp2
    exact bodyPost_ret (v := .agg #[.slice none 0 0, .slice none 0 0, .int .i64 0, .slice none 0 0, .slice none 0 0, .int .i64 0]) (by simp [results, Try.results10, go_sem, y0, y1, y2, y3, y4, y5]) rfl ⟨_, rfl, FIN.out, BW.out⟩
  | true =>
  have z0 := RS.out.cell 0 _ rfl
  have z1 := RS.out.cell 1 _ rfl
  have z2 := RS.out.cell 2 _ rfl
  have z3 := RS.out.cell 3 _ rfl
  have z4 := RS.out.cell 4 _ rfl
  have z5 := RS.out.cell 5 _ rfl
  go_wp2_with fail
  refine (specOkD x4 _ _ (polyK.rb H4.out BW.out)).mono ?_
  rintro e u2 ⟨rfl, hb⟩
  clear z0 z1 z2 z3 z4 z5
  replace RS := hide (RS.out.below hb)
  replace RZ := hide (RZ.out.below hb)
  replace BW := hide (BW.out.trans (hb.mono BW.out.size))
  clear hb
  obtain ⟨b4, e4⟩ : ∃ b, okP x4 = b := ⟨_, rfl⟩
  rw [e4] at NO YES ⊢
  clear e4
  cases b4 with
  | false =>
    obtain rfl := NO.out (Or.inr rfl)
    clear NO YES
    have LZ : Hid (w.heap.size + 1 < _) := RZ.out.lt
    go_wp2_with (refine laySymSym rfl rfl _ _ rfl (w.heap.size + 1) _ _ _ _ _ _ RZ.out rfl _ _ _ _ _ _ _ _ _ _ _ _ _ _ rfl ?_; intro p2 RB TB; refine Hid.out ?_)
    replace BW := hide (BW.out.trans (TB.out.below (by omega) BW.out.size))
    have FIN := hide (sym_zero p2 (New w p2))
    clear TB LZ
    refine hide ?_
    have y0 := RB.out.cell 0 _ rfl
    have y1 := RB.out.cell 1 _ rfl
    have y2 := RB.out.cell 2 _ rfl
    have y3 := RB.out.cell 3 _ rfl
    have y4 := RB.out.cell 4 _ rfl
    have y5 := RB.out.cell 5 _ rfl
    go_wp2
    exact bodyPost_ret (v := .agg #[.slice none 0 0, .slice none 0 0, .int .i64 0, .slice none 0 0, .slice none 0 0, .int .i64 0]) (by simp [results, Try.results10, go_sem, y0, y1, y2, y3, y4, y5]) rfl ⟨_, rfl, FIN.out, BW.out⟩
  | true =>
  have EQ := hide (YES.out (by trivial) (by trivial))
  clear NO YES
  have LX : Hid (w.heap.size + 1 < u2.heap.size) := RZ.out.lt
  have bx : Below u2.heap.size u2 (u2.alloc (.cells #[.slice q0 x0.length c0, .slice q1 x1.length c1, .int .i64 a2, .slice q3 x3.length c3, .slice q4 x4.length c4, .int .i64 a5] 37)) := (Below.refl _ _).alloc (Nat.le_refl _) _
  have RX := hide ((Rec.new u2 [.slice q0 x0.length c0, .slice q1 x1.length c1, .int .i64 a2, .slice q3 x3.length c3, .slice q4 x4.length c4, .int .i64 a5] 37).alloc (.cells #[] 50))
  have e1 : (u2.alloc (.cells #[.slice q0 x0.length c0, .slice q1 x1.length c1, .int .i64 a2, .slice q3 x3.length c3, .slice q4 x4.length c4, .int .i64 a5] 37)).heap.size = u2.heap.size + 1 := by simp
  have by_ := box_below (u2.alloc (.cells #[.slice q0 x0.length c0, .slice q1 x1.length c1, .int .i64 a2, .slice q3 x3.length c3, .slice q4 x4.length c4, .int .i64 a5] 37)) (.cells #[] 50)
  have hb := bx.trans (by_.mono bx.size)
  have O1 := OF.empty evR 50 (u2.alloc (.cells #[.slice q0 x0.length c0, .slice q1 x1.length c1, .int .i64 a2, .slice q3 x3.length c3, .slice q4 x4.length c4, .int .i64 a5] 37)) (lo := u2.heap.size + 1) (by omega)
  rw [e1] at O1
  have OS := hide O1
  have RS2 := RS
  have z0 := RS.out.cell 0 _ rfl
  have z1 := RS.out.cell 1 _ rfl
  have z2 := RS.out.cell 2 _ rfl
  have z3 := RS.out.cell 3 _ rfl
  have z4 := RS.out.cell 4 _ rfl
  have z5 := RS.out.cell 5 _ rfl
  replace RS := hide (RS.out.below hb)
  replace RZ := hide (RZ.out.below hb)
  replace BW := hide (BW.out.trans (hb.mono BW.out.size))
  clear hb
  clear bx by_ O1 e1
  have XC := RX
  have j0 := RX.out.cell 0 _ rfl
  have j1 := RX.out.cell 1 _ rfl
  have j2 := RX.out.cell 2 _ rfl
  have j3 := RX.out.cell 3 _ rfl
  have j4 := RX.out.cell 4 _ rfl
  have j5 := RX.out.cell 5 _ rfl
  go_wp2_with (refine putSymSym_0 rfl rfl _ _ rfl u2.heap.size 0 _ RX.out (by simp) rfl _ _ _ rfl ?_; intro v0 RB TB; refine Hid.out ?_)
  have RX2 : Hid (Rec u2.heap.size [.slice (some ⟨u2.heap.size + 1, 0, none⟩) 0 0, .slice q1 x1.length c1, .int .i64 a2, .slice q3 x3.length c3, .slice q4 x4.length c4, .int .i64 a5] v0) := RB
  replace RS := hide (RS.out.turn TB.out (by have := LX.out; omega))
  replace RZ := hide (RZ.out.turn TB.out (by have := LX.out; omega))
  replace BW := hide (BW.out.trans (TB.out.below (by have := LX.out; omega) BW.out.size))
  replace OS := hide (OS.out.turn TB.out (Or.inl (by omega)))
  clear RB TB RX XC RS2
  clear z0 z1 z2 z3 z4 z5
  clear j0 j1 j2 j3 j4 j5
  refine hide ?_
  have FA : Hid (∀ (i : Nat) x, x0[i]? = some x → ∃ B off cs, q0 = some ⟨B, off, none⟩ ∧ CellsAt w B (off + i * 5) cs ∧ evR.rd w cs x) := fun i x hx => by
    obtain ⟨_, _, B, off, ea, _, _, _, h4⟩ := H0.out
    obtain ⟨e, q⟩ := h4.resolve_left (fun e => by rw [e] at hx; simp at hx)
    obtain ⟨cs, k1, k2⟩ := q i x hx
    injection ea with e1
    exact ⟨B, off, cs, e1.trans e, k1, k2⟩
  have cp : x0.length ≤ c0 ∧ c0 ≤ maxLen := by
    obtain ⟨_, _, B, off, ea, h1, h2, _⟩ := H0.out
    injection ea with _ _ e3
    omega
  unfold maxLen at cp
  obtain ⟨cp1, cp2⟩ := cp
  have TK : Hid (∀ (k : Nat) x, x0[k]? = some x → x0.take k ++ [x] = x0.take (k + 1) ∧ (x0.take k).length = k) := fun k x hx => ⟨take_snoc hx, take_length_le (Nat.le_of_lt (List.getElem?_eq_some_iff.1 hx).1)⟩
  have FO : Hid (∀ q2 cap2 wr, OF evR 50 wr (u2.heap.size + 1) q2 cap2 (x0.take x0.length) → evsK.ow wr (fun b => u2.heap.size + 1 ≤ b ∧ b < wr.heap.size) (.slice q2 x0.length cap2) x0) := fun q2 cap2 wr H => by
    rw [List.take_length] at H
    exact H.whole
  have LN : Hid (x0.length ≤ 1048576) := S0.out.1
  obtain ⟨n, en⟩ : ∃ n, x0.length = n := ⟨_, rfl⟩
  have EN := hide en
  rw [en] at RS cp1 FO LN ⊢
  clear en H0
  go_wp2
  go_loopw [6] (fun i wr => ∃ (k cap2 : Nat) (q2 : Option Addr), k ≤ n ∧ i = .int .i64 k ∧ Hid (OF evR 50 wr (u2.heap.size + 1) q2 cap2 (x0.take k)) ∧ Hid (Rec w.heap.size [.slice q0 n c0, .slice q1 x1.length c1, .int .i64 a2, .slice q3 x3.length c3, .slice q4 x4.length c4, .int .i64 a5] wr ∧ Rec (w.heap.size + 1) [.slice none 0 0, .slice none 0 0, .int .i64 0, .slice none 0 0, .slice none 0 0, .int .i64 0] wr ∧ Rec u2.heap.size [.slice q2 k cap2, .slice q1 x1.length c1, .int .i64 a2, .slice q3 x3.length c3, .slice q4 x4.length c4, .int .i64 a5] wr) ∧ Hid (Below w.heap.size w wr)) (fun i _ => n - (intOf i).toNat)
  case atStart => exact ⟨0, 0, some ⟨u2.heap.size + 1, 0, none⟩, by omega, rfl, OS, ⟨RS.out, RZ.out, RX2.out⟩, BW⟩
  case round =>
    clear OS RS RZ RX2 BW
    obtain ⟨k, cap2, q2, hk, rfl, OS, RA, BW⟩ := hrel
    by_cases hlt : k < n
    case pos =>
      obtain ⟨⟨f0, f1, f2, f3, f4⟩, et⟩ : ∃ x, x0[k]? = some x := ⟨_, List.getElem?_eq_getElem (by rw [EN.out]; exact hlt)⟩
      obtain ⟨B, off, cs, rfl, cc, hx⟩ := FA.out k _ et
      obtain ⟨r2, s2, r3, s3, r4, s4, rfl, k2, k3, k4⟩ := evR_rd hx
      have d0 : wr.cell? ⟨B, off + k * 5, none⟩ = _ := cell_below BW.out (cc 0 _ rfl)
      have d1 := cell_below BW.out (cc 1 _ rfl)
      have d2 := cell_below BW.out (cc 2 _ rfl)
      have d3 := cell_below BW.out (cc 3 _ rfl)
      have d4 := cell_below BW.out (cc 4 _ rfl)
      have SX := S0.out.2 k _ et
      rw [evR_sz] at SX
      have S2 : Hid (polyK.sz f2 ≤ 1048576) := show _ ≤ _ by omega
      have S5 : Hid (polyK.sz f3 ≤ 1048576) := show _ ≤ _ by omega
      have S6 : Hid (sumsK.sz f4 ≤ 1048576) := show _ ≤ _ by omega
      have TT := hide (TK.out k _ et)
      have lk : ((k : Nat) : Int) < (n : Nat) := by omega
      have v0 := RA.out.1.cell 0 _ rfl
      clear et SX cc hx
      have bA : Below wr.heap.size wr (wr.alloc (.cells #[.int .i64 f0, .int .i64 f1, .slice r2 f2.length s2, .slice r3 f3.length s3, .slice r4 f4.length s4] 50)).drew := ((Below.refl _ _).alloc (Nat.le_refl _) _).drew
      have RE := hide ((Rec.new wr [.int .i64 f0, .int .i64 f1, .slice r2 f2.length s2, .slice r3 f3.length s3, .slice r4 f4.length s4] 50).drew)
      have LE : Hid (u2.heap.size < wr.heap.size) := RA.out.2.2.lt
      go_wp2_with fail
      have RD := hide (And.intro (RA.out.1.below bA) (And.intro (RA.out.2.1.below bA) (RA.out.2.2.below bA)))
      have BD := hide (BW.out.trans (bA.mono BW.out.size))
      have K2 := hide (polyK.rb k2 BD.out)
      have K3 := hide (polyK.rb k3 BD.out)
      have K4 := hide (sumsK.rb k4 BD.out)
      have BC := hide bA
      refine (wpIn_wide (n := 0)).1 ?_
      refine PhaseIn.region (S := fun w' => Rec u2.heap.size [.slice q2 k cap2, .slice q1 x1.length c1, .int .i64 a2, .slice q3 x3.length c3, .slice q4 x4.length c4, .int .i64 a5] w' ∧ Rec wr.heap.size [.int .i64 f0, .int .i64 f1, .slice r2 f2.length s2, .slice r3 f3.length s3, .slice r4 f4.length s4] w') 19 (by kernel_rfl) ?_
      generalize (wr.alloc (.cells #[.int .i64 f0, .int .i64 f1, .slice r2 f2.length s2, .slice r3 f3.length s3, .slice r4 f4.length s4] 50)).drew = d9 at RE RD BD K2 K3 K4 BC ⊢
      have hHeld := And.intro RD.out.2.2 RE.out
      clear bA d0 d1 d2 d3 d4 v0 k2 k3 k4
      refine PhaseIn.takeD (i := 0) (v := ?_) [0, 1, 19, 20, 21] 36 rfl (by rfl) (by kernel_rfl) (by kernel_rfl) (by kernel_rfl) (by kernel_rfl) (by kernel_rfl) (fun _ _ _ h => h) (Or.inl ⟨by kernel_rfl, ?_⟩) hHeld ?_
      rotate_left
      · intro w' hSw
        (try dsimp only at hSw)
        go_simp
        first | done | with_reducible rfl
      try simp only [Act.put, List.setIfInBounds_toArray, List.set]
      refine PhaseIn.takeD (i := 1) (v := ?_) [1, 19, 20, 21] 37 rfl (by rfl) (by kernel_rfl) (by kernel_rfl) (by kernel_rfl) (by kernel_rfl) (by kernel_rfl) (fun _ _ _ h => h) (Or.inl ⟨by kernel_rfl, ?_⟩) hHeld ?_
      rotate_left
      · intro w' hSw
        (try dsimp only at hSw)
        have z0 := hSw.1.cell 0 _ rfl
        go_simp
        first | done | with_reducible rfl
      try simp only [Act.put, List.setIfInBounds_toArray, List.set]
      refine PhaseIn.takeD (i := 2) (v := ?_) [2, 3, 17, 18, 19, 20, 21] 38 rfl (by rfl) (by kernel_rfl) (by kernel_rfl) (by kernel_rfl) (by kernel_rfl) (by kernel_rfl) (fun _ _ _ h => h) (Or.inl ⟨by kernel_rfl, ?_⟩) hHeld ?_
      rotate_left
      · intro w' hSw
        (try dsimp only at hSw)
        go_simp
        first | done | with_reducible rfl
      try simp only [Act.put, List.setIfInBounds_toArray, List.set]
      refine PhaseIn.takeD (i := 3) (v := ?_) [3, 17, 18, 19, 20, 21] 39 rfl (by rfl) (by kernel_rfl) (by kernel_rfl) (by kernel_rfl) (by kernel_rfl) (by kernel_rfl) (fun _ _ _ h => h) (Or.inl ⟨by kernel_rfl, ?_⟩) hHeld ?_
      rotate_left
      · intro w' hSw
        (try dsimp only at hSw)
        have z0 := hSw.2.cell 0 _ rfl; have z1 := hSw.2.cell 1 _ rfl; have z2 := hSw.2.cell 2 _ rfl; have z3 := hSw.2.cell 3 _ rfl; have z4 := hSw.2.cell 4 _ rfl
        go_simp
        first | done | with_reducible rfl
      try simp only [Act.put, List.setIfInBounds_toArray, List.set]
      refine PhaseIn.takeD (i := 4) (v := ?_) [4, 5, 17, 18, 19, 20, 21] 40 rfl (by rfl) (by kernel_rfl) (by kernel_rfl) (by kernel_rfl) (by kernel_rfl) (by kernel_rfl) (fun _ _ _ h => h) (Or.inl ⟨by kernel_rfl, ?_⟩) hHeld ?_
      rotate_left
      · intro w' hSw
        (try dsimp only at hSw)
        go_simp
        first | done | with_reducible rfl
      try simp only [Act.put, List.setIfInBounds_toArray, List.set]
      refine PhaseIn.takeD (i := 5) (v := ?_) [5, 17, 18, 19, 20, 21] 41 rfl (by rfl) (by kernel_rfl) (by kernel_rfl) (by kernel_rfl) (by kernel_rfl) (by kernel_rfl) (fun _ _ _ h => h) (Or.inl ⟨by kernel_rfl, ?_⟩) hHeld ?_
      rotate_left
      · intro w' hSw
        (try dsimp only at hSw)
        have z0 := hSw.2.cell 0 _ rfl; have z1 := hSw.2.cell 1 _ rfl; have z2 := hSw.2.cell 2 _ rfl; have z3 := hSw.2.cell 3 _ rfl; have z4 := hSw.2.cell 4 _ rfl
        go_simp
        first | done | with_reducible rfl
      try simp only [Act.put, List.setIfInBounds_toArray, List.set]
      refine PhaseIn.takeD (i := 6) (v := ?_) [6, 7, 8, 9, 13, 16, 17, 18, 19, 20, 21] 42 rfl (by rfl) (by kernel_rfl) (by kernel_rfl) (by kernel_rfl) (by kernel_rfl) (by kernel_rfl) (fun _ _ _ h => h) (Or.inl ⟨by kernel_rfl, ?_⟩) hHeld ?_
      rotate_left
      · intro w' hSw
        (try dsimp only at hSw)
        go_simp
        first | done | with_reducible rfl
      try simp only [Act.put, List.setIfInBounds_toArray, List.set]
      refine PhaseIn.takeD (i := 7) (v := ?_) [7, 8, 9, 13, 16, 17, 18, 19, 20, 21] 43 rfl (by rfl) (by kernel_rfl) (by kernel_rfl) (by kernel_rfl) (by kernel_rfl) (by kernel_rfl) (fun _ _ _ h => h) (Or.inl ⟨by kernel_rfl, ?_⟩) hHeld ?_
      rotate_left
      · intro w' hSw
        (try dsimp only at hSw)
        go_simp
        first | done | with_reducible rfl
      try simp only [Act.put, List.setIfInBounds_toArray, List.set]
      refine PhaseIn.takeD (i := 8) (v := ?_) [8, 9, 13, 16, 17, 18, 19, 20, 21] 44 rfl (by rfl) (by kernel_rfl) (by kernel_rfl) (by kernel_rfl) (by kernel_rfl) (by kernel_rfl) (fun _ _ _ h => h) (Or.inl ⟨by kernel_rfl, ?_⟩) hHeld ?_
      rotate_left
      · intro w' hSw
        (try dsimp only at hSw)
        have z0 := hSw.2.cell 0 _ rfl; have z1 := hSw.2.cell 1 _ rfl; have z2 := hSw.2.cell 2 _ rfl; have z3 := hSw.2.cell 3 _ rfl; have z4 := hSw.2.cell 4 _ rfl
        go_simp
        first | done | with_reducible rfl
      try simp only [Act.put, List.setIfInBounds_toArray, List.set]
      refine PhaseIn.takeD (i := 10) (v := ?_) [10, 11, 12, 13, 16, 17, 18, 19, 20, 21] 46 rfl (by rfl) (by kernel_rfl) (by kernel_rfl) (by kernel_rfl) (by kernel_rfl) (by kernel_rfl) (fun _ _ _ h => h) (Or.inl ⟨by kernel_rfl, ?_⟩) hHeld ?_
      rotate_left
      · intro w' hSw
        (try dsimp only at hSw)
        go_simp
        first | done | with_reducible rfl
      try simp only [Act.put, List.setIfInBounds_toArray, List.set]
      refine PhaseIn.takeD (i := 11) (v := ?_) [11, 12, 13, 16, 17, 18, 19, 20, 21] 47 rfl (by rfl) (by kernel_rfl) (by kernel_rfl) (by kernel_rfl) (by kernel_rfl) (by kernel_rfl) (fun _ _ _ h => h) (Or.inl ⟨by kernel_rfl, ?_⟩) hHeld ?_
      rotate_left
      · intro w' hSw
        (try dsimp only at hSw)
        go_simp
        first | done | with_reducible rfl
      try simp only [Act.put, List.setIfInBounds_toArray, List.set]
      refine PhaseIn.takeD (i := 12) (v := ?_) [12, 13, 16, 17, 18, 19, 20, 21] 48 rfl (by rfl) (by kernel_rfl) (by kernel_rfl) (by kernel_rfl) (by kernel_rfl) (by kernel_rfl) (fun _ _ _ h => h) (Or.inl ⟨by kernel_rfl, ?_⟩) hHeld ?_
      rotate_left
      · intro w' hSw
        (try dsimp only at hSw)
        have z0 := hSw.2.cell 0 _ rfl; have z1 := hSw.2.cell 1 _ rfl; have z2 := hSw.2.cell 2 _ rfl; have z3 := hSw.2.cell 3 _ rfl; have z4 := hSw.2.cell 4 _ rfl
        go_simp
        first | done | with_reducible rfl
      try simp only [Act.put, List.setIfInBounds_toArray, List.set]
      refine PhaseIn.takeD (i := 14) (v := ?_) [14, 15, 16, 17, 18, 19, 20, 21] 50 rfl (by rfl) (by kernel_rfl) (by kernel_rfl) (by kernel_rfl) (by kernel_rfl) (by kernel_rfl) (fun _ _ _ h => h) (Or.inl ⟨by kernel_rfl, ?_⟩) hHeld ?_
      rotate_left
      · intro w' hSw
        (try dsimp only at hSw)
        go_simp
        first | done | with_reducible rfl
      try simp only [Act.put, List.setIfInBounds_toArray, List.set]
      refine PhaseIn.takeD (i := 15) (v := ?_) [15, 16, 17, 18, 19, 20, 21] 51 rfl (by rfl) (by kernel_rfl) (by kernel_rfl) (by kernel_rfl) (by kernel_rfl) (by kernel_rfl) (fun _ _ _ h => h) (Or.inl ⟨by kernel_rfl, ?_⟩) hHeld ?_
      rotate_left
      · intro w' hSw
        (try dsimp only at hSw)
        have z0 := hSw.2.cell 0 _ rfl; have z1 := hSw.2.cell 1 _ rfl; have z2 := hSw.2.cell 2 _ rfl; have z3 := hSw.2.cell 3 _ rfl; have z4 := hSw.2.cell 4 _ rfl
        go_simp
        first | done | with_reducible rfl
      try simp only [Act.put, List.setIfInBounds_toArray, List.set]
      refine PhaseIn.one (i := 9) (by kernel_rfl) rfl (by kernel_rfl) (fun K hK => ?_)
      unfold Oper.wpIn
      refine ⟨fun _ _ => trivial, ?_⟩
      go_simp
      refine ⟨rfl, (callsIn_wide.2 (l4CopyD f2 _ _ K2.out S2.out)).mono ?_⟩
      rintro e u3 ⟨ga, ca, rfl, WW, hb⟩
      refine hK _ _ (fun _ => (And.intro (hHeld.1.below hb) (hHeld.2.below hb))) ?_
      replace hHeld := (And.intro (hHeld.1.below hb) (hHeld.2.below hb))
      have W2 := hide WW
      replace RD := hide (And.intro (RD.out.1.below hb) (And.intro (RD.out.2.1.below hb) (RD.out.2.2.below hb)))
      replace BD := hide (BD.out.trans (hb.mono BD.out.size))
      replace BC := hide (BC.out.trans (hb.mono BC.out.size))
      have Zu3 : Hid (_ ≤ u3.heap.size) := hb.size
      replace K3 := hide (polyK.rb K3.out hb)
      replace K4 := hide (sumsK.rb K4.out hb)
      clear hb hK K WW
      try simp only [Act.put, List.setIfInBounds_toArray, List.set]
      refine PhaseIn.one (i := 13) (by kernel_rfl) rfl (by kernel_rfl) (fun K hK => ?_)
      unfold Oper.wpIn
      refine ⟨fun _ _ => trivial, ?_⟩
      go_simp
      refine ⟨rfl, (callsIn_wide.2 (l4CopyD f3 _ _ K3.out S5.out)).mono ?_⟩
      rintro e u4 ⟨gb, cb, rfl, WW, hb⟩
      refine hK _ _ (fun _ => (And.intro (hHeld.1.below hb) (hHeld.2.below hb))) ?_
      replace hHeld := (And.intro (hHeld.1.below hb) (hHeld.2.below hb))
      have W3 := hide WW
      replace RD := hide (And.intro (RD.out.1.below hb) (And.intro (RD.out.2.1.below hb) (RD.out.2.2.below hb)))
      replace BD := hide (BD.out.trans (hb.mono BD.out.size))
      replace BC := hide (BC.out.trans (hb.mono BC.out.size))
      have Zu4 : Hid (_ ≤ u4.heap.size) := hb.size
      replace K4 := hide (sumsK.rb K4.out hb)
      replace W2 := hide (polyK.ob W2.out hb)
      clear hb hK K WW
      try simp only [Act.put, List.setIfInBounds_toArray, List.set]
      refine PhaseIn.one (i := 16) (by kernel_rfl) rfl (by kernel_rfl) (fun K hK => ?_)
      unfold Oper.wpIn
      refine ⟨fun _ _ => trivial, ?_⟩
      go_simp
      refine ⟨rfl, (callsIn_wide.2 (l8Polys f4 _ _ K4.out S6.out)).mono ?_⟩
      rintro e u5 ⟨gc, cc, rfl, WW, hb⟩
      refine hK _ _ (fun _ => (And.intro (hHeld.1.below hb) (hHeld.2.below hb))) ?_
      replace hHeld := (And.intro (hHeld.1.below hb) (hHeld.2.below hb))
      have W4 := hide WW
      replace RD := hide (And.intro (RD.out.1.below hb) (And.intro (RD.out.2.1.below hb) (RD.out.2.2.below hb)))
      replace BD := hide (BD.out.trans (hb.mono BD.out.size))
      replace BC := hide (BC.out.trans (hb.mono BC.out.size))
      have Zu5 : Hid (_ ≤ u5.heap.size) := hb.size
      replace W2 := hide (polyK.ob W2.out hb)
      replace W3 := hide (polyK.ob W3.out hb)
      clear hb hK K WW
      try simp only [Act.put, List.setIfInBounds_toArray, List.set]
      refine PhaseIn.takeD (i := 17) (v := ?_) [17, 18, 19, 20, 21] 53 rfl (by rfl) (by kernel_rfl) (by kernel_rfl) (by kernel_rfl) (by kernel_rfl) (by kernel_rfl) (fun _ _ _ h => h) (Or.inl ⟨by kernel_rfl, ?_⟩) hHeld ?_
      rotate_left
      · intro w' hSw
        (try dsimp only at hSw)
        go_simp
        first | done | with_reducible rfl
      try simp only [Act.put, List.setIfInBounds_toArray, List.set]
      refine PhaseIn.one (i := 18) (by kernel_rfl) rfl (by kernel_rfl) (fun K hK => ?_)
      unfold Oper.wpIn
      refine ⟨fun _ _ => trivial, ?_⟩
      go_simp
      have bo : Below u5.heap.size u5 (u5.alloc (.cells #[.int .i64 f0, .int .i64 f1, .slice ga f2.length ca, .slice gb f3.length cb, .slice gc f4.length cc] 50)) := (Below.refl _ _).alloc (Nat.le_refl _) _
      refine hK _ _ (fun _ => (And.intro (hHeld.1.below bo) (hHeld.2.below bo))) ?_
      have NR := hide (Rec.new u5 [.int .i64 f0, .int .i64 f1, .slice ga f2.length ca, .slice gb f3.length cb, .slice gc f4.length cc] 50)
      replace RD := hide (And.intro (RD.out.1.below bo) (And.intro (RD.out.2.1.below bo) (RD.out.2.2.below bo)))
      replace BD := hide (BD.out.trans (bo.mono BD.out.size))
      replace BC := hide (BC.out.trans (bo.mono BC.out.size))
      have sA := LE.out
      have s9 : wr.heap.size < d9.heap.size := RE.out.lt
      have s3 := Zu3.out
      have s4 := Zu4.out
      have s5 := Zu5.out
      have s6 := bo.size
      have sN := LX.out
      have EVO : evR.ow (u5.alloc (.cells #[.int .i64 f0, .int .i64 f1, .slice ga f2.length ca, .slice gb f3.length cb, .slice gc f4.length cc] 50)) (New wr (u5.alloc (.cells #[.int .i64 f0, .int .i64 f1, .slice ga f2.length ca, .slice gb f3.length cb, .slice gc f4.length cc] 50))) [.int .i64 f0, .int .i64 f1, .slice ga f2.length ca, .slice gb f3.length cb, .slice gc f4.length cc] (f0, f1, f2, f3, f4) := evR_omk (polyK.ob W2.out bo) (polyK.ob W3.out bo) (sumsK.ob W4.out bo) (fun b h => ⟨by have := h.1; omega, by have := h.2; omega⟩) (fun b h => ⟨by have := h.1; omega, by have := h.2; omega⟩) (fun b h => ⟨by have := h.1; omega, by have := h.2; omega⟩) (fun b h h' => by have := h.2; have := h'.1; omega) (fun b h h' => by have := h.2; have := h'.1; omega) (fun b h h' => by have := h.2; have := h'.1; omega)
      obtain ⟨ti, hi, hz, hsz, hby⟩ := infoEvD
      obtain ⟨g2, cp9, u6, hrun, O2, BL, -, KP⟩ := OS.out.push (P := Try.prog) BC.out EVO 31 31 Try.underlying31 hi hz hsz hby rfl (by decide) (by omega) ⟨u5.heap.size, 0, none⟩ (fun j v hv => by
        rw [Addr.add_lit, Nat.zero_add]
        exact NR.out.cell j v hv) (fun v hv => by simp at hv; rcases hv with rfl | rfl | rfl | rfl | rfl <;> rfl) (by have := LN.out; rw [TT.out.2]; omega) (by omega)
      rw [TT.out.2] at hrun
      rw [TT.out.1] at O2
      have O3 := hide O2
      have qlow (Z : Nat) (hZ : Z < u2.heap.size + 1) : ¬ q2 = some ⟨Z, 0, none⟩ := fun e => by
        rcases OS.out.form with e1 | ⟨G, e1, e2⟩
        · rw [e1] at e; cases e
        · rw [e1] at e
          injection e with e3
          injection e3 with e4
          omega
      replace RD := hide (And.intro (RD.out.1.keep KP (qlow _ (by omega))) (And.intro (RD.out.2.1.keep KP (qlow _ (by omega))) (RD.out.2.2.keep KP (qlow _ (by omega)))))
      replace BD := hide (BD.out.trans (BL.mono (by omega)))
      clear hK K hHeld KP BL O2 EVO bo NR W2 W3 W4 hi hz hsz hby s3 s4 s5 s6 s9 qlow Zu3 Zu4 Zu5 BC RE OS RA BW
      try simp only [Act.put, List.setIfInBounds_toArray, List.set]
      refine PhaseIn.one (i := 19) (by kernel_rfl) rfl (by kernel_rfl) (fun K hK => ?_)
      refine push_in _ _ rfl rfl rfl hrun (hK _ _ (fun h => absurd h (by omega)) ?_)
      clear hK K hrun
      try simp only [Act.put, List.setIfInBounds_toArray, List.set]
      refine PhaseIn.late (i := 20) (v := ?_) (by kernel_rfl) rfl 56 (by rfl) (by omega) (Or.inl ⟨by kernel_rfl, ?_⟩) ?_
      rotate_left
      · intro w' hSw
        go_simp
        first | done | with_reducible rfl
      try simp only [Act.put, List.setIfInBounds_toArray, List.set]
      have x0c := RD.out.2.2.cell 0 _ rfl
      have x0s := RD.out.2.2.soft 0
      refine PhaseIn.one (i := 21) (by kernel_rfl) rfl (by kernel_rfl) (fun K hK => ?_)
      unfold Oper.wpIn
      refine ⟨fun _ _ => trivial, ?_⟩
      go_simp
      have TB : Turn u2.heap.size u6 (u6.setCell ⟨u2.heap.size, 0, none⟩ (.slice (some ⟨g2, 0, none⟩) (k + 1) cp9)) := (Turn.refl _ u6).setCell (p := ⟨u2.heap.size, 0, none⟩) rfl _
      have RN := hide (And.intro (RD.out.1.turn TB (by omega)) (And.intro (RD.out.2.1.turn TB (by omega)) (RD.out.2.2.set 0 (.slice (some ⟨g2, 0, none⟩) (k + 1) cp9) (by simp) (show _ = ([.slice (some ⟨g2, 0, none⟩) (k + 1) cp9, .slice q1 x1.length c1, .int .i64 a2, .slice q3 x3.length c3, .slice q4 x4.length c4, .int .i64 a5] : List Value) from rfl))))
      have ON := hide (O3.out.turn TB (Or.inl (by omega)))
      have BN := hide (BD.out.trans (TB.below (by omega) BD.out.size))
      refine hK _ _ (fun h => absurd h (by omega)) ?_
      clear hK K x0c x0s RD O3 BD TB
      try simp only [Act.put, List.setIfInBounds_toArray, List.set]
      generalize u6.setCell ⟨u2.heap.size, 0, none⟩ (.slice (some ⟨g2, 0, none⟩) (k + 1) cp9) = u7 at RN ON BN ⊢
      refine PhaseIn.done (by kernel_rfl) ?_ _
      go_wp2
      exact ⟨⟨k + 1, cp9, some ⟨g2, 0, none⟩, by omega, by go_num, ON, RN, BN⟩, by simp [intOf]; omega⟩
    obtain rfl : k = n := by omega
    have W0 := hide (FO.out _ _ _ OS.out)
    have RS := hide RA.out.1
    have RZ := hide RA.out.2.1
    have RX := hide RA.out.2.2
    have sA : Hid (u2.heap.size < wr.heap.size) := RA.out.2.2.lt
    clear RA OS FO FA TK LN S0
    have z0 := RS.out.cell 0 _ rfl
    have z1 := RS.out.cell 1 _ rfl
    have z2 := RS.out.cell 2 _ rfl
    have z3 := RS.out.cell 3 _ rfl
    have z4 := RS.out.cell 4 _ rfl
    have z5 := RS.out.cell 5 _ rfl
    go_wp2_with fail
    refine (l8Polys x1 _ _ (sumsK.rb H1.out BW.out) S1.out).mono ?_
    rintro e u10 ⟨gd, cd, rfl, WW, hb⟩
    have W1 := hide WW
    have Lu10 : Hid (wr.heap.size ≤ u10.heap.size) := hb.size
    clear WW
    clear z0 z1 z2 z3 z4 z5
    replace W0 := hide (evsK.ob W0.out hb)
    replace RS := hide (RS.out.below hb)
    replace RZ := hide (RZ.out.below hb)
    replace RX := hide (RX.out.below hb)
    replace BW := hide (BW.out.trans (hb.mono BW.out.size))
    clear hb
    go_wp2_with (refine putSymSym_1 rfl rfl _ _ rfl u2.heap.size 1 _ RX.out (by simp) rfl _ _ _ rfl ?_; intro v10 RB TB; refine Hid.out ?_)
    replace RX : Hid (Rec u2.heap.size [.slice q2 k cap2, .slice gd x1.length cd, .int .i64 a2, .slice q3 x3.length c3, .slice q4 x4.length c4, .int .i64 a5] v10) := RB
    replace RS := hide (RS.out.turn TB.out (by have := LX.out; omega))
    replace RZ := hide (RZ.out.turn TB.out (by have := LX.out; omega))
    replace BW := hide (BW.out.trans (TB.out.below (by have := LX.out; omega) BW.out.size))
    have Lv10 : Hid (u10.heap.size ≤ v10.heap.size) := TB.out.size
    replace W0 := hide (evsK.ot W0.out TB.out (fun q => by have := q.1; have := sA.out; have := Lu10.out; omega))
    replace W1 := hide (sumsK.ot W1.out TB.out (fun q => by have := q.1; have := sA.out; have := Lu10.out; omega))
    clear RB TB
    refine hide ?_
    have z0 := RS.out.cell 0 _ rfl
    have z1 := RS.out.cell 1 _ rfl
    have z2 := RS.out.cell 2 _ rfl
    have z3 := RS.out.cell 3 _ rfl
    have z4 := RS.out.cell 4 _ rfl
    have z5 := RS.out.cell 5 _ rfl
    go_wp2_with fail
    refine (l4CopyD x3 _ _ (polyK.rb H3.out BW.out) S3.out).mono ?_
    rintro e u11 ⟨ge, ce, rfl, WW, hb⟩
    have W3 := hide WW
    have Lu11 : Hid (v10.heap.size ≤ u11.heap.size) := hb.size
    clear WW
    clear z0 z1 z2 z3 z4 z5
    replace W0 := hide (evsK.ob W0.out hb)
    replace W1 := hide (sumsK.ob W1.out hb)
    replace RS := hide (RS.out.below hb)
    replace RZ := hide (RZ.out.below hb)
    replace RX := hide (RX.out.below hb)
    replace BW := hide (BW.out.trans (hb.mono BW.out.size))
    clear hb
    go_wp2_with (refine putSymSym_3 rfl rfl _ _ rfl u2.heap.size 3 _ RX.out (by simp) rfl _ _ _ rfl ?_; intro v11 RB TB; refine Hid.out ?_)
    replace RX : Hid (Rec u2.heap.size [.slice q2 k cap2, .slice gd x1.length cd, .int .i64 a2, .slice ge x3.length ce, .slice q4 x4.length c4, .int .i64 a5] v11) := RB
    replace RS := hide (RS.out.turn TB.out (by have := LX.out; omega))
    replace RZ := hide (RZ.out.turn TB.out (by have := LX.out; omega))
    replace BW := hide (BW.out.trans (TB.out.below (by have := LX.out; omega) BW.out.size))
    have Lv11 : Hid (u11.heap.size ≤ v11.heap.size) := TB.out.size
    replace W0 := hide (evsK.ot W0.out TB.out (fun q => by have := q.1; have := sA.out; have := Lu10.out; have := Lu11.out; have := Lv10.out; omega))
    replace W1 := hide (sumsK.ot W1.out TB.out (fun q => by have := q.1; have := sA.out; have := Lu10.out; have := Lu11.out; have := Lv10.out; omega))
    replace W3 := hide (polyK.ot W3.out TB.out (fun q => by have := q.1; have := sA.out; have := Lu10.out; have := Lu11.out; have := Lv10.out; omega))
    clear RB TB
    refine hide ?_
    have z0 := RS.out.cell 0 _ rfl
    have z1 := RS.out.cell 1 _ rfl
    have z2 := RS.out.cell 2 _ rfl
    have z3 := RS.out.cell 3 _ rfl
    have z4 := RS.out.cell 4 _ rfl
    have z5 := RS.out.cell 5 _ rfl
    go_wp2_with fail
    refine (l4CopyD x4 _ _ (polyK.rb H4.out BW.out) S4.out).mono ?_
    rintro e u12 ⟨gf, cf, rfl, WW, hb⟩
    have W4 := hide WW
    have Lu12 : Hid (v11.heap.size ≤ u12.heap.size) := hb.size
    clear WW
    clear z0 z1 z2 z3 z4 z5
    replace W0 := hide (evsK.ob W0.out hb)
    replace W1 := hide (sumsK.ob W1.out hb)
    replace W3 := hide (polyK.ob W3.out hb)
    replace RS := hide (RS.out.below hb)
    replace RZ := hide (RZ.out.below hb)
    replace RX := hide (RX.out.below hb)
    replace BW := hide (BW.out.trans (hb.mono BW.out.size))
    clear hb
    go_wp2_with (refine putSymSym_3 rfl rfl _ _ rfl u2.heap.size 4 _ RX.out (by simp) rfl _ _ _ rfl ?_; intro v12 RB TB; refine Hid.out ?_)
    replace RX : Hid (Rec u2.heap.size [.slice q2 k cap2, .slice gd x1.length cd, .int .i64 a2, .slice ge x3.length ce, .slice gf x4.length cf, .int .i64 a5] v12) := RB
    replace RS := hide (RS.out.turn TB.out (by have := LX.out; omega))
    replace RZ := hide (RZ.out.turn TB.out (by have := LX.out; omega))
    replace BW := hide (BW.out.trans (TB.out.below (by have := LX.out; omega) BW.out.size))
    have Lv12 : Hid (u12.heap.size ≤ v12.heap.size) := TB.out.size
    replace W0 := hide (evsK.ot W0.out TB.out (fun q => by have := q.1; have := sA.out; have := Lu10.out; have := Lu11.out; have := Lu12.out; have := Lv10.out; have := Lv11.out; omega))
    replace W1 := hide (sumsK.ot W1.out TB.out (fun q => by have := q.1; have := sA.out; have := Lu10.out; have := Lu11.out; have := Lu12.out; have := Lv10.out; have := Lv11.out; omega))
    replace W3 := hide (polyK.ot W3.out TB.out (fun q => by have := q.1; have := sA.out; have := Lu10.out; have := Lu11.out; have := Lu12.out; have := Lv10.out; have := Lv11.out; omega))
    replace W4 := hide (polyK.ot W4.out TB.out (fun q => by have := q.1; have := sA.out; have := Lu10.out; have := Lu11.out; have := Lu12.out; have := Lv10.out; have := Lv11.out; omega))
    clear RB TB
    refine hide ?_
    have EN2 := EN.out
    subst EN2
    have OWN : Hid (symR.ow v12 (fun b => u2.heap.size < b ∧ b < v12.heap.size) [.slice q2 x0.length cap2, .slice gd x1.length cd, .int .i64 a2, .slice ge x3.length ce, .slice gf x4.length cf, .int .i64 a5] (x0, x1, a2, x3, x4, a5)) := symR_omk W0.out W1.out W3.out W4.out (fun b h => ⟨by have := h.1; have := sA.out; have := Lu10.out; have := Lu11.out; have := Lu12.out; have := Lv10.out; have := Lv11.out; have := Lv12.out; omega, by have := h.2; have := Lu10.out; have := Lu11.out; have := Lu12.out; have := Lv10.out; have := Lv11.out; have := Lv12.out; omega⟩) (fun b h => ⟨by have := h.1; have := sA.out; have := Lu10.out; have := Lu11.out; have := Lu12.out; have := Lv10.out; have := Lv11.out; have := Lv12.out; omega, by have := h.2; have := Lu10.out; have := Lu11.out; have := Lu12.out; have := Lv10.out; have := Lv11.out; have := Lv12.out; omega⟩) (fun b h => ⟨by have := h.1; have := sA.out; have := Lu10.out; have := Lu11.out; have := Lu12.out; have := Lv10.out; have := Lv11.out; have := Lv12.out; omega, by have := h.2; have := Lu10.out; have := Lu11.out; have := Lu12.out; have := Lv10.out; have := Lv11.out; have := Lv12.out; omega⟩) (fun b h => ⟨by have := h.1; have := sA.out; have := Lu10.out; have := Lu11.out; have := Lu12.out; have := Lv10.out; have := Lv11.out; have := Lv12.out; omega, by have := h.2; have := Lu10.out; have := Lu11.out; have := Lu12.out; have := Lv10.out; have := Lv11.out; have := Lv12.out; omega⟩) (fun b h h' => by have := h.2; have := h'.1; have := Lu10.out; have := Lu11.out; have := Lu12.out; have := Lv10.out; have := Lv11.out; have := Lv12.out; omega) (fun b h h' => by have := h.2; have := h'.1; have := Lu10.out; have := Lu11.out; have := Lu12.out; have := Lv10.out; have := Lv11.out; have := Lv12.out; omega) (fun b h h' => by have := h.2; have := h'.1; have := Lu10.out; have := Lu11.out; have := Lu12.out; have := Lv10.out; have := Lv11.out; have := Lv12.out; omega) (fun b h h' => by have := h.2; have := h'.1; have := Lu10.out; have := Lu11.out; have := Lu12.out; have := Lv10.out; have := Lv11.out; have := Lv12.out; omega) (fun b h h' => by have := h.2; have := h'.1; have := Lu10.out; have := Lu11.out; have := Lu12.out; have := Lv10.out; have := Lv11.out; have := Lv12.out; omega) (fun b h h' => by have := h.2; have := h'.1; have := Lu10.out; have := Lu11.out; have := Lu12.out; have := Lv10.out; have := Lv11.out; have := Lv12.out; omega)
    have VL : Hid (v12.heap.size ≤ v12.heap.size) := Nat.le_refl _
    clear W0 W1 W3 W4 Lu10 Lu11 Lu12 Lv10 Lv11 Lv12 H1 S1 S3 S4 EN
    have NX := hide (show numP x3 = ((numP x3).1, (numP x3).2) from rfl)
    obtain ⟨nx, enx⟩ : ∃ z, (numP x3).1 = z := ⟨_, rfl⟩
    obtain ⟨bx, ebx⟩ : ∃ z, (numP x3).2 = z := ⟨_, rfl⟩
    rw [enx, ebx] at EQ
    have NX1 := hide (And.intro enx ebx)
    clear enx ebx NX
    have z0 := RS.out.cell 0 _ rfl
    have z1 := RS.out.cell 1 _ rfl
    have z2 := RS.out.cell 2 _ rfl
    have z3 := RS.out.cell 3 _ rfl
    have z4 := RS.out.cell 4 _ rfl
    have z5 := RS.out.cell 5 _ rfl
    by_cases e2 : a2 = 2
    case pos =>
      subst e2
      go_wp2_with fail
      refine (specNumD x3 _ _ (polyK.rb H3.out BW.out)).mono ?_
      rintro e u13 ⟨rfl, hb⟩
      rw [NX1.out.1, NX1.out.2]
      clear z0 z1 z2 z3 z4 z5
      replace VL := hide (Nat.le_trans VL.out hb.size)
      replace OWN := hide (symR.ob OWN.out hb)
      replace RS := hide (RS.out.below hb)
      replace RZ := hide (RZ.out.below hb)
      replace RX := hide (RX.out.below hb)
      replace BW := hide (BW.out.trans (hb.mono BW.out.size))
      clear hb
      cases bx with
      | true =>
        have EQ1 : Hid (R = symD (1, nx) (x0, x1, 2, x3, x4, a5)) := EQ.out.trans (by unfold endD; simp)
        have j0 := RX.out.cell 0 _ rfl
        have j1 := RX.out.cell 1 _ rfl
        have j2 := RX.out.cell 2 _ rfl
        have j3 := RX.out.cell 3 _ rfl
        have j4 := RX.out.cell 4 _ rfl
        have j5 := RX.out.cell 5 _ rfl
        go_wp2_with fail
        refine (l8Go q2 x0.length cap2 gd x1.length cd 2 ge x3.length ce gf x4.length cf a5 nx _).mono ?_
        rintro e u14 ⟨rfl, hb⟩
        replace VL := hide (Nat.le_trans VL.out hb.size)
        replace OWN := hide (symR.ob OWN.out hb)
        clear j0 j1 j2 j3 j4 j5
        replace RS := hide (RS.out.below hb)
        replace RZ := hide (RZ.out.below hb)
        replace BW := hide (BW.out.trans (hb.mono BW.out.size))
        clear hb

        have LZ : Hid (w.heap.size + 1 < _) := RZ.out.lt
        go_wp2_with (refine laySymSym rfl rfl _ _ rfl (w.heap.size + 1) _ _ _ _ _ _ RZ.out rfl _ _ _ _ _ _ _ _ _ _ _ _ _ _ rfl ?_; intro p3 RB TB; refine Hid.out ?_)
        replace BW := hide (BW.out.trans (TB.out.below (by omega) BW.out.size))
        have FIN : Hid (symR.ow p3 (New w p3) (cellD (1, nx) q2 x0.length cap2 gd x1.length cd 2 ge x3.length ce gf x4.length cf a5) R) := by
          have hh := cellD_ow (symR.ot OWN.out TB.out (fun q => by have := q.1; have := LX.out; omega)) (1, nx)
          rw [EQ1.out]
          have ts := TB.out.size
          have gs := VL.out
          exact symR.ov hh (fun b q => ⟨by have := q.1; have := LX.out; omega, by have := q.2; omega⟩)
        clear TB LZ
        refine hide ?_
        have y0 := RB.out.cell 0 _ rfl
        have y1 := RB.out.cell 1 _ rfl
        have y2 := RB.out.cell 2 _ rfl
        have y3 := RB.out.cell 3 _ rfl
        have y4 := RB.out.cell 4 _ rfl
        have y5 := RB.out.cell 5 _ rfl
        go_wp2
        exact bodyPost_ret (v := .agg #[.slice q2 x0.length cap2, .slice gd x1.length cd, .int .i64 1, .slice none 0 0, .slice none 0 0, .int .i64 nx]) (by simp [results, Try.results10, go_sem, y0, y1, y2, y3, y4, y5]) rfl ⟨_, rfl, FIN.out, BW.out⟩
      | false =>
        have EQ1 : Hid (R = symD (0, 0) (x0, x1, 2, x3, x4, a5)) := EQ.out.trans (by unfold endD; simp)
        have j0 := RX.out.cell 0 _ rfl
        have j1 := RX.out.cell 1 _ rfl
        have j2 := RX.out.cell 2 _ rfl
        have j3 := RX.out.cell 3 _ rfl
        have j4 := RX.out.cell 4 _ rfl
        have j5 := RX.out.cell 5 _ rfl
        have LZ : Hid (w.heap.size + 1 < _) := RZ.out.lt
        go_wp2_with (refine laySymSym rfl rfl _ _ rfl (w.heap.size + 1) _ _ _ _ _ _ RZ.out rfl _ _ _ _ _ _ _ _ _ _ _ _ _ _ rfl ?_; intro p4 RB TB; refine Hid.out ?_)
        replace BW := hide (BW.out.trans (TB.out.below (by omega) BW.out.size))
        have FIN : Hid (symR.ow p4 (New w p4) (cellD (0, 0) q2 x0.length cap2 gd x1.length cd 2 ge x3.length ce gf x4.length cf a5) R) := by
          have hh := cellD_ow (symR.ot OWN.out TB.out (fun q => by have := q.1; have := LX.out; omega)) (0, 0)
          rw [EQ1.out]
          have ts := TB.out.size
          have gs := VL.out
          exact symR.ov hh (fun b q => ⟨by have := q.1; have := LX.out; omega, by have := q.2; omega⟩)
        clear TB LZ
        refine hide ?_
        have y0 := RB.out.cell 0 _ rfl
        have y1 := RB.out.cell 1 _ rfl
        have y2 := RB.out.cell 2 _ rfl
        have y3 := RB.out.cell 3 _ rfl
        have y4 := RB.out.cell 4 _ rfl
        have y5 := RB.out.cell 5 _ rfl
        go_wp2
        exact bodyPost_ret (v := .agg #[.slice q2 x0.length cap2, .slice gd x1.length cd, .int .i64 2, .slice ge x3.length ce, .slice gf x4.length cf, .int .i64 a5]) (by simp [results, Try.results10, go_sem, y0, y1, y2, y3, y4, y5]) rfl ⟨_, rfl, FIN.out, BW.out⟩
    have b2 : (a2 == 2) = false := by simpa using e2
    by_cases e34 : a2 = 3 ∨ a2 = 4
    case neg =>
      have b3 : (a2 == 3) = false := by simp; omega
      have b4 : (a2 == 4) = false := by simp; omega
      have EQ1 : Hid (R = symD (0, 0) (x0, x1, a2, x3, x4, a5)) := EQ.out.trans (by unfold endD; rw [if_neg e2, if_neg e34])
      clear z0 z1 z2 z3 z4 z5
      have z0 := RS.out.cell 0 _ rfl
      have z1 := RS.out.cell 1 _ rfl
      have z2 := RS.out.cell 2 _ rfl
      have z3 := RS.out.cell 3 _ rfl
      have z4 := RS.out.cell 4 _ rfl
      have z5 := RS.out.cell 5 _ rfl
      have j0 := RX.out.cell 0 _ rfl
      have j1 := RX.out.cell 1 _ rfl
      have j2 := RX.out.cell 2 _ rfl
      have j3 := RX.out.cell 3 _ rfl
      have j4 := RX.out.cell 4 _ rfl
      have j5 := RX.out.cell 5 _ rfl
      have LZ : Hid (w.heap.size + 1 < _) := RZ.out.lt
      go_wp2_with (refine laySymSym rfl rfl _ _ rfl (w.heap.size + 1) _ _ _ _ _ _ RZ.out rfl _ _ _ _ _ _ _ _ _ _ _ _ _ _ rfl ?_; intro p5 RB TB; refine Hid.out ?_)
      replace BW := hide (BW.out.trans (TB.out.below (by omega) BW.out.size))
      have FIN : Hid (symR.ow p5 (New w p5) (cellD (0, 0) q2 x0.length cap2 gd x1.length cd a2 ge x3.length ce gf x4.length cf a5) R) := by
        have hh := cellD_ow (symR.ot OWN.out TB.out (fun q => by have := q.1; have := LX.out; omega)) (0, 0)
        rw [EQ1.out]
        have ts := TB.out.size
        have gs := VL.out
        exact symR.ov hh (fun b q => ⟨by have := q.1; have := LX.out; omega, by have := q.2; omega⟩)
      clear TB LZ
      refine hide ?_
      have y0 := RB.out.cell 0 _ rfl
      have y1 := RB.out.cell 1 _ rfl
      have y2 := RB.out.cell 2 _ rfl
      have y3 := RB.out.cell 3 _ rfl
      have y4 := RB.out.cell 4 _ rfl
      have y5 := RB.out.cell 5 _ rfl
      go_wp2
      exact bodyPost_ret (v := .agg #[.slice q2 x0.length cap2, .slice gd x1.length cd, .int .i64 a2, .slice ge x3.length ce, .slice gf x4.length cf, .int .i64 a5]) (by simp [results, Try.results10, go_sem, y0, y1, y2, y3, y4, y5]) rfl ⟨_, rfl, FIN.out, BW.out⟩
    have IFD : Hid (ifD a2 a5 bh (numP x3).1 (numP x4).1 (ordP x3 x4) (numP x3).2 (numP x4).2 = endD a2 a5 bh nx (numP x4).1 (ordP x3 x4) bx (numP x4).2) := by
      show _ = _
      unfold endD
      rw [if_neg e2, if_pos e34, NX1.out.1, NX1.out.2]
    obtain ⟨dd, edd⟩ : ∃ d, endD a2 a5 bh nx (numP x4).1 (ordP x3 x4) bx (numP x4).2 = d := ⟨_, rfl⟩
    rw [edd] at EQ IFD
    have EQ1 := EQ
    clear edd EQ
    have RDX : Hid (polyK.rd v12 (.slice ge x3.length ce) x3 ∧ polyK.rd v12 (.slice gf x4.length cf) x4) := by
      obtain ⟨_, _, _, _, _, _, _, _, _, _, _, _, ec, _, _, k3, k4, _⟩ := symR_own OWN.out
      cases ec
      exact ⟨polyK.od k3, polyK.od k4⟩
    clear z0 z1 z2 z3 z4 z5
    rcases e34 with e3 | e3
    · skip
      subst e3
      clear e2 b2
      have z0 := RS.out.cell 0 _ rfl
      have z1 := RS.out.cell 1 _ rfl
      have z2 := RS.out.cell 2 _ rfl
      have z3 := RS.out.cell 3 _ rfl
      have z4 := RS.out.cell 4 _ rfl
      have z5 := RS.out.cell 5 _ rfl
      have j0 := RX.out.cell 0 _ rfl
      have j1 := RX.out.cell 1 _ rfl
      have j2 := RX.out.cell 2 _ rfl
      have j3 := RX.out.cell 3 _ rfl
      have j4 := RX.out.cell 4 _ rfl
      have j5 := RX.out.cell 5 _ rfl
      go_wp2_with fail
      refine (l8If q2 x0.length cap2 gd x1.length cd 3 ge x3.length ce gf x4.length cf a5 bh x3 x4 _ RDX.out.1 RDX.out.2).mono ?_
      rintro e u14 ⟨rfl, hb⟩
      replace VL := hide (Nat.le_trans VL.out hb.size)
      rw [IFD.out]
      have EQ2 := hide (cellD_ow OWN.out dd)
      have FD : Hid (∃ m0 z0 d0 m1 z1 d1 i2 m3 z3 d3 m4 z4 d4 i5, cellD dd q2 x0.length cap2 gd x1.length cd 3 ge x3.length ce gf x4.length cf a5 = [.slice m0 z0 d0, .slice m1 z1 d1, .int .i64 i2, .slice m3 z3 d3, .slice m4 z4 d4, .int .i64 i5]) := by
        show ∃ _, _
        unfold cellD
        split
        · exact ⟨_, _, _, _, _, _, _, _, _, _, _, _, _, _, rfl⟩
        · split
          · exact ⟨_, _, _, _, _, _, _, _, _, _, _, _, _, _, rfl⟩
          · exact ⟨_, _, _, _, _, _, _, _, _, _, _, _, _, _, rfl⟩
      obtain ⟨m0, z0', d0, m1, z1', d1, i2, m3, z3', d3, m4, z4', d4, i5, eD⟩ := FD.out
      rw [eD] at EQ2 ⊢
      replace EQ2 := hide (symR.ob EQ2.out hb)
      have ER := EQ1.out
      subst ER
      clear FD eD IFD EQ1 RDX OWN
      clear z0 z1 z2 z3 z4 z5
      clear j0 j1 j2 j3 j4 j5
      clear RX
      replace RS := hide (RS.out.below hb)
      replace RZ := hide (RZ.out.below hb)
      replace BW := hide (BW.out.trans (hb.mono BW.out.size))
      clear hb
      have LZ : Hid (w.heap.size + 1 < _) := RZ.out.lt
      go_wp2_with (refine laySymSym rfl rfl _ _ rfl (w.heap.size + 1) _ _ _ _ _ _ RZ.out rfl _ _ _ _ _ _ _ _ _ _ _ _ _ _ rfl ?_; intro p6 RB TB; refine Hid.out ?_)
      replace BW := hide (BW.out.trans (TB.out.below (by omega) BW.out.size))
      have FIN : Hid (symR.ow p6 (New w p6) [.slice m0 z0' d0, .slice m1 z1' d1, .int .i64 i2, .slice m3 z3' d3, .slice m4 z4' d4, .int .i64 i5] (symD dd (x0, x1, 3, x3, x4, a5))) := by
        have hh := symR.ot EQ2.out TB.out (fun q => by have := q.1; have := LX.out; omega)
        have ts := TB.out.size
        have gs := VL.out
        exact symR.ov hh (fun b q => ⟨by have := q.1; have := LX.out; omega, by have := q.2; omega⟩)
      clear TB LZ
      refine hide ?_
      have y0 := RB.out.cell 0 _ rfl
      have y1 := RB.out.cell 1 _ rfl
      have y2 := RB.out.cell 2 _ rfl
      have y3 := RB.out.cell 3 _ rfl
      have y4 := RB.out.cell 4 _ rfl
      have y5 := RB.out.cell 5 _ rfl
      go_wp2
      exact bodyPost_ret (v := .agg #[.slice m0 z0' d0, .slice m1 z1' d1, .int .i64 i2, .slice m3 z3' d3, .slice m4 z4' d4, .int .i64 i5]) (by simp [results, Try.results10, go_sem, y0, y1, y2, y3, y4, y5]) rfl ⟨_, rfl, FIN.out, BW.out⟩
    · skip
      subst e3
      clear e2 b2
      have z0 := RS.out.cell 0 _ rfl
      have z1 := RS.out.cell 1 _ rfl
      have z2 := RS.out.cell 2 _ rfl
      have z3 := RS.out.cell 3 _ rfl
      have z4 := RS.out.cell 4 _ rfl
      have z5 := RS.out.cell 5 _ rfl
      have j0 := RX.out.cell 0 _ rfl
      have j1 := RX.out.cell 1 _ rfl
      have j2 := RX.out.cell 2 _ rfl
      have j3 := RX.out.cell 3 _ rfl
      have j4 := RX.out.cell 4 _ rfl
      have j5 := RX.out.cell 5 _ rfl
      go_wp2_with fail
      refine (l8If q2 x0.length cap2 gd x1.length cd 4 ge x3.length ce gf x4.length cf a5 bh x3 x4 _ RDX.out.1 RDX.out.2).mono ?_
      rintro e u14 ⟨rfl, hb⟩
      replace VL := hide (Nat.le_trans VL.out hb.size)
      rw [IFD.out]
      have EQ2 := hide (cellD_ow OWN.out dd)
      have FD : Hid (∃ m0 z0 d0 m1 z1 d1 i2 m3 z3 d3 m4 z4 d4 i5, cellD dd q2 x0.length cap2 gd x1.length cd 4 ge x3.length ce gf x4.length cf a5 = [.slice m0 z0 d0, .slice m1 z1 d1, .int .i64 i2, .slice m3 z3 d3, .slice m4 z4 d4, .int .i64 i5]) := by
        show ∃ _, _
        unfold cellD
        split
        · exact ⟨_, _, _, _, _, _, _, _, _, _, _, _, _, _, rfl⟩
        · split
          · exact ⟨_, _, _, _, _, _, _, _, _, _, _, _, _, _, rfl⟩
          · exact ⟨_, _, _, _, _, _, _, _, _, _, _, _, _, _, rfl⟩
      obtain ⟨m0, z0', d0, m1, z1', d1, i2, m3, z3', d3, m4, z4', d4, i5, eD⟩ := FD.out
      rw [eD] at EQ2 ⊢
      replace EQ2 := hide (symR.ob EQ2.out hb)
      have ER := EQ1.out
      subst ER
      clear FD eD IFD EQ1 RDX OWN
      clear z0 z1 z2 z3 z4 z5
      clear j0 j1 j2 j3 j4 j5
      clear RX
      replace RS := hide (RS.out.below hb)
      replace RZ := hide (RZ.out.below hb)
      replace BW := hide (BW.out.trans (hb.mono BW.out.size))
      clear hb
      have LZ : Hid (w.heap.size + 1 < _) := RZ.out.lt
      go_wp2_with (refine laySymSym rfl rfl _ _ rfl (w.heap.size + 1) _ _ _ _ _ _ RZ.out rfl _ _ _ _ _ _ _ _ _ _ _ _ _ _ rfl ?_; intro p7 RB TB; refine Hid.out ?_)
      replace BW := hide (BW.out.trans (TB.out.below (by omega) BW.out.size))
      have FIN : Hid (symR.ow p7 (New w p7) [.slice m0 z0' d0, .slice m1 z1' d1, .int .i64 i2, .slice m3 z3' d3, .slice m4 z4' d4, .int .i64 i5] (symD dd (x0, x1, 4, x3, x4, a5))) := by
        have hh := symR.ot EQ2.out TB.out (fun q => by have := q.1; have := LX.out; omega)
        have ts := TB.out.size
        have gs := VL.out
        exact symR.ov hh (fun b q => ⟨by have := q.1; have := LX.out; omega, by have := q.2; omega⟩)
      clear TB LZ
      refine hide ?_
      have y0 := RB.out.cell 0 _ rfl
      have y1 := RB.out.cell 1 _ rfl
      have y2 := RB.out.cell 2 _ rfl
      have y3 := RB.out.cell 3 _ rfl
      have y4 := RB.out.cell 4 _ rfl
      have y5 := RB.out.cell 5 _ rfl
      go_wp2
      exact bodyPost_ret (v := .agg #[.slice m0 z0' d0, .slice m1 z1' d1, .int .i64 i2, .slice m3 z3' d3, .slice m4 z4' d4, .int .i64 i5]) (by simp [results, Try.results10, go_sem, y0, y1, y2, y3, y4, y5]) rfl ⟨_, rfl, FIN.out, BW.out⟩
end Go.Proofs.Ytclccaigkcilcaa.Dt
