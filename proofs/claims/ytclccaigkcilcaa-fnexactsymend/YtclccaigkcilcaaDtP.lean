/-
  Plain data: sums and lists of sums, by kinds.
-/
import Derived.Test.YtclccaigkcilcaaDtM
namespace Go.Proofs.Ytclccaigkcilcaa.Dt
set_option linter.unusedVariables false
set_option linter.unusedSimpArgs false
open Go.ChangeShapes Go.WideShapes Go.ChangeAt Go.RowKit IntS Pol
def polyR : Rw (List Mono) := last polyK
theorem polyR_rd {w : World} {cs : List Value} {x0 : List Mono} (h : polyR.rd w cs x0) : ∃ (q0 : Option Addr) (c0 : Nat), cs = [.slice q0 x0.length c0] ∧ polyK.rd w (.slice q0 x0.length c0) x0 := by
  obtain ⟨v0, e0, k0⟩ := h
  obtain ⟨q0, c0, f0, _, _⟩ := LRd.form k0
  subst f0
  subst e0
  exact ⟨q0, c0, rfl, k0⟩
theorem polyR_mk {w : World} {x0 : List Mono} {v0 : Value} (k0 : polyK.rd w v0 x0) : polyR.rd w [v0] x0 := ⟨_, rfl, k0⟩
theorem polyR_own {w : World} {A : Nat → Prop} {cs : List Value} {x0 : List Mono} (h : polyR.ow w A cs x0) : ∃ (q0 : Option Addr) (c0 : Nat) (A0 : Nat → Prop), cs = [.slice q0 x0.length c0] ∧ polyK.ow w A0 (.slice q0 x0.length c0) x0 ∧ (∀ b, A0 b → A b) := by
  obtain ⟨v0, e0, k0⟩ := h
  obtain ⟨q0, c0, f0, _, _⟩ := LRd.form (polyK.od k0)
  subst f0
  subst e0
  exact ⟨q0, c0, A, rfl, k0, (fun b hb => hb)⟩
theorem polyR_omk {w : World} {A : Nat → Prop} {x0 : List Mono} {v0 : Value} {A0 : Nat → Prop} (k0 : polyK.ow w A0 v0 x0) (s0 : ∀ b, A0 b → A b)  : polyR.ow w A [v0] x0 := ⟨_, rfl, polyK.ov k0 s0⟩
theorem polyR_sz {x0 : List Mono} : polyR.sz x0 = polyK.sz x0 := rfl
set_option maxRecDepth 8000 in
set_option maxHeartbeats 4000000 in
theorem szTrmPoly (x0 : List Mono) (cs : List Value) (left : Int) (w : World) (h : polyR.rd w cs x0) (h0 : 0 ≤ left) (h1 : left ≤ 1048576) :
    Calls Try.prog 16 #[.agg cs.toArray, .int .i64 left] w fun e w' => ∃ r : Int, e = .returned (.int .i64 r) ∧ -1 ≤ r ∧ (0 ≤ r → r = left - (polyR.sz x0 : Nat)) ∧ Below w.heap.size w w' := by
  obtain ⟨q0, c0, rfl, k0⟩ := polyR_rd h
  have SZ := hide (polyR_sz (x0 := x0))
  obtain ⟨Z, eZ⟩ : ∃ Z, polyR.sz x0 = Z := ⟨_, rfl⟩
  rw [eZ] at SZ ⊢
  have bV : Below w.heap.size w (w.alloc (.cells #[.slice q0 x0.length c0] 26)) := (Below.refl _ _).alloc (Nat.le_refl _) _
  have RR := hide (Rec.new w [.slice q0 x0.length c0] 26)
  have H0 := hide (polyK.rb k0 bV)
  have BW := hide bV
  clear bV h eZ k0
  go_enter Try.func16, Try.ntmps16
  go_wp2_with fail
  refine (szTrmMonoS x0 _ left _ H0.out h0 h1).mono ?_
  rintro e u0 ⟨r0, rfl, p0, g0, hb⟩
  have G0 : Hid (0 ≤ r0 → r0 = left - (polyK.sz x0 : Nat)) := g0
  replace RR := hide (RR.out.below hb)
  replace BW := hide (BW.out.trans (hb.mono BW.out.size))
  clear g0 hb
  by_cases hs0 : r0 < 0
  · go_wp2
    go_ret
    exact ⟨-1, rfl, by omega, fun h => by omega, BW.out⟩
  have m0 : 0 ≤ r0 := by omega
  have b0 : r0 ≤ 1048576 := by have := G0.out m0; omega
  go_wp2
  go_ret
  exact ⟨r0, rfl, by omega, fun h => by have := SZ.out; have := G0.out m0; omega, BW.out⟩
set_option maxRecDepth 8000 in
set_option maxHeartbeats 4000000 in
theorem layTrmPoly {w : World} {ops : Array Oper} {rest : List Oper} {o : Oper} {a : Act} {Q : Exit → Act → World → Prop} (hgd : o.guard = none) (hds : o.dst = none) (x y : Operand) (ho : o.op = .store 35 x y)
    (Z : Nat) (y0 : Value) (hB : Rec Z [y0] w) (hx : a.eval x = .pointer (some ⟨Z, 0, none⟩)) (q0 : Option Addr) (n0 c0 : Nat) (hy : a.eval y = .agg #[.slice q0 n0 c0])
    (h : ∀ w' : World, Hid (Rec Z [.slice q0 n0 c0] w') → Hid (Turn Z w w') → wpList Try.prog ops Q rest a w') :
    wpList Try.prog ops Q (o :: rest) a w := by
  refine wpList_plain hgd fun K hK => ?_
  have z0 := hB.cell 0 _ rfl
  have s0 := hB.soft 0
  have key := hK _ _ (h _ (hB.set 0 (.slice q0 n0 c0) (by simp) (show _ = ([.slice q0 n0 c0] : List Value) from rfl)) ((Turn.refl Z w).setCell (p := ⟨Z, 0, none⟩) rfl (.slice q0 n0 c0)))
  obtain ⟨dst, op, ty, pos, aft, gd⟩ := o
  simp only [] at hgd hds ho
  subst hgd hds ho
  clear h hK
  unfold Oper.wp
  simp only [execOp, hx, hy]
  go_simp
  exact key
set_option maxRecDepth 8000 in
set_option maxHeartbeats 4000000 in
theorem putTrmPoly_0 {w : World} {ops : Array Oper} {rest : List Oper} {o : Oper} {a : Act} {Q : Exit → Act → World → Prop} (hgd : o.guard = none) (hds : o.dst = none) (x y : Operand) (ho : o.op = .store 33 x y)
    (Z i : Nat) (cs : List Value) (hB : Rec Z cs w) (hi : i < cs.length) (hx : a.eval x = .pointer (some ⟨Z, i, none⟩)) (q : Option Addr) (n c : Nat) (hy : a.eval y = .slice q n c)
    (h : ∀ w' : World, Hid (Rec Z (cs.set i (.slice q n c)) w') → Hid (Turn Z w w') → wpList Try.prog ops Q rest a w') :
    wpList Try.prog ops Q (o :: rest) a w := by
  refine wpList_plain hgd fun K hK => ?_
  have z0 := hB.cell i _ (List.getElem?_eq_getElem hi)
  have y0 := hB.soft i
  have key := hK _ _ (h _ (hB.set i (.slice q n c) hi rfl) ((Turn.refl Z w).setCell (p := ⟨Z, i, none⟩) rfl _))
  obtain ⟨dst, op, ty, pos, aft, gd⟩ := o
  simp only [] at hgd hds ho
  subst hgd hds ho
  clear h hK
  unfold Oper.wp
  simp only [execOp, hx, hy]
  go_simp
  exact key
set_option maxRecDepth 8000 in
set_option maxHeartbeats 8000000 in
theorem toTrmPoly (x0 : List Mono) (cs : List Value) (w : World) (h : polyR.rd w cs x0) (hs : polyR.sz x0 ≤ 1048576) :
    Calls Try.prog 22 #[.agg cs.toArray] w fun e w' => ∃ g0, e = .returned (.agg #[.slice (some ⟨g0, 0, none⟩) x0.length x0.length]) ∧ polyR.ow w' (New w w') [.slice (some ⟨g0, 0, none⟩) x0.length x0.length] x0 ∧ Below w.heap.size w w' := by
  obtain ⟨q0, c0, rfl, k0⟩ := polyR_rd h
  rw [polyR_sz] at hs
  have T := hide (Three.new w [.slice q0 x0.length c0] [.slice none 0 0] [.slice none 0 0] 26 35 35)
  have H0 := hide k0
  have S0 : Hid (polyK.sz x0 ≤ 1048576) := show _ ≤ _ by omega
  clear h hs k0
  go_enter Try.func22, Try.ntmps22
  go_wp2_with fail
  generalize ((w.alloc (.cells #[.slice q0 x0.length c0] 26)).alloc (.cells #[.slice none 0 0] 35)).alloc (.cells #[.slice none 0 0] 35) = c0 at T ⊢
  refine (toTrmMonoS x0 _ _ (polyK.rb H0.out T.out.bw) S0.out).mono ?_
  rintro e u0 ⟨g0, rfl, O0, hb⟩
  have W0 := hide O0
  clear O0
  have LO0 : Hid (w.heap.size + 1 + 1 < c0.heap.size) := T.out.o.lt
  have HI0 : Hid (u0.heap.size ≤ u0.heap.size) := Nat.le_refl _
  replace T := hide (T.out.below hb)
  clear hb H0 S0
  go_wp2_with (refine putTrmPoly_0 rfl rfl _ _ rfl (w.heap.size + 1 + 1) 0 _ T.out.o (by simp) rfl _ _ _ rfl ?_; intro v0 RB TB; refine Hid.out ?_)
  replace T := hide (three_fill T.out TB.out (O' := [.slice (some ⟨g0, 0, none⟩) x0.length x0.length]) RB.out)
  replace W0 := hide (polyK.ot W0.out TB.out (fun q => by have := LO0.out; have := q.1; omega))
  replace HI0 : Hid (u0.heap.size ≤ v0.heap.size) := Nat.le_trans HI0.out TB.out.size
  clear RB TB
  refine hide ?_
  have o0 := T.out.o.cell 0 _ rfl
  go_wp2_with (refine layTrmPoly rfl rfl _ _ rfl (w.heap.size + 1) _ T.out.z rfl _ _ _ rfl ?_; intro V RB TB; refine Hid.out ?_)
  replace W0 := hide (polyK.ot W0.out TB.out (fun q => by have := LO0.out; have := q.1; omega))
  replace HI0 : Hid (u0.heap.size ≤ V.heap.size) := Nat.le_trans HI0.out TB.out.size
  have BW := hide (T.out.bw.trans (TB.out.below (by omega) (Nat.le_of_lt T.out.a.lt)))
  have z0 := RB.out.cell 0 _ rfl
  have FIN := hide (polyR_omk (A := New w V) (x0 := x0) W0.out (fun b q => ⟨by have := LO0.out; have := q.1; omega, by have := HI0.out; have := q.2; omega⟩) )
  clear RB TB T o0
  refine hide ?_
  go_wp2
  exact bodyPost_ret (v := .agg #[.slice (some ⟨g0, 0, none⟩) x0.length x0.length]) (by simp [results, Try.results22, go_sem, z0]) rfl ⟨g0, rfl, FIN.out, BW.out⟩
set_option maxRecDepth 8000 in
set_option maxHeartbeats 4000000 in
theorem eqTrmPoly (x0 : List Mono) (cs cs' : List Value) (w : World) (h : polyR.rd w cs x0) (h' : polyR.rd w cs' x0) :
    Calls Try.prog 29 #[.agg cs.toArray, .agg cs'.toArray] w fun e w' => e = .returned (.bool true) ∧ Below w.heap.size w w' := by
  obtain ⟨q0, c0, rfl, k0⟩ := polyR_rd h
  obtain ⟨p0, d0, rfl, l0⟩ := polyR_rd h'
  have bV : Below w.heap.size w ((w.alloc (.cells #[.slice q0 x0.length c0] 35)).alloc (.cells #[.slice p0 x0.length d0] 35)) := ((Below.refl _ _).alloc (Nat.le_refl _) _).alloc (by simp) _
  have RR := hide ((Rec.new w [.slice q0 x0.length c0] 35).alloc (.cells #[.slice p0 x0.length d0] 35))
  have RS := Rec.new (w.alloc (.cells #[.slice q0 x0.length c0] 35)) [.slice p0 x0.length d0] 35
  rw [show (w.alloc (.cells #[.slice q0 x0.length c0] 35)).heap.size = w.heap.size + 1 by simp] at RS
  replace RS := hide RS
  have H0 := hide (polyK.rb k0 bV)
  have J0 := hide (polyK.rb l0 bV)
  have BW := hide bV
  clear bV h h' k0 l0
  go_enter Try.func29, Try.ntmps29
  go_wp2_with fail
  refine (eqTrmMonoS x0 _ _ _ H0.out J0.out).mono ?_
  rintro e u0 ⟨rfl, hb⟩
  replace RR := hide (RR.out.below hb)
  replace RS := hide (RS.out.below hb)
  replace BW := hide (BW.out.trans (hb.mono BW.out.size))
  clear hb
  have z0 := RR.out.cell 0 _ rfl
  have y0 := RS.out.cell 0 _ rfl
  go_wp2
  go_ret
  exact ⟨rfl, BW.out⟩
theorem polyR_nx {x0 : List Mono} : polyR.nx x0 = polyK.nx x0 := rfl
theorem polyR_mr {x0 : List Mono} (k : Int) : polyR.mr k x0 = (polyK.mr (k) x0) := rfl
set_option maxRecDepth 8000 in
set_option maxHeartbeats 4000000 in
theorem markTrmPoly (x0 : List Mono) (k : Int) (A : Nat → Prop) (cs : List Value) (w : World) (h : polyR.ow w A cs x0) (hA : ∀ b, A b → b < w.heap.size) (k0 : 0 ≤ k) (k1 : k + (polyR.nx x0 : Nat) ≤ 1000000000) :
    Calls Try.prog 41 #[.agg cs.toArray, .int .i64 k] w fun e w' => e = .returned (.int .i64 (k + (polyR.nx x0 : Nat))) ∧ polyR.ow w' A cs (polyR.mr k x0) ∧ Keep A w w' := by
  obtain ⟨q0, c0, A0, rfl, kk0, s0⟩ := polyR_own h
  rw [polyR_nx] at k1 ⊢
  rw [polyR_mr]
  have K1 := hide k1
  have bV : Below w.heap.size w (w.alloc (.cells #[.slice q0 x0.length c0] 35)) := (Below.refl _ _).alloc (Nat.le_refl _) _
  have RR := hide (Rec.new w [.slice q0 x0.length c0] 35)
  have H0 := hide (polyK.ob kk0 bV)
  have NB : Hid (¬ A w.heap.size) := fun q => by have := hA _ q; omega
  have KP : Hid (Keep A w _) := Keep.of_below bV
  obtain ⟨E, eE⟩ : ∃ E, k + ((polyK.nx x0 : Nat) : Int) = E := ⟨_, rfl⟩
  rw [eE]
  have EE := hide eE
  clear bV h k1 eE kk0
  have EL : Hid (k + (polyK.nx x0 : Nat) = E) := show _ = _ by have := EE.out; omega
  have eb : 0 ≤ E ∧ E ≤ 1000000000 := by have := EE.out; have := K1.out; omega
  go_enter Try.func41, Try.ntmps41
  go_wp2_with fail
  refine (markTrmMonoS x0 k A0 _ _ H0.out k0 (by have := K1.out; omega)).mono ?_
  rintro e u0 ⟨rfl, O0, hk⟩
  have W0 := hide O0
  clear O0
  replace RR := hide (RR.out.keep hk (fun q => NB.out (s0 _ q)))
  replace KP := hide (KP.out.trans (hk.mono (fun b _ q => s0 b q)))
  clear hk H0
  rw [EL.out]
  have FIN := hide (polyR_omk (A := A)  W0.out s0 )
  clear RR
  go_wp2
  go_ret
  exact ⟨rfl, FIN.out, KP.out⟩
set_option maxRecDepth 8000 in
set_option maxHeartbeats 4000000 in
theorem heldTrmPoly (x0 : List Mono) (k : Int) (cs : List Value) (w : World) (h : polyR.rd w cs (polyR.mr k x0)) (k0 : 0 ≤ k) (k1 : k + (polyR.nx x0 : Nat) ≤ 1000000000) :
    Calls Try.prog 44 #[.agg cs.toArray, .int .i64 k] w fun e w' => e = .returned (.int .i64 (k + (polyR.nx x0 : Nat))) ∧ Below w.heap.size w w' := by
  obtain ⟨q0, c0, rfl, kk0⟩ := polyR_rd (show polyR.rd w cs (polyK.mr (k) x0) from h)
  simp only [polyK_len] at kk0 ⊢
  rw [polyR_nx] at k1 ⊢
  have K1 := hide k1
  have bV : Below w.heap.size w (w.alloc (.cells #[.slice q0 x0.length c0] 35)) := (Below.refl _ _).alloc (Nat.le_refl _) _
  have RR := hide (Rec.new w [.slice q0 x0.length c0] 35)
  have H0 := hide (polyK.rb kk0 bV)
  have BW := hide bV
  obtain ⟨E, eE⟩ : ∃ E, k + ((polyK.nx x0 : Nat) : Int) = E := ⟨_, rfl⟩
  rw [eE]
  have EE := hide eE
  clear bV h k1 eE kk0
  have EL : Hid (k + (polyK.nx x0 : Nat) = E) := show _ = _ by have := EE.out; omega
  have eb : 0 ≤ E ∧ E ≤ 1000000000 := by have := EE.out; have := K1.out; omega
  go_enter Try.func44, Try.ntmps44
  go_wp2_with fail
  refine (heldTrmMonoS x0 k _ _ H0.out k0 (by have := K1.out; omega)).mono ?_
  rintro e u0 ⟨rfl, hb⟩
  replace RR := hide (RR.out.below hb)
  replace BW := hide (BW.out.trans (hb.mono BW.out.size))
  clear hb H0
  rw [EL.out]
  have nn0 : ¬ E < 0 := by omega
  go_wp2
  go_ret
  exact ⟨rfl, BW.out⟩
theorem sumsK_len (k : Int) (xs : List (List Mono)) : (sumsK.mr k xs).length = xs.length := markL_len xs k
set_option maxRecDepth 8000 in
set_option maxHeartbeats 4000000 in
theorem szTrmPolyS (xs : List (List Mono)) (v : Value) (left : Int) (w : World) (h : sumsK.rd w v xs) (h0 : 0 ≤ left) (h1 : left ≤ 1048576) :
    Calls Try.prog 15 #[v, .int .i64 left] w fun e w' => ∃ r : Int, e = .returned (.int .i64 r) ∧ -1 ≤ r ∧ (0 ≤ r → r = left - (sumsK.sz xs : Nat)) ∧ Below w.heap.size w w' := by
  obtain ⟨a, cap, B, off, rfl, h2, h3, hz, h4⟩ := h
  unfold maxLen at h3
  clear hz
  have SZ : Hid (sumsK.sz xs = xs.length + sum polyR.sz xs) := show _ = _ from rfl
  obtain ⟨Z, eZ⟩ : ∃ Z, sumsK.sz xs = Z := ⟨_, rfl⟩
  rw [eZ] at SZ ⊢
  clear eZ
  by_cases e1 : left < xs.length
  · have e2 : left - (xs.length : Int) < 0 := by omega
    clear h4 e1
    go_enter Try.func15, Try.ntmps15
    go_wp2
    go_ret
    exact ⟨-1, rfl, by omega, fun h => by omega, Below.refl _ _⟩
  have e2 : ¬ left - (xs.length : Int) < 0 := by omega
  obtain ⟨n, en⟩ : ∃ n, xs.length = n := ⟨_, rfl⟩
  have EN := hide en
  rw [en] at h2 e1 e2 SZ ⊢
  have H4 := hide h4
  clear en h4
  go_enter Try.func15, Try.ntmps15
  go_wp2
  go_loopw [1, 5] (fun l i wr => ∃ (k : Nat) (r : Int), k ≤ n ∧ i = .int .i64 k ∧ l = .int .i64 r ∧ 0 ≤ r ∧ r ≤ 1048576 ∧ Hid (r = left - n - (sum polyR.sz (xs.take k) : Nat)) ∧ Hid (Below w.heap.size w wr)) (fun _ i _ => n - (intOf i).toNat)
  case atStart => exact ⟨0, left - n, by omega, rfl, rfl, by omega, by omega, by show _ = _; simp [sum], Below.refl _ _⟩
  case round =>
    obtain ⟨k, r, hk, rfl, rfl, r0, r1, HR, HB⟩ := hrel
    by_cases hlt : k < n
    · obtain ⟨x, et⟩ : ∃ x, xs[k]? = some x := ⟨_, List.getElem?_eq_getElem (by rw [EN.out]; exact hlt)⟩
      obtain ⟨rfl, hc⟩ := H4.out.resolve_left (fun e => by rw [e] at et; simp at et)
      obtain ⟨cs, cc, hx⟩ := hc k x et
      replace cc := cc.below HB.out
      replace hx := polyR.rb hx HB.out
      have TN := hide (sum_take (f := polyR.sz) et)
      obtain ⟨x0, ex0⟩ : ∃ z, z = x := ⟨_, rfl⟩
      subst ex0
      have HX := hide hx
      obtain ⟨q0, c0, rfl, _⟩ := polyR_rd hx
      have z0 : wr.cell? ⟨B, off + k, none⟩ = some (.slice q0 x0.length c0) := by have this : wr.cell? ⟨B, off + k * 1 + 0, none⟩ = some (.slice q0 x0.length c0) := cc 0 _ rfl; rw [Nat.mul_one, Nat.add_zero] at this; exact this
      have lk : ((k : Nat) : Int) < (n : Nat) := by omega
      clear et hc hx cc
      go_wp2_with fail
      refine (szTrmPoly x0 _ r _ HX.out r0 r1).mono ?_
      rintro e u ⟨r', rfl, q0, hr, hb⟩
      have HR2 := hide hr
      have HB2 := hide (HB.out.trans (hb.mono HB.out.size))
      clear hb hr z0
      by_cases hs : r' < 0
      · go_wp2
        go_ret
        exact ⟨-1, rfl, by omega, fun h => by omega, HB2.out⟩
      · have HR3 : Hid (r' = left - n - (sum polyR.sz (xs.take (k + 1)) : Nat)) := show _ = _ by have := HR.out; have := TN.out; have := HR2.out (by omega); omega
        have rl : r' ≤ 1048576 := by have := HR2.out (by omega); omega
        go_wp2
        exact ⟨⟨k + 1, r', by omega, by go_num, rfl, by omega, rl, HR3, HB2⟩, by simp [intOf]; omega⟩
    · have HD : Hid (r = left - (Z : Nat)) := show _ = _ by
        have := HR.out
        rw [List.take_of_length_le (by rw [EN.out]; omega)] at this
        have := SZ.out
        omega
      go_wp2
      go_ret
      exact ⟨r, rfl, by omega, fun _ => HD.out, HB.out⟩
theorem makeTrmPolyS (n : Nat) (hn : n ≤ 1048576) (w : World) : (Instr.makeSlice 32 (.int .i64 (n : Int)) (.int .i64 (n : Int))).run Try.prog w = .ok (.slice (some ⟨w.heap.size, 0, none⟩) n n) (w.alloc (.cells (madeCells #[.slice none 0 0] (n * 1)) 35)) := by
  have hinfo : (Try.prog.info? 35).map (fun i => (i.zero, i.size, i.bytes)) = some (some (.agg #[.slice none 0 0]), 1, 24) := by kernel_rfl
  obtain ⟨i, hi, hzz⟩ := Option.map_eq_some_iff.1 hinfo
  simp only [Prod.mk.injEq] at hzz
  obtain ⟨hz, hs, hb⟩ := hzz
  have hr := run_make (P := Try.prog) w 32 35 i _ Try.underlying32 hi hz .i64 .i64 n n (by omega) (Int.le_refl _) (by rw [hb]; omega) (by omega)
  simp only [Int.toNat_natCast, hs] at hr
  exact hr
set_option maxRecDepth 8000 in
set_option maxHeartbeats 4000000 in
theorem toTrmPolyS (xs : List (List Mono)) (v : Value) (w : World) (h : sumsK.rd w v xs) (hs : sumsK.sz xs ≤ 1048576) :
    Calls Try.prog 21 #[v] w fun e w' => ∃ g, e = .returned (.slice (some ⟨g, 0, none⟩) xs.length xs.length) ∧ sumsK.ow w' (New w w') (.slice (some ⟨g, 0, none⟩) xs.length xs.length) xs ∧ Below w.heap.size w w' := by
  obtain ⟨a, cap, B, off, rfl, h2, h3, hz, h4⟩ := h
  unfold maxLen at h3
  clear hz
  replace hs : xs.length + sum polyR.sz xs ≤ 1048576 := hs
  obtain ⟨n, en⟩ : ∃ n, xs.length = n := ⟨_, rfl⟩
  have EN := hide en
  have hn : n ≤ 1048576 := by omega
  have HS : Hid (sum polyR.sz xs ≤ 1048576) := show _ ≤ _ by omega
  have M0 : Hid (Fill polyR w n xs 0 (w.alloc (.cells (madeCells #[.slice none 0 0] (n * 1)) 35))) := Fill.new polyR w n xs 35 #[.slice none 0 0] rfl
  have hmk := makeTrmPolyS n hn w
  rw [en] at h2 ⊢
  have GO : Hid (∀ V g, LOw polyR V (New w V) (.slice (some ⟨g, 0, none⟩) n n) xs → sumsK.ow V (New w V) (.slice (some ⟨g, 0, none⟩) n n) xs) := fun V g hV => hV
  have H4 := hide h4
  clear en h4 hs
  by_cases n0 : n = 0
  · subst n0
    have FF := hide (GO.out _ _ (M0.out.whole EN.out (by unfold maxLen; omega)))
    have FB := hide M0.out.below
    clear M0 H4 GO
    replace hmk : (Instr.makeSlice 32 (.int .i64 0) (.int .i64 0)).run Try.prog w = .ok (.slice (some ⟨w.heap.size, 0, none⟩) 0 0) (w.alloc (.cells (madeCells #[.slice none 0 0] (0 * 1)) 35)) := hmk
    generalize w.alloc (.cells (madeCells #[.slice none 0 0] (0 * 1)) 35) = U at hmk FF FB
    go_enter Try.func21, Try.ntmps21
    go_wp2
    refine wp_loop_rounds 1 ?_
    rw [rounds_succ]
    go_wp2
    go_ret
    exact ⟨w.heap.size, rfl, FF.out, FB.out⟩
  · obtain ⟨rfl, hc⟩ := H4.out.resolve_left (fun e => n0 (by rw [← EN.out, e]; rfl))
    have HC := hide hc
    clear hc H4
    generalize w.alloc (.cells (madeCells #[.slice none 0 0] (n * 1)) 35) = U at hmk M0
    go_enter Try.func21, Try.ntmps21
    go_wp2
    clear hmk
    go_loopw [4] (fun i wr => ∃ k : Nat, k ≤ n ∧ i = .int .i64 k ∧ Hid (Fill polyR w n xs k wr)) (fun i _ => n - (intOf i).toNat)
    case atStart => exact ⟨0, by omega, rfl, M0⟩
    case round =>
      obtain ⟨k, hk, rfl, HF⟩ := hrel
      by_cases hlt : k < n
      · obtain ⟨x, et⟩ : ∃ x, xs[k]? = some x := ⟨_, List.getElem?_eq_getElem (by rw [EN.out]; exact hlt)⟩
        obtain ⟨cs, cc, hx⟩ := HC.out k x et
        replace cc := cc.below HF.out.below
        replace hx := polyR.rb hx HF.out.below
        have LA : Hid (polyR.sz x ≤ 1048576) := show _ ≤ _ by have := sum_one (f := polyR.sz) et; have := HS.out; omega
        have ET := hide et
        obtain ⟨x0, ex0⟩ : ∃ z, z = x := ⟨_, rfl⟩
        subst ex0
        have HX := hide hx
        obtain ⟨q0, c0, rfl, _⟩ := polyR_rd hx
        have z0 : wr.cell? ⟨B, off + k, none⟩ = some (.slice q0 x0.length c0) := by have this : wr.cell? ⟨B, off + k * 1 + 0, none⟩ = some (.slice q0 x0.length c0) := cc 0 _ rfl; rw [Nat.mul_one, Nat.add_zero] at this; exact this
        have lk : ((k : Nat) : Int) < (n : Nat) := by omega
        clear et hx cc
        go_wp2_with fail
        refine (toTrmPoly x0 _ _ HX.out LA.out).mono ?_
        rintro e u ⟨g0, rfl, RX, hb⟩
        have NX := hide (Fill.next HF.out hlt ET.out hb RX)
        obtain ⟨y0, e0⟩ := HF.out.left (k) (by show _ < n * 1; omega)
        have p0 := cell_below hb e0
        have ff (i : Nat) (hi : i < n * 1) : u.frozen? ⟨w.heap.size, i, none⟩ = false := by rw [World.frozen?_of_block (w := wr) (a := ⟨w.heap.size, i, none⟩) (hb.block w.heap.size HF.out.lt)]; exact HF.out.soft _ hi
        have f0 := ff (k) (by omega)
        have lw : w.heap.size < u.heap.size := Nat.lt_of_lt_of_le HF.out.lt hb.size
        rw [show k * polyR.n = k from Nat.mul_one k] at NX
        simp only [setN, Nat.add_assoc, Nat.reduceAdd] at NX
        clear hb RX e0 z0 HF HX ff
        go_wp2
        exact ⟨⟨k + 1, by omega, by go_num, NX⟩, by simp [intOf]; omega⟩
      · obtain rfl : k = n := by omega
        have FF := hide (GO.out _ _ (HF.out.whole EN.out (by unfold maxLen; omega)))
        have FB := hide HF.out.below
        clear HF GO
        go_wp2
        go_ret
        exact ⟨w.heap.size, rfl, FF.out, FB.out⟩
set_option maxRecDepth 8000 in
set_option maxHeartbeats 4000000 in
theorem eqTrmPolyS (xs : List (List Mono)) (v v' : Value) (w : World) (h : sumsK.rd w v xs) (h' : sumsK.rd w v' xs) :
    Calls Try.prog 28 #[v, v'] w fun e w' => e = .returned (.bool true) ∧ Below w.heap.size w w' := by
  obtain ⟨a, cap, B, off, rfl, h2, h3, hz, h4⟩ := h
  obtain ⟨a', cap', B', off', rfl, h2', h3', hz', h4'⟩ := h'
  unfold maxLen at h3 h3'
  clear hz hz'
  obtain ⟨n, en⟩ : ∃ n, xs.length = n := ⟨_, rfl⟩
  have EN := hide en
  rw [en] at h2 h2' ⊢
  have H4 := hide h4
  have H4' := hide h4'
  have nn : ((n : Int) != (n : Int)) = false := by simp
  clear en h4 h4'
  go_enter Try.func28, Try.ntmps28
  by_cases n0 : n = 0
  · subst n0
    go_wp2
    refine wp_loop_rounds 1 ?_
    rw [rounds_succ]
    go_wp2
    go_ret
    exact ⟨rfl, Below.refl _ _⟩
  · obtain ⟨rfl, hc⟩ := H4.out.resolve_left (fun e => n0 (by rw [← EN.out, e]; rfl))
    obtain ⟨rfl, hc'⟩ := H4'.out.resolve_left (fun e => n0 (by rw [← EN.out, e]; rfl))
    have HC := hide hc
    have HC' := hide hc'
    clear hc hc' H4 H4'
    go_wp2
    go_loopw [5] (fun i wr => ∃ k : Nat, k ≤ n ∧ i = .int .i64 k ∧ Hid (Below w.heap.size w wr)) (fun i _ => n - (intOf i).toNat)
    case atStart => exact ⟨0, by omega, rfl, Below.refl _ _⟩
    case round =>
      obtain ⟨k, hk, rfl, HB⟩ := hrel
      by_cases hlt : k < n
      · obtain ⟨x, et⟩ : ∃ x, xs[k]? = some x := ⟨_, List.getElem?_eq_getElem (by rw [EN.out]; exact hlt)⟩
        obtain ⟨cs, cc, hx⟩ := HC.out k x et
        obtain ⟨cs', cc', hx'⟩ := HC'.out k x et
        have HB2 : Hid (Below w.heap.size w wr.drew) := HB.out.drew
        replace cc := cc.below HB2.out
        replace cc' := cc'.below HB2.out
        replace hx := polyR.rb hx HB2.out
        replace hx' := polyR.rb hx' HB2.out
        obtain ⟨x0, ex0⟩ : ∃ z, z = x := ⟨_, rfl⟩
        subst ex0
        have HX := hide hx
        have HX' := hide hx'
        obtain ⟨q0, c0, rfl, _⟩ := polyR_rd hx
        obtain ⟨p0, d0, rfl, _⟩ := polyR_rd hx'
        have z0 : wr.drew.cell? ⟨B, off + k, none⟩ = some (.slice q0 x0.length c0) := by have this : wr.drew.cell? ⟨B, off + k * 1 + 0, none⟩ = some (.slice q0 x0.length c0) := cc 0 _ rfl; rw [Nat.mul_one, Nat.add_zero] at this; exact this
        have y0 : wr.drew.cell? ⟨B', off' + k, none⟩ = some (.slice p0 x0.length d0) := by have this : wr.drew.cell? ⟨B', off' + k * 1 + 0, none⟩ = some (.slice p0 x0.length d0) := cc' 0 _ rfl; rw [Nat.mul_one, Nat.add_zero] at this; exact this
        have lk : ((k : Nat) : Int) < (n : Nat) := by omega
        clear et hx hx' cc cc'
        go_wp2_with fail
        refine region_tail 8 (by kernel_rfl) (by kernel_rfl) ?_
        simp only [List.take_succ_cons, List.take_zero, List.drop_succ_cons, List.drop_zero]
        repeat still_step
        refine wpStill_nil ?_
        go_wp2_with fail
        refine (eqTrmPoly x0 _ _ _ HX.out HX'.out).mono ?_
        rintro e u ⟨rfl, hb⟩
        have HB3 := hide (HB2.out.trans (hb.mono HB2.out.size))
        clear hb
        go_wp2
        exact ⟨⟨k + 1, by omega, by go_num, HB3⟩, by simp [intOf]; omega⟩
      · go_wp2
        go_ret
        exact ⟨rfl, HB.out⟩
set_option maxRecDepth 8000 in
set_option maxHeartbeats 8000000 in
theorem markTrmPolyS (xs : List (List Mono)) (k : Int) (A : Nat → Prop) (v : Value) (w : World) (h : sumsK.ow w A v xs) (k0 : 0 ≤ k) (k1 : k + (sumsK.nx xs : Nat) ≤ 1000000000) :
    Calls Try.prog 40 #[v, .int .i64 k] w fun e w' => e = .returned (.int .i64 (k + (sumsK.nx xs : Nat))) ∧ sumsK.ow w' A v (sumsK.mr k xs) ∧ Keep A w w' := by
  obtain ⟨a, G, off, cap, E, rfl, h⟩ := h
  have h2 := h.le
  have h3 := h.mx
  unfold maxLen at h3
  obtain ⟨n, en⟩ : ∃ n, xs.length = n := ⟨_, rfl⟩
  have EN := hide en
  replace k1 : k + (sum polyR.nx xs : Nat) ≤ 1000000000 := k1
  have HS := hide k1
  have HW := hide h
  rw [en] at h2 ⊢
  have ML : Hid ((markL polyR k xs).length = n) := show _ = _ by rw [markL_len, en]
  have MW : Hid (mixL polyR k xs n = markL polyR k xs) := show _ = _ by rw [← en]; exact mixL_whole xs k
  have GO : Hid (∀ V, LW polyR V A a G off cap E (mixL polyR k xs n) → sumsK.ow V A (.slice a n cap) (sumsK.mr k xs)) := fun V hV => ⟨a, G, off, cap, E, (by show _ = Value.slice a (markL polyR k xs).length cap; rw [ML.out]), by show LW polyR V A a G off cap E (markL polyR k xs); rw [← MW.out]; exact hV⟩
  have KX : Hid (sumsK.nx xs = sum polyR.nx xs) := show _ = _ from rfl
  rw [KX.out]
  obtain ⟨KE, eKE⟩ : ∃ KE, k + (sum polyR.nx xs : Nat) = KE := ⟨_, rfl⟩
  rw [eKE]
  have EKE := hide eKE
  obtain ⟨OUT, eO⟩ : ∃ O, sumsK.mr k xs = O := ⟨_, rfl⟩
  rw [eO] at GO ⊢
  clear en h eKE eO k1
  go_enter Try.func40, Try.ntmps40
  by_cases n0 : n = 0
  · subst n0
    have FF : Hid (sumsK.ow w A (.slice a 0 cap) OUT) := GO.out w (by rw [mixL_zero]; exact HW.out)
    have OZ : Hid (k = KE) := show _ = _ by rw [← EKE.out, show xs = [] from List.length_eq_zero_iff.1 EN.out]; simp [sum]
    clear GO
    go_wp2
    refine wp_loop_rounds 1 ?_
    rw [rounds_succ]
    go_wp2
    go_ret
    exact ⟨ret_int OZ.out, FF.out, Keep.refl _ _⟩
  · have hG := HW.out.at_.resolve_left (fun e => n0 (by rw [← EN.out, e]; rfl))
    obtain ⟨rfl, hG2⟩ := hG
    have GG := hide hG2
    clear hG2
    go_wp2
    go_loopw [1, 5] (fun q i wr => ∃ (j : Nat) (kk : Int), j ≤ n ∧ i = .int .i64 j ∧ q = .int .i64 kk ∧ Hid (kk = k + (sum polyR.nx (xs.take j) : Nat)) ∧ 0 ≤ kk ∧ kk ≤ 1000000000 ∧ Hid (LW polyR wr A (some ⟨G, off, none⟩) G off cap E (mixL polyR k xs j)) ∧ Hid (Keep A w wr)) (fun _ i _ => n - (intOf i).toNat)
    case atStart => exact ⟨0, k, by omega, rfl, rfl, by show _ = _; simp [sum], k0, by have := HS.out; omega, by show LW _ _ _ _ _ _ _ _ _; rw [mixL_zero]; exact HW.out, Keep.refl _ _⟩
    case round =>
      obtain ⟨j, kk, hj, rfl, rfl, HK, kk0, kk1, HP, HB⟩ := hrel
      by_cases hlt : j < n
      case neg =>
        obtain rfl : j = n := by omega
        have HD : Hid (kk = KE) := show _ = _ by rw [← EKE.out, HK.out, List.take_of_length_le (by rw [EN.out]; omega)]
        have FF := hide (GO.out wr HP.out)
        clear GO
        go_wp2
        go_ret
        exact ⟨ret_int HD.out, FF.out, HB.out⟩
      obtain ⟨x, et⟩ : ∃ x, xs[j]? = some x := ⟨_, List.getElem?_eq_getElem (by rw [EN.out]; exact hlt)⟩
      have em := (mixL_at (R := polyR) (k := k) (n := j) et).trans (by rw [if_neg (Nat.lt_irrefl _)])
      obtain ⟨cs, cc, cf, cx, cA, cG⟩ := HP.out.cells j x em
      have sz := sum_one (f := polyR.nx) et
      have ON := hide (sum_take (f := polyR.nx) et)
      have MX := hide (mixL_next (R := polyR) (k := k) et)
      have EM := hide em
      have KL : Hid (kk + (polyR.nx x : Nat) ≤ 1000000000) := show _ ≤ _ by have := HS.out; have := HK.out; omega
      obtain ⟨x0, ex0⟩ : ∃ z, z = x := ⟨_, rfl⟩
      subst ex0
      rw [polyR_nx] at ON KL
      rw [polyR_mr] at MX
      obtain ⟨q0, c0, A0, rfl, k0, s0⟩ := polyR_own cx
      have lw : G < wr.heap.size := Nat.lt_of_lt_of_le GG.out.2 HB.out.size
      have lj : ((j : Nat) : Int) < (n : Nat) := by omega
      have RA : Hid (RowAt wr wr G (off + j) 1 [.slice q0 x0.length c0]) := ⟨lw, by have := cc; rw [show off + j * polyR.n = off + j by show off + j * 1 = _; omega] at this; exact this, rfl, fun _ _ => rfl, fun _ => rfl⟩

      have NG : Hid (¬ A0 G ∧ True) := ⟨(fun q => cG (s0 _ q)), trivial⟩
      have KW : Hid (Keep (fun b => b = G ∨ E j b) wr wr) := Keep.refl _ _
      have H0 := hide k0
      have CA := hide cA
      clear et em sz cc cf cx cA cG k0
      have z0 : wr.cell? ⟨G, off + j, none⟩ = _ := RA.out.at_ 0 _ rfl
      go_wp2_with fail
      obtain ⟨k0_, ek0⟩ : ∃ z, kk = z := ⟨_, rfl⟩
      rw [ek0]
      have EK0 : Hid (k0_ = kk) := ek0.symm
      have kb0 : 0 ≤ k0_ ∧ k0_ + (polyK.nx x0 : Nat) ≤ 1000000000 := by have := KL.out; omega
      clear ek0
      refine (markTrmMonoS x0 k0_ A0 _ _ H0.out kb0.1 kb0.2).mono ?_
      rintro e u0 ⟨rfl, O0, hk⟩
      have W0 := hide O0
      replace RA := hide (RA.out.keep hk NG.out.1)
      replace KW := hide (KW.out.trans (hk.mono (fun b _ q => Or.inr (s0 b q))))
      clear O0 hk H0 z0
      obtain ⟨r0_, er0⟩ : ∃ z, k0_ + (polyK.nx x0 : Nat) = z := ⟨_, rfl⟩
      rw [er0]
      have ER0 : Hid (r0_ = k0_ + (polyK.nx x0 : Nat)) := er0.symm
      have rb0 : 0 ≤ r0_ ∧ r0_ ≤ 1000000000 := by omega
      clear er0
      have NW := LW.mark HP.out EM.out KW.out (by rw [show off + j * polyR.n = off + j by show off + j * 1 = _; omega]; exact RA.out.at_) (fun o ho => RA.out.far o (by rw [show off + j * polyR.n = off + j by show off + j * 1 = _; omega] at ho; exact ho)) RA.out.fr (polyR_omk (A := E j)  W0.out s0 )
      have NW2 : Hid (LW polyR u0 A (some ⟨G, off, none⟩) G off cap E (mixL polyR k xs (j + 1))) := show LW _ _ _ _ _ _ _ _ _ by
        rw [← MX.out]
        have eq : (polyK.mr k0_ x0) = (polyK.mr ((k + (sum polyR.nx (xs.take j) : Nat))) x0) := by
          have h0 := HK.out
          have q0_ : k0_ = (k + (sum polyR.nx (xs.take j) : Nat)) := by have := EK0.out; omega
          exact (congrArg (fun z => polyK.mr z x0) q0_)
        rw [← eq]
        exact NW
      have QK := hide (HB.out.trans (KW.out.mono (fun b _ q => by
        rcases q with q | q
        · subst q; exact GG.out.1
        · exact CA.out b q)))
      have QE : Hid (r0_ = k + (sum polyR.nx (xs.take (j + 1)) : Nat)) := show _ = _ by have := ON.out; have := HK.out; have := EK0.out; have := ER0.out; omega
      have b9 : 0 ≤ r0_ ∧ r0_ ≤ 1000000000 := by have := KL.out; have := EK0.out; have := ER0.out; omega
      clear NW RA KW W0 HP HB GO
      go_wp2
      exact ⟨⟨j + 1, r0_, by omega, by go_num, rfl, QE, b9.1, b9.2, NW2, QK⟩, by simp [intOf]; omega⟩
set_option maxRecDepth 8000 in
set_option maxHeartbeats 8000000 in
theorem heldTrmPolyS (xs : List (List Mono)) (k : Int) (v : Value) (w : World) (h : sumsK.rd w v (sumsK.mr k xs)) (k0 : 0 ≤ k) (k1 : k + (sumsK.nx xs : Nat) ≤ 1000000000) :
    Calls Try.prog 43 #[v, .int .i64 k] w fun e w' => e = .returned (.int .i64 (k + (sumsK.nx xs : Nat))) ∧ Below w.heap.size w w' := by
  replace h : LRd polyR w v (markL polyR k xs) := h
  obtain ⟨a, cap, B, off, rfl, h2, h3, hz, h4⟩ := h
  unfold maxLen at h3
  clear hz
  obtain ⟨n, en⟩ : ∃ n, xs.length = n := ⟨_, rfl⟩
  have EN := hide en
  replace k1 : k + (sum polyR.nx xs : Nat) ≤ 1000000000 := k1
  have HS := hide k1
  rw [markL_len, en] at h2 ⊢
  have H4 := hide h4
  have KX : Hid (sumsK.nx xs = sum polyR.nx xs) := show _ = _ from rfl
  rw [KX.out]
  obtain ⟨KE, eKE⟩ : ∃ KE, k + (sum polyR.nx xs : Nat) = KE := ⟨_, rfl⟩
  rw [eKE]
  have EKE := hide eKE
  clear en h4 eKE k1
  go_enter Try.func43, Try.ntmps43
  by_cases n0 : n = 0
  · subst n0
    have OZ : Hid (k = KE) := show _ = _ by rw [← EKE.out, show xs = [] from List.length_eq_zero_iff.1 EN.out]; simp [sum]
    go_wp2
    refine wp_loop_rounds 1 ?_
    rw [rounds_succ]
    go_wp2
    go_ret
    exact ⟨ret_int OZ.out, Below.refl _ _⟩
  · obtain ⟨rfl, hc⟩ := H4.out.resolve_left (fun e => n0 (by have := congrArg List.length e; rw [markL_len, EN.out] at this; exact this))
    have HC := hide hc
    clear hc H4
    go_wp2
    go_loopw [1, 5] (fun q i wr => ∃ (j : Nat) (kk : Int), j ≤ n ∧ i = .int .i64 j ∧ q = .int .i64 kk ∧ Hid (kk = k + (sum polyR.nx (xs.take j) : Nat)) ∧ 0 ≤ kk ∧ kk ≤ 1000000000 ∧ Hid (Below w.heap.size w wr)) (fun _ i _ => n - (intOf i).toNat)
    case atStart => exact ⟨0, k, by omega, rfl, rfl, by show _ = _; simp [sum], k0, by have := HS.out; omega, Below.refl _ _⟩
    case round =>
      obtain ⟨j, kk, hj, rfl, rfl, HK, kk0, kk1, HB⟩ := hrel
      by_cases hlt : j < n
      case neg =>
        obtain rfl : j = n := by omega
        have HD : Hid (kk = KE) := show _ = _ by rw [← EKE.out, HK.out, List.take_of_length_le (by rw [EN.out]; omega)]
        go_wp2
        go_ret
        exact ⟨ret_int HD.out, HB.out⟩
      obtain ⟨x, et⟩ : ∃ x, xs[j]? = some x := ⟨_, List.getElem?_eq_getElem (by rw [EN.out]; exact hlt)⟩
      obtain ⟨cs, cc, hx⟩ := HC.out j _ (markL_at et)
      replace cc := cc.below HB.out
      replace hx := polyR.rb hx HB.out
      have sz := sum_one (f := polyR.nx) et
      have ON := hide (sum_take (f := polyR.nx) et)
      have KL : Hid (kk + (polyR.nx x : Nat) ≤ 1000000000) := show _ ≤ _ by have := HS.out; have := HK.out; omega
      rw [← HK.out] at hx
      obtain ⟨x0, ex0⟩ : ∃ z, z = x := ⟨_, rfl⟩
      subst ex0
      rw [polyR_nx] at ON KL
      rw [polyR_mr] at hx
      obtain ⟨k0_, ek0⟩ : ∃ z, kk = z := ⟨_, rfl⟩
      rw [ek0] at hx
      obtain ⟨r0_, er0⟩ : ∃ z, k0_ + (polyK.nx x0 : Nat) = z := ⟨_, rfl⟩
      try rw [er0] at hx
      have EK0 : Hid (k0_ = kk) := ek0.symm
      have ER0 : Hid (r0_ = k0_ + (polyK.nx x0 : Nat)) := er0.symm
      have kb0 : 0 ≤ k0_ ∧ k0_ + (polyK.nx x0 : Nat) ≤ 1000000000 := by have := KL.out; omega
      have rb0 : 0 ≤ r0_ ∧ r0_ ≤ 1000000000 := by omega
      have nn0 : ¬ r0_ < 0 := by omega
      obtain ⟨q0, c0, rfl, k0⟩ := polyR_rd hx
      simp only [polyK_len] at k0 cc
      have z0 : wr.cell? ⟨B, off + j, none⟩ = some (.slice q0 x0.length c0) := by have this : wr.cell? ⟨B, off + j * 1 + 0, none⟩ = some (.slice q0 x0.length c0) := cc 0 _ rfl; rw [Nat.mul_one, Nat.add_zero] at this; exact this
      have Z0 := hide z0
      have H0 := hide k0
      have lj : ((j : Nat) : Int) < (n : Nat) := by omega
      clear et sz hx cc k0 er0
      go_wp2_with fail
      try rw [ek0]
      refine (heldTrmMonoS x0 k0_ _ _ H0.out kb0.1 kb0.2).mono ?_
      rintro e u0 ⟨rfl, hb⟩
      rw [← ER0.out]
      replace HB := hide (HB.out.trans (hb.mono HB.out.size))
      replace Z0 := hide (cell_below hb Z0.out)
      replace z0 := Z0.out
      clear hb H0 ek0
      have QE : Hid (r0_ = k + (sum polyR.nx (xs.take (j + 1)) : Nat)) := show _ = _ by have := ON.out; have := HK.out; have := EK0.out; have := ER0.out; omega
      have b9 : 0 ≤ r0_ ∧ r0_ ≤ 1000000000 := by have := KL.out; have := EK0.out; have := ER0.out; omega
      go_wp2
      exact ⟨⟨j + 1, r0_, by omega, by go_num, rfl, QE, b9.1, b9.2, HB⟩, by simp [intOf]; omega⟩
set_option maxRecDepth 8000 in
theorem polyR_hold {w : World} {n : Nat} {cs : List Value} (h : Shape.Holds Try.prog w (n + 5) 26 cs) : ∃ x0, polyR.rd w cs x0 := by
  obtain ⟨hl, hf⟩ := Shape.holds_struct (n := n + 4) Try.underlying26 h
  have em : Try.prog.cellsOf 26 = 1 := by kernel_rfl
  rw [em] at hl
  have ec0 : Try.prog.cellsOf 24 = 1 := by kernel_rfl
  obtain ⟨v0, x0, e0, k0⟩ := polyK_hold (n := n + 0) (hf _ (List.mem_of_getElem? (i := 0) rfl))
  match cs, hl with
  | [c0], _ =>
    simp [ec0] at e0
    subst e0
    exact ⟨x0, polyR_mk k0⟩
set_option maxRecDepth 8000 in
theorem sumsK_hold {w : World} {n : Nat} {cs : List Value} (h : Shape.Holds Try.prog w (n + 6) 23 cs) : ∃ v xs, cs = [v] ∧ sumsK.rd w v xs :=
  list_hold (R := polyR) (n := n + 5) Try.underlying23 (by kernel_rfl) (by decide) h (fun ys hy => by
    obtain ⟨x0, hq⟩ := polyR_hold (n := n) hy
    exact ⟨_, hq⟩)
end Go.Proofs.Ytclccaigkcilcaa.Dt
