/-
  Pairs: the specification's CerHas.
-/
import Derived.Test.YthlpndligadnjaaCaH
import Derived.Test.YthlpndligadnjaaPhaseIn
namespace Go.Proofs.Ythlpndligadnjaa.Dt
set_option linter.unusedVariables false
set_option linter.unusedSimpArgs false
open Go.ChangeShapes Go.WideShapes Go.ChangeAt Go.RowKit IntS Pol Push Flat Irk
open Ir (Opn Bk bv ORow WORow RBk WBk OpAt SoftAt)
set_option maxRecDepth 8000 in
set_option maxHeartbeats 16000000 in
theorem specCerHas (xs : List (Int × Int × List Opn × Int × Int × Int × Int × Int × Int × List Opn × Int × Int × Int × Int)) (b0 b1 : Int) (y2 : List Opn) (b3 b4 b5 b6 : Int) (m0 m1 : Int) (o2 : List Opn) (m3 m4 m5 m6 : Int) (qb : Option Addr) (cb : Nat) (qm : Option Addr) (cm : Nat) (v : Value) (w : World) (h : cerK.rd w v xs) (hs : cerK.sz xs ≤ 1048576) (hy : opsK.rd w (.slice qb y2.length cb) y2) (hz0 : opsK.rd w (.slice qm o2.length cm) o2) :
    Calls Try.prog 28 #[v, .agg #[.int .i64 b0, .int .i64 b1, .slice qb y2.length cb, .int .i64 b3, .int .i64 b4, .int .i64 b5, .int .i64 b6], .agg #[.int .i64 m0, .int .i64 m1, .slice qm o2.length cm, .int .i64 m3, .int .i64 m4, .int .i64 m5, .int .i64 m6]] w fun e w' => e = .returned (.bool (xs.any (pairP (⟨b0, b1, y2, b3, b4, b5, b6⟩ : Bk) (⟨m0, m1, o2, m3, m4, m5, m6⟩ : Bk)))) ∧ Below w.heap.size w w' := by
  have SM : Hid (∀ (i : Nat) x, xs[i]? = some x → cerR.sz x ≤ 1048576) := fun i x hx => by have h1 := sum_one (f := cerR.sz) hx; have h2 : cerK.sz xs = xs.length + sum cerR.sz xs := rfl; omega
  have LN0 : xs.length ≤ 1048576 := by have h2 : cerK.sz xs = xs.length + sum cerR.sz xs := rfl; omega
  obtain ⟨a, cap0, B, off, rfl, h2, h3, hz, h4⟩ := h
  unfold maxLen at h3
  clear hz hs
  obtain ⟨n, en⟩ : ∃ n, xs.length = n := ⟨_, rfl⟩
  have EN := hide en
  rw [en] at h2 LN0
  have H4 := hide h4
  clear h4
  obtain ⟨M, eM⟩ : ∃ M, xs.any (pairP (⟨b0, b1, y2, b3, b4, b5, b6⟩ : Bk) (⟨m0, m1, o2, m3, m4, m5, m6⟩ : Bk)) = M := ⟨_, rfl⟩
  rw [eM]
  have EM : Hid ((xs.drop 0).any (pairP (⟨b0, b1, y2, b3, b4, b5, b6⟩ : Bk) (⟨m0, m1, o2, m3, m4, m5, m6⟩ : Bk)) = M) := eM
  have bo0 : Below w.heap.size w ((w.alloc (.cells #[.int .i64 b0, .int .i64 b1, .slice qb y2.length cb, .int .i64 b3, .int .i64 b4, .int .i64 b5, .int .i64 b6] 39)).alloc (.cells #[.int .i64 m0, .int .i64 m1, .slice qm o2.length cm, .int .i64 m3, .int .i64 m4, .int .i64 m5, .int .i64 m6] 39)) := (boxC _ _).alloc (by simp) _
  have RB := (Rec.new w [.int .i64 b0, .int .i64 b1, .slice qb y2.length cb, .int .i64 b3, .int .i64 b4, .int .i64 b5, .int .i64 b6] 39).alloc (.cells #[.int .i64 m0, .int .i64 m1, .slice qm o2.length cm, .int .i64 m3, .int .i64 m4, .int .i64 m5, .int .i64 m6] 39)
  have RM0 := Rec.new (w.alloc (.cells #[.int .i64 b0, .int .i64 b1, .slice qb y2.length cb, .int .i64 b3, .int .i64 b4, .int .i64 b5, .int .i64 b6] 39)) [.int .i64 m0, .int .i64 m1, .slice qm o2.length cm, .int .i64 m3, .int .i64 m4, .int .i64 m5, .int .i64 m6] 39
  rw [show (w.alloc (.cells #[.int .i64 b0, .int .i64 b1, .slice qb y2.length cb, .int .i64 b3, .int .i64 b4, .int .i64 b5, .int .i64 b6] 39)).heap.size = w.heap.size + 1 by simp] at RM0
  have RA0 := hide (And.intro RB RM0)
  have BW0 := hide bo0
  have HY := hide hy
  have HZ := hide hz0
  clear eM en hy hz0 bo0 RB RM0
  go_enter Try.func28, Try.ntmps28
  go_wp2
  rw [EN.out]
  generalize ((w.alloc (.cells #[.int .i64 b0, .int .i64 b1, .slice qb y2.length cb, .int .i64 b3, .int .i64 b4, .int .i64 b5, .int .i64 b6] 39)).alloc (.cells #[.int .i64 m0, .int .i64 m1, .slice qm o2.length cm, .int .i64 m3, .int .i64 m4, .int .i64 m5, .int .i64 m6] 39)) = W0 at RA0 BW0 ⊢
  go_loopw [7] (fun i wr => ∃ k : Nat, k ≤ n ∧ i = .int .i64 k ∧ Hid ((xs.drop k).any (pairP (⟨b0, b1, y2, b3, b4, b5, b6⟩ : Bk) (⟨m0, m1, o2, m3, m4, m5, m6⟩ : Bk)) = M) ∧ Hid (Rec w.heap.size [.int .i64 b0, .int .i64 b1, .slice qb y2.length cb, .int .i64 b3, .int .i64 b4, .int .i64 b5, .int .i64 b6] wr ∧ Rec (w.heap.size + 1) [.int .i64 m0, .int .i64 m1, .slice qm o2.length cm, .int .i64 m3, .int .i64 m4, .int .i64 m5, .int .i64 m6] wr) ∧ Hid (Below w.heap.size w wr)) (fun i _ => n - (intOf i).toNat)
  case atStart => exact ⟨0, by omega, rfl, EM, RA0, BW0⟩
  case round =>
    clear EM BW0 RA0
    obtain ⟨k, hk, rfl, EM, RA, BW⟩ := hrel
    by_cases hlt : k < n
    case neg =>
      obtain rfl : k = n := by omega
      have e := EM.out
      rw [any_end (by rw [EN.out]; exact Nat.le_refl _)] at e
      have EZ := hide e
      clear e EM
      go_wp2
      go_ret
      exact ⟨by rw [← EZ.out]; rfl, BW.out⟩
    obtain ⟨x, et⟩ : ∃ x, xs[k]? = some x := ⟨_, List.getElem?_eq_getElem (by rw [EN.out]; exact hlt)⟩
    obtain ⟨rfl, hc⟩ := H4.out.resolve_left (fun e => by rw [e] at et; simp at et)
    obtain ⟨ds, cc, hx⟩ := hc k x et
    have SX := SM.out k x et
    have ET := hide et
    replace cc := cc.below BW.out
    have HX0 := hide hx
    replace hx := cerR.rb hx BW.out
    obtain ⟨a0, a1, x2, a3, a4, a5, a6, a7, a8, x9, a10, a11, a12, a13⟩ := x
    obtain ⟨q2, c2, q9, c9, rfl, k2, k9⟩ := cerR_rd hx
    rw [cerR_sz] at SX
    rw [show opsK.sz x2 = x2.length from rfl] at SX
    rw [show opsK.sz x9 = x9.length from rfl] at SX
    have S2 : Hid (x2.length ≤ 2097152) := show _ ≤ _ by omega
    have S9 : Hid (x9.length ≤ 2097152) := show _ ≤ _ by omega
    have lk : ((k : Nat) : Int) < (n : Nat) := by omega
    have CC : CellsAt wr B (off + k * 14) [.int .i64 a0, .int .i64 a1, .slice q2 x2.length c2, .int .i64 a3, .int .i64 a4, .int .i64 a5, .int .i64 a6, .int .i64 a7, .int .i64 a8, .slice q9 x9.length c9, .int .i64 a10, .int .i64 a11, .int .i64 a12, .int .i64 a13] := cc
    clear et hc hx SX cc
    have e := EM.out
    rw [any_step ET.out] at e
    obtain ⟨r1, e1⟩ : ∃ r, Ir.sameBk (⟨a0, a1, x2, a3, a4, a5, a6⟩ : Bk) (⟨b0, b1, y2, b3, b4, b5, b6⟩ : Bk) = r := ⟨_, rfl⟩
    obtain ⟨r2, e2⟩ : ∃ r, Ir.sameBk (⟨a7, a8, x9, a10, a11, a12, a13⟩ : Bk) (⟨m0, m1, o2, m3, m4, m5, m6⟩ : Bk) = r := ⟨_, rfl⟩
    rw [show (pairP (⟨b0, b1, y2, b3, b4, b5, b6⟩ : Bk) (⟨m0, m1, o2, m3, m4, m5, m6⟩ : Bk)) (a0, a1, x2, a3, a4, a5, a6, a7, a8, x9, a10, a11, a12, a13) = (r1 && r2) by rw [← e1, ← e2]; rfl] at e
    have EZ := hide e
    have E1 := hide e1
    have E2 := hide e2
    clear e EM e1 e2 S2 S9 HX0 ET
    go_wp2_with fail
    have bA : Below wr.heap.size wr wr.drew := (Below.refl _ _).drew
    have RD := hide (And.intro (RA.out.1.below bA) (RA.out.2.below bA))
    have BD := hide (BW.out.trans (bA.mono BW.out.size))
    have K2 := hide (opsK.rb k2 bA)
    have K9 := hide (opsK.rb k9 bA)
    have hCC : CellsAt wr.drew B (off + k * 14) [.int .i64 a0, .int .i64 a1, .slice q2 x2.length c2, .int .i64 a3, .int .i64 a4, .int .i64 a5, .int .i64 a6, .int .i64 a7, .int .i64 a8, .slice q9 x9.length c9, .int .i64 a10, .int .i64 a11, .int .i64 a12, .int .i64 a13] := CC
    clear bA k2 k9 RA BW CC
    refine (wpIn_wide (n := 0)).1 ?_
    refine PhaseIn.region (S := fun v => (Rec w.heap.size [.int .i64 b0, .int .i64 b1, .slice qb y2.length cb, .int .i64 b3, .int .i64 b4, .int .i64 b5, .int .i64 b6] v ∧ Rec (w.heap.size + 1) [.int .i64 m0, .int .i64 m1, .slice qm o2.length cm, .int .i64 m3, .int .i64 m4, .int .i64 m5, .int .i64 m6] v) ∧ CellsAt v B (off + k * 14) [.int .i64 a0, .int .i64 a1, .slice q2 x2.length c2, .int .i64 a3, .int .i64 a4, .int .i64 a5, .int .i64 a6, .int .i64 a7, .int .i64 a8, .slice q9 x9.length c9, .int .i64 a10, .int .i64 a11, .int .i64 a12, .int .i64 a13]) 16 (by kernel_rfl) ?_
    generalize wr.drew = wd at RD BD K2 K9 hCC ⊢
    have hHeld := And.intro RD.out hCC
    clear hCC
    refine PhaseIn.takeD (i := 0) (v := ?_) [0, 2, 3, 4, 6, 7, 8, 9, 10, 11, 12, 13, 14, 15] 14 rfl (by rfl) (by kernel_rfl) (by kernel_rfl) (by kernel_rfl) (by kernel_rfl) (by kernel_rfl) (fun _ _ _ h => h) (Or.inl ⟨by kernel_rfl, ?_⟩) hHeld ?_
    rotate_left
    · intro w' hSw
      (try dsimp only at hSw)
      go_simp
      first | done | with_reducible rfl
    try simp only [Act.put, List.setIfInBounds_toArray, List.set]
    refine PhaseIn.takeD (i := 1) (v := ?_) [1, 2, 3, 4, 6, 7, 8, 9, 10, 11, 12, 13, 14, 15] 15 rfl (by rfl) (by kernel_rfl) (by kernel_rfl) (by kernel_rfl) (by kernel_rfl) (by kernel_rfl) (fun _ _ _ h => h) (Or.inl ⟨by kernel_rfl, ?_⟩) hHeld ?_
    rotate_left
    · intro w' hSw
      (try dsimp only at hSw)
      go_simp
      first | done | with_reducible rfl
    try simp only [Act.put, List.setIfInBounds_toArray, List.set]
    refine PhaseIn.takeD (i := 2) (v := ?_) [2, 3, 4, 6, 7, 8, 9, 10, 11, 12, 13, 14, 15] 16 rfl (by rfl) (by kernel_rfl) (by kernel_rfl) (by kernel_rfl) (by kernel_rfl) (by kernel_rfl) (fun _ _ _ h => h) (Or.inl ⟨by kernel_rfl, ?_⟩) hHeld ?_
    rotate_left
    · intro w' hSw
      (try dsimp only at hSw)
      go_simp
      first | done | with_reducible rfl
    try simp only [Act.put, List.setIfInBounds_toArray, List.set]
    refine PhaseIn.takeD (i := 3) (v := ?_) [3, 4, 6, 7, 8, 9, 10, 11, 12, 13, 14, 15] 17 rfl (by rfl) (by kernel_rfl) (by kernel_rfl) (by kernel_rfl) (by kernel_rfl) (by kernel_rfl) (fun _ _ _ h => h) (Or.inl ⟨by kernel_rfl, ?_⟩) hHeld ?_
    rotate_left
    · intro w' hSw
      (try dsimp only at hSw)
      go_simp
      first | done | with_reducible rfl
    try simp only [Act.put, List.setIfInBounds_toArray, List.set]
    refine PhaseIn.takeD (i := 4) (v := ?_) [4, 6, 7, 8, 9, 10, 11, 12, 13, 14, 15] 18 rfl (by rfl) (by kernel_rfl) (by kernel_rfl) (by kernel_rfl) (by kernel_rfl) (by kernel_rfl) (fun _ _ _ h => h) (Or.inl ⟨by kernel_rfl, ?_⟩) hHeld ?_
    rotate_left
    · intro w' hSw
      (try dsimp only at hSw)
      have z0 : w'.cell? ⟨B, off + k * 14, none⟩ = some _ := hSw.2 0 _ rfl; have z1 : w'.cell? ⟨B, off + k * 14 + 1, none⟩ = some _ := hSw.2 1 _ rfl; have z2 : w'.cell? ⟨B, off + k * 14 + 2, none⟩ = some _ := hSw.2 2 _ rfl; have z3 : w'.cell? ⟨B, off + k * 14 + 3, none⟩ = some _ := hSw.2 3 _ rfl; have z4 : w'.cell? ⟨B, off + k * 14 + 4, none⟩ = some _ := hSw.2 4 _ rfl; have z5 : w'.cell? ⟨B, off + k * 14 + 5, none⟩ = some _ := hSw.2 5 _ rfl; have z6 : w'.cell? ⟨B, off + k * 14 + 6, none⟩ = some _ := hSw.2 6 _ rfl; have z7 : w'.cell? ⟨B, off + k * 14 + 7, none⟩ = some _ := hSw.2 7 _ rfl; have z8 : w'.cell? ⟨B, off + k * 14 + 8, none⟩ = some _ := hSw.2 8 _ rfl; have z9 : w'.cell? ⟨B, off + k * 14 + 9, none⟩ = some _ := hSw.2 9 _ rfl; have z10 : w'.cell? ⟨B, off + k * 14 + 10, none⟩ = some _ := hSw.2 10 _ rfl; have z11 : w'.cell? ⟨B, off + k * 14 + 11, none⟩ = some _ := hSw.2 11 _ rfl; have z12 : w'.cell? ⟨B, off + k * 14 + 12, none⟩ = some _ := hSw.2 12 _ rfl; have z13 : w'.cell? ⟨B, off + k * 14 + 13, none⟩ = some _ := hSw.2 13 _ rfl
      go_simp
      first | done | with_reducible rfl
    try simp only [Act.put, List.setIfInBounds_toArray, List.set]
    refine PhaseIn.takeD (i := 5) (v := ?_) [5, 6, 7, 8, 9, 10, 11, 12, 13, 14, 15] 19 rfl (by rfl) (by kernel_rfl) (by kernel_rfl) (by kernel_rfl) (by kernel_rfl) (by kernel_rfl) (fun _ _ _ h => h) (Or.inl ⟨by kernel_rfl, ?_⟩) hHeld ?_
    rotate_left
    · intro w' hSw
      (try dsimp only at hSw)
      have y0 := hSw.1.1.cell 0 _ rfl; have y1 := hSw.1.1.cell 1 _ rfl; have y2 := hSw.1.1.cell 2 _ rfl; have y3 := hSw.1.1.cell 3 _ rfl; have y4 := hSw.1.1.cell 4 _ rfl; have y5 := hSw.1.1.cell 5 _ rfl; have y6 := hSw.1.1.cell 6 _ rfl
      go_simp
      first | done | with_reducible rfl
    try simp only [Act.put, List.setIfInBounds_toArray, List.set]
    refine PhaseIn.one (i := 6) (by kernel_rfl) rfl (by kernel_rfl) (fun K hK => ?_)
    unfold Oper.wpIn
    refine ⟨fun _ _ => trivial, ?_⟩
    go_simp
    refine ⟨rfl, (callsIn_wide.2 (Ir.specIrSame (⟨a0, a1, x2, a3, a4, a5, a6⟩ : Bk) (⟨b0, b1, y2, b3, b4, b5, b6⟩ : Bk) [.int .i64 a0, .int .i64 a1, .slice q2 x2.length c2, .int .i64 a3, .int .i64 a4, .int .i64 a5, .int .i64 a6] [.int .i64 b0, .int .i64 b1, .slice qb y2.length cb, .int .i64 b3, .int .i64 b4, .int .i64 b5, .int .i64 b6] _ (blk_rb K2.out) (blk_rb (opsK.rb HY.out BD.out)))).mono ?_⟩
    rintro e u ⟨rfl, hb⟩
    rw [E1.out]
    have hH1 : (Rec w.heap.size [.int .i64 b0, .int .i64 b1, .slice qb y2.length cb, .int .i64 b3, .int .i64 b4, .int .i64 b5, .int .i64 b6] u ∧ Rec (w.heap.size + 1) [.int .i64 m0, .int .i64 m1, .slice qm o2.length cm, .int .i64 m3, .int .i64 m4, .int .i64 m5, .int .i64 m6] u) ∧ CellsAt u B (off + k * 14) [.int .i64 a0, .int .i64 a1, .slice q2 x2.length c2, .int .i64 a3, .int .i64 a4, .int .i64 a5, .int .i64 a6, .int .i64 a7, .int .i64 a8, .slice q9 x9.length c9, .int .i64 a10, .int .i64 a11, .int .i64 a12, .int .i64 a13] := ⟨⟨hHeld.1.1.below hb, hHeld.1.2.below hb⟩, hHeld.2.below hb⟩
    refine hK _ _ (fun _ => hH1) ?_
    replace K9 := hide (opsK.rb K9.out hb)
    replace BD := hide (BD.out.trans (hb.mono BD.out.size))
    clear hK K hb hHeld RD K2 E1
    try simp only [Act.put, List.setIfInBounds_toArray, List.set]
    have hHeld := hH1
    cases r1 with
    | false =>
      refine PhaseIn.takeD (i := 7) (v := ?_) [7, 8, 9, 10, 11, 12, 13, 14, 15] 21 rfl (by rfl) (by kernel_rfl) (by kernel_rfl) (by kernel_rfl) (by kernel_rfl) (by kernel_rfl) (fun _ _ _ h => h) (Or.inl ⟨by kernel_rfl, ?_⟩) hHeld ?_
      rotate_left
      · intro w' hSw
        (try dsimp only at hSw)
        go_simp
        first | done | with_reducible rfl
      try simp only [Act.put, List.setIfInBounds_toArray, List.set]
      refine PhaseIn.takeD (i := 8) (v := undef) [8, 10, 11, 12, 14, 15] 22 rfl (by rfl) (by kernel_rfl) (by kernel_rfl) (by kernel_rfl) (by kernel_rfl) (by kernel_rfl) (fun _ _ _ h => h) (Or.inr ⟨by kernel_rfl, rfl⟩) hHeld ?_
      try simp only [Act.put, List.setIfInBounds_toArray, List.set]
      refine PhaseIn.takeD (i := 9) (v := undef) [9, 10, 11, 12, 14, 15] 23 rfl (by rfl) (by kernel_rfl) (by kernel_rfl) (by kernel_rfl) (by kernel_rfl) (by kernel_rfl) (fun _ _ _ h => h) (Or.inr ⟨by kernel_rfl, rfl⟩) hHeld ?_
      try simp only [Act.put, List.setIfInBounds_toArray, List.set]
      refine PhaseIn.takeD (i := 10) (v := undef) [10, 11, 12, 14, 15] 24 rfl (by rfl) (by kernel_rfl) (by kernel_rfl) (by kernel_rfl) (by kernel_rfl) (by kernel_rfl) (fun _ _ _ h => h) (Or.inr ⟨by kernel_rfl, rfl⟩) hHeld ?_
      try simp only [Act.put, List.setIfInBounds_toArray, List.set]
      refine PhaseIn.takeD (i := 11) (v := undef) [11, 12, 14, 15] 25 rfl (by rfl) (by kernel_rfl) (by kernel_rfl) (by kernel_rfl) (by kernel_rfl) (by kernel_rfl) (fun _ _ _ h => h) (Or.inr ⟨by kernel_rfl, rfl⟩) hHeld ?_
      try simp only [Act.put, List.setIfInBounds_toArray, List.set]
      refine PhaseIn.takeD (i := 12) (v := undef) [12, 14, 15] 26 rfl (by rfl) (by kernel_rfl) (by kernel_rfl) (by kernel_rfl) (by kernel_rfl) (by kernel_rfl) (fun _ _ _ h => h) (Or.inr ⟨by kernel_rfl, rfl⟩) hHeld ?_
      try simp only [Act.put, List.setIfInBounds_toArray, List.set]
      refine PhaseIn.takeD (i := 13) (v := undef) [13, 14, 15] 27 rfl (by rfl) (by kernel_rfl) (by kernel_rfl) (by kernel_rfl) (by kernel_rfl) (by kernel_rfl) (fun _ _ _ h => h) (Or.inr ⟨by kernel_rfl, rfl⟩) hHeld ?_
      try simp only [Act.put, List.setIfInBounds_toArray, List.set]
      refine PhaseIn.takeD (i := 14) (v := undef) [14, 15] 28 rfl (by rfl) (by kernel_rfl) (by kernel_rfl) (by kernel_rfl) (by kernel_rfl) (by kernel_rfl) (fun _ _ _ h => h) (Or.inr ⟨by kernel_rfl, rfl⟩) hHeld ?_
      try simp only [Act.put, List.setIfInBounds_toArray, List.set]
      refine PhaseIn.takeD (i := 15) (v := ?_) [15] 29 rfl (by rfl) (by kernel_rfl) (by kernel_rfl) (by kernel_rfl) (by kernel_rfl) (by kernel_rfl) (fun _ _ _ h => h) (Or.inl ⟨by kernel_rfl, ?_⟩) hHeld ?_
      rotate_left
      · intro w' hSw
        (try dsimp only at hSw)
        go_simp
        first | done | with_reducible rfl
      try simp only [Act.put, List.setIfInBounds_toArray, List.set]
      refine PhaseIn.done (by kernel_rfl) ?_ _
      have RF := hide hHeld.1
      clear hHeld hH1 K9 E2
      go_wp2
      exact ⟨⟨k + 1, by omega, by go_num, EZ, RF, BD⟩, by simp [intOf]; omega⟩
    | true =>
      refine PhaseIn.takeD (i := 7) (v := ?_) [7, 8, 9, 10, 11, 12, 13, 14, 15] 21 rfl (by rfl) (by kernel_rfl) (by kernel_rfl) (by kernel_rfl) (by kernel_rfl) (by kernel_rfl) (fun _ _ _ h => h) (Or.inl ⟨by kernel_rfl, ?_⟩) hHeld ?_
      rotate_left
      · intro w' hSw
        (try dsimp only at hSw)
        go_simp
        first | done | with_reducible rfl
      try simp only [Act.put, List.setIfInBounds_toArray, List.set]
      refine PhaseIn.takeD (i := 8) (v := ?_) [8, 10, 11, 12, 14, 15] 22 rfl (by rfl) (by kernel_rfl) (by kernel_rfl) (by kernel_rfl) (by kernel_rfl) (by kernel_rfl) (fun _ _ _ h => h) (Or.inl ⟨by kernel_rfl, ?_⟩) hHeld ?_
      rotate_left
      · intro w' hSw
        (try dsimp only at hSw)
        go_simp
        first | done | with_reducible rfl
      try simp only [Act.put, List.setIfInBounds_toArray, List.set]
      refine PhaseIn.takeD (i := 9) (v := ?_) [9, 10, 11, 12, 14, 15] 23 rfl (by rfl) (by kernel_rfl) (by kernel_rfl) (by kernel_rfl) (by kernel_rfl) (by kernel_rfl) (fun _ _ _ h => h) (Or.inl ⟨by kernel_rfl, ?_⟩) hHeld ?_
      rotate_left
      · intro w' hSw
        (try dsimp only at hSw)
        go_simp
        first | done | with_reducible rfl
      try simp only [Act.put, List.setIfInBounds_toArray, List.set]
      refine PhaseIn.takeD (i := 10) (v := ?_) [10, 11, 12, 14, 15] 24 rfl (by rfl) (by kernel_rfl) (by kernel_rfl) (by kernel_rfl) (by kernel_rfl) (by kernel_rfl) (fun _ _ _ h => h) (Or.inl ⟨by kernel_rfl, ?_⟩) hHeld ?_
      rotate_left
      · intro w' hSw
        (try dsimp only at hSw)
        go_simp
        first | done | with_reducible rfl
      try simp only [Act.put, List.setIfInBounds_toArray, List.set]
      refine PhaseIn.takeD (i := 11) (v := ?_) [11, 12, 14, 15] 25 rfl (by rfl) (by kernel_rfl) (by kernel_rfl) (by kernel_rfl) (by kernel_rfl) (by kernel_rfl) (fun _ _ _ h => h) (Or.inl ⟨by kernel_rfl, ?_⟩) hHeld ?_
      rotate_left
      · intro w' hSw
        (try dsimp only at hSw)
        go_simp
        first | done | with_reducible rfl
      try simp only [Act.put, List.setIfInBounds_toArray, List.set]
      refine PhaseIn.takeD (i := 12) (v := ?_) [12, 14, 15] 26 rfl (by rfl) (by kernel_rfl) (by kernel_rfl) (by kernel_rfl) (by kernel_rfl) (by kernel_rfl) (fun _ _ _ h => h) (Or.inl ⟨by kernel_rfl, ?_⟩) hHeld ?_
      rotate_left
      · intro w' hSw
        (try dsimp only at hSw)
        have z0 : w'.cell? ⟨B, off + k * 14, none⟩ = some _ := hSw.2 0 _ rfl; have z1 : w'.cell? ⟨B, off + k * 14 + 1, none⟩ = some _ := hSw.2 1 _ rfl; have z2 : w'.cell? ⟨B, off + k * 14 + 2, none⟩ = some _ := hSw.2 2 _ rfl; have z3 : w'.cell? ⟨B, off + k * 14 + 3, none⟩ = some _ := hSw.2 3 _ rfl; have z4 : w'.cell? ⟨B, off + k * 14 + 4, none⟩ = some _ := hSw.2 4 _ rfl; have z5 : w'.cell? ⟨B, off + k * 14 + 5, none⟩ = some _ := hSw.2 5 _ rfl; have z6 : w'.cell? ⟨B, off + k * 14 + 6, none⟩ = some _ := hSw.2 6 _ rfl; have z7 : w'.cell? ⟨B, off + k * 14 + 7, none⟩ = some _ := hSw.2 7 _ rfl; have z8 : w'.cell? ⟨B, off + k * 14 + 8, none⟩ = some _ := hSw.2 8 _ rfl; have z9 : w'.cell? ⟨B, off + k * 14 + 9, none⟩ = some _ := hSw.2 9 _ rfl; have z10 : w'.cell? ⟨B, off + k * 14 + 10, none⟩ = some _ := hSw.2 10 _ rfl; have z11 : w'.cell? ⟨B, off + k * 14 + 11, none⟩ = some _ := hSw.2 11 _ rfl; have z12 : w'.cell? ⟨B, off + k * 14 + 12, none⟩ = some _ := hSw.2 12 _ rfl; have z13 : w'.cell? ⟨B, off + k * 14 + 13, none⟩ = some _ := hSw.2 13 _ rfl
        go_simp
        first | done | with_reducible rfl
      try simp only [Act.put, List.setIfInBounds_toArray, List.set]
      refine PhaseIn.takeD (i := 13) (v := ?_) [13, 14, 15] 27 rfl (by rfl) (by kernel_rfl) (by kernel_rfl) (by kernel_rfl) (by kernel_rfl) (by kernel_rfl) (fun _ _ _ h => h) (Or.inl ⟨by kernel_rfl, ?_⟩) hHeld ?_
      rotate_left
      · intro w' hSw
        (try dsimp only at hSw)
        have y0 := hSw.1.2.cell 0 _ rfl; have y1 := hSw.1.2.cell 1 _ rfl; have y2 := hSw.1.2.cell 2 _ rfl; have y3 := hSw.1.2.cell 3 _ rfl; have y4 := hSw.1.2.cell 4 _ rfl; have y5 := hSw.1.2.cell 5 _ rfl; have y6 := hSw.1.2.cell 6 _ rfl
        go_simp
        first | done | with_reducible rfl
      try simp only [Act.put, List.setIfInBounds_toArray, List.set]
      refine PhaseIn.one (i := 14) (by kernel_rfl) rfl (by kernel_rfl) (fun K hK => ?_)
      unfold Oper.wpIn
      refine ⟨fun _ _ => trivial, ?_⟩
      go_simp
      refine ⟨rfl, (callsIn_wide.2 (Ir.specIrSame (⟨a7, a8, x9, a10, a11, a12, a13⟩ : Bk) (⟨m0, m1, o2, m3, m4, m5, m6⟩ : Bk) [.int .i64 a7, .int .i64 a8, .slice q9 x9.length c9, .int .i64 a10, .int .i64 a11, .int .i64 a12, .int .i64 a13] [.int .i64 m0, .int .i64 m1, .slice qm o2.length cm, .int .i64 m3, .int .i64 m4, .int .i64 m5, .int .i64 m6] _ (blk_rb K9.out) (blk_rb (opsK.rb HZ.out BD.out)))).mono ?_⟩
      rintro e u2 ⟨rfl, hb⟩
      rw [E2.out]
      have hH2 : (Rec w.heap.size [.int .i64 b0, .int .i64 b1, .slice qb y2.length cb, .int .i64 b3, .int .i64 b4, .int .i64 b5, .int .i64 b6] u2 ∧ Rec (w.heap.size + 1) [.int .i64 m0, .int .i64 m1, .slice qm o2.length cm, .int .i64 m3, .int .i64 m4, .int .i64 m5, .int .i64 m6] u2) ∧ CellsAt u2 B (off + k * 14) [.int .i64 a0, .int .i64 a1, .slice q2 x2.length c2, .int .i64 a3, .int .i64 a4, .int .i64 a5, .int .i64 a6, .int .i64 a7, .int .i64 a8, .slice q9 x9.length c9, .int .i64 a10, .int .i64 a11, .int .i64 a12, .int .i64 a13] := ⟨⟨hHeld.1.1.below hb, hHeld.1.2.below hb⟩, hHeld.2.below hb⟩
      refine hK _ _ (fun _ => hH2) ?_
      replace BD := hide (BD.out.trans (hb.mono BD.out.size))
      clear hK K hb hHeld hH1 K9 E2
      try simp only [Act.put, List.setIfInBounds_toArray, List.set]
      have hHeld := hH2
      refine PhaseIn.takeD (i := 15) (v := ?_) [15] 29 rfl (by rfl) (by kernel_rfl) (by kernel_rfl) (by kernel_rfl) (by kernel_rfl) (by kernel_rfl) (fun _ _ _ h => h) (Or.inl ⟨by kernel_rfl, ?_⟩) hHeld ?_
      rotate_left
      · intro w' hSw
        (try dsimp only at hSw)
        go_simp
        first | done | with_reducible rfl
      try simp only [Act.put, List.setIfInBounds_toArray, List.set]
      refine PhaseIn.done (by kernel_rfl) ?_ _
      have RF := hide hHeld.1
      clear hHeld hH2
      cases r2 with
      | true =>
        go_wp2
        go_ret
        exact ⟨by rw [← EZ.out]; rfl, BD.out⟩
      | false =>
        go_wp2
        exact ⟨⟨k + 1, by omega, by go_num, EZ, RF, BD⟩, by simp [intOf]; omega⟩
end Go.Proofs.Ythlpndligadnjaa.Dt
