/-
  What is kept: the specification's CacDrop.
-/
import Derived.Test.YthlpndligadnjaaCaI
import Derived.Test.YthlpndligadnjaaCaE
namespace Go.Proofs.Ythlpndligadnjaa.Dt
set_option linter.unusedVariables false
set_option linter.unusedSimpArgs false
open Go.ChangeShapes Go.WideShapes Go.ChangeAt Go.RowKit IntS Pol Push Flat Irk
open Ir (Opn Bk bv ORow WORow RBk WBk OpAt SoftAt)
set_option maxRecDepth 8000 in
set_option maxHeartbeats 16000000 in
theorem specCacDrop (xs : List (List Int × Int × Int × List Opn × Int × Int × Int × Int)) (mem : List Int) (v vm : Value) (w : World) (h : cacK.rd w v xs) (hs : cacK.sz xs ≤ 1048576) (hm : intsK.rd w vm mem) (hpc : ∀ (i : Nat) x, xs[i]? = some x → x.2.1 ≤ 9223372036854775807) :
    Calls Try.prog 21 #[v, vm] w fun e w' => ∃ q c, e = .returned (.slice q (dropC xs mem).length c) ∧ cacK.ow w' (New w w') (.slice q (dropC xs mem).length c) (dropC xs mem) ∧ Below w.heap.size w w' := by
  obtain ⟨a2, cap2, e2, -⟩ := ints_at hm
  subst e2
  have HM := hide hm
  have HPC := hide hpc
  clear hm hpc
  have SM : Hid (∀ (i : Nat) x, xs[i]? = some x → cacR.sz x ≤ 1048576) := fun i x hx => by have h1 := sum_one (f := cacR.sz) hx; have h2 : cacK.sz xs = xs.length + sum cacR.sz xs := rfl; omega
  have LN0 : xs.length ≤ 1048576 := by have h2 : cacK.sz xs = xs.length + sum cacR.sz xs := rfl; omega
  obtain ⟨a, cap0, B, off, rfl, h2, h3, hz, h4⟩ := h
  unfold maxLen at h3
  clear hz hs
  obtain ⟨n, en⟩ : ∃ n, xs.length = n := ⟨_, rfl⟩
  have EN := hide en
  rw [en] at h2 LN0
  have H4 := hide h4
  clear h4
  obtain ⟨M, eM⟩ : ∃ M, dropC xs mem = M := ⟨_, rfl⟩
  rw [eM]
  replace eM : (xs.filter fun x => thereB x.1 mem x.2.1) = M := eM
  have EM := hide eM
  have b1x := boxC w (.cells #[] 41)
  have BW0 := hide b1x
  have OF0 := hide (OF.empty cacR 41 w (Nat.le_refl w.heap.size))
  clear eM b1x en
  go_enter Try.func21, Try.ntmps21
  go_wp2
  rw [EN.out]
  generalize w.alloc (.cells #[] 41) = W0 at BW0 OF0 ⊢
  go_loopw [5, 6] (fun rs i wr => ∃ (k m cp : Nat) (q2 : Option Addr), k ≤ n ∧ m ≤ k ∧ i = .int .i64 k ∧ rs = .slice q2 m cp ∧ Hid (((xs.take k).filter fun x => thereB x.1 mem x.2.1).length = m) ∧ Hid (OF cacR 41 wr w.heap.size q2 cp ((xs.take k).filter fun x => thereB x.1 mem x.2.1)) ∧ Hid (Below w.heap.size w wr)) (fun _ i _ => n - (intOf i).toNat)
  case atStart => exact ⟨0, 0, 0, some ⟨w.heap.size, 0, none⟩, by omega, by omega, rfl, rfl, rfl, OF0, BW0⟩
  case round =>
    clear OF0 BW0
    obtain ⟨k, m, cp, q2, hk, hm, rfl, rfl, ML, OS, BW⟩ := hrel
    by_cases hlt : k < n
    case neg =>
      obtain rfl : k = n := by omega
      have FE : Hid (((xs.take k).filter fun x => thereB x.1 mem x.2.1) = M) := show _ = _ by rw [List.take_of_length_le (by rw [EN.out]; exact Nat.le_refl _), EM.out]
      rw [FE.out] at ML OS
      have WF := hide OS.out.whole
      clear FE SM H4 HPC HM OS EM
      go_wp2
      go_ret
      exact ⟨q2, cp, by rw [ML.out]; rfl, WF.out, BW.out⟩
    obtain ⟨x, et⟩ : ∃ x, xs[k]? = some x := ⟨_, List.getElem?_eq_getElem (by rw [EN.out]; exact hlt)⟩
    obtain ⟨rfl, hc⟩ := H4.out.resolve_left (fun e => by rw [e] at et; simp at et)
    obtain ⟨ds, cc, hx⟩ := hc k x et
    have SX := SM.out k x et
    have ET := hide et
    replace cc := cc.below BW.out
    have HX0 := hide hx
    replace hx := cacR.rb hx BW.out
    obtain ⟨x0, a1, a2, x3, a4, a5, a6, a7⟩ := x
    obtain ⟨q0, c0, q3, c3, rfl, k0, k3⟩ := cacR_rd hx
    rw [cacR_sz] at SX
    rw [ints_sz] at SX
    rw [show opsK.sz x3 = x3.length from rfl] at SX
    have S0 : Hid (x0.length ≤ 2097152) := show _ ≤ _ by omega
    have S3 : Hid (x3.length ≤ 2097152) := show _ ≤ _ by omega
    have lk : ((k : Nat) : Int) < (n : Nat) := by omega
    have CC : CellsAt wr B (off + k * 8) [.slice q0 x0.length c0, .int .i64 a1, .int .i64 a2, .slice q3 x3.length c3, .int .i64 a4, .int .i64 a5, .int .i64 a6, .int .i64 a7] := cc
    clear et hc hx SX cc
    have PC := HPC.out k _ ET.out
    have PC : a1 ≤ 9223372036854775807 := PC
    have bA : Below wr.heap.size wr wr.drew := (Below.refl _ _).drew
    replace OS := hide (OS.out.below bA)
    replace BW := hide (BW.out.trans (bA.mono BW.out.size))
    have K0 := hide (intsK.rb k0 bA)
    have K3 := hide (opsK.rb k3 bA)
    have hCC : CellsAt wr.drew B (off + k * 8) [.slice q0 x0.length c0, .int .i64 a1, .int .i64 a2, .slice q3 x3.length c3, .int .i64 a4, .int .i64 a5, .int .i64 a6, .int .i64 a7] := CC
    clear bA k0 k3 CC HX0
    go_wp2_with fail
    refine (wpIn_wide (n := 0)).1 ?_
    refine PhaseIn.region (S := fun v => CellsAt v B (off + k * 8) [.slice q0 x0.length c0, .int .i64 a1, .int .i64 a2, .slice q3 x3.length c3, .int .i64 a4, .int .i64 a5, .int .i64 a6, .int .i64 a7]) 22 (by kernel_rfl) ?_
    generalize wr.drew = wd at OS BW K0 K3 hCC ⊢
    have hHeld : CellsAt wd B (off + k * 8) [.slice q0 x0.length c0, .int .i64 a1, .int .i64 a2, .slice q3 x3.length c3, .int .i64 a4, .int .i64 a5, .int .i64 a6, .int .i64 a7] := hCC
    clear hCC
    by_cases hneg : a1 < 0
    · have ge : ¬ 0 ≤ a1 := by omega
      have dl : decide (0 ≤ a1) = false := decide_eq_false ge
      have FY : Hid (((xs.take k).filter fun x => thereB x.1 mem x.2.1) = ((xs.take (k + 1)).filter fun x => thereB x.1 mem x.2.1)) := filter_no ET.out (there_neg hneg)
      refine PhaseIn.takeD (i := 0) (v := ?_) [0, 2, 3, 4, 5, 6, 7, 8, 9, 10, 11, 12, 13, 14, 15, 16, 17, 18, 19, 20, 21] 14 rfl (by rfl) (by kernel_rfl) (by kernel_rfl) (by kernel_rfl) (by kernel_rfl) (by kernel_rfl) (fun _ _ _ h => h) (Or.inl ⟨by kernel_rfl, ?_⟩) hHeld ?_
      rotate_left
      · intro w' hSw
        (try dsimp only at hSw)
        go_simp
        first | done | with_reducible rfl
      try simp only [Act.put, List.setIfInBounds_toArray, List.set]
      refine PhaseIn.takeD (i := 1) (v := ?_) [1, 2, 3, 4, 5, 6, 7, 8, 9, 10, 11, 12, 13, 14, 15, 16, 17, 18, 19, 20, 21] 15 rfl (by rfl) (by kernel_rfl) (by kernel_rfl) (by kernel_rfl) (by kernel_rfl) (by kernel_rfl) (fun _ _ _ h => h) (Or.inl ⟨by kernel_rfl, ?_⟩) hHeld ?_
      rotate_left
      · intro w' hSw
        (try dsimp only at hSw)
        go_simp
        first | done | with_reducible rfl
      try simp only [Act.put, List.setIfInBounds_toArray, List.set]
      refine PhaseIn.takeD (i := 2) (v := ?_) [2, 3, 4, 5, 6, 7, 8, 9, 10, 11, 12, 13, 14, 15, 16, 17, 18, 19, 20, 21] 16 rfl (by rfl) (by kernel_rfl) (by kernel_rfl) (by kernel_rfl) (by kernel_rfl) (by kernel_rfl) (fun _ _ _ h => h) (Or.inl ⟨by kernel_rfl, ?_⟩) hHeld ?_
      rotate_left
      · intro w' hSw
        (try dsimp only at hSw)
        go_simp
        first | done | with_reducible rfl
      try simp only [Act.put, List.setIfInBounds_toArray, List.set]
      refine PhaseIn.takeD (i := 3) (v := ?_) [3, 4, 5, 6, 7, 8, 9, 10, 11, 12, 13, 14, 15, 16, 17, 18, 19, 20, 21] 17 rfl (by rfl) (by kernel_rfl) (by kernel_rfl) (by kernel_rfl) (by kernel_rfl) (by kernel_rfl) (fun _ _ _ h => h) (Or.inl ⟨by kernel_rfl, ?_⟩) hHeld ?_
      rotate_left
      · intro w' hSw
        (try dsimp only at hSw)
        go_simp
        first | done | with_reducible rfl
      try simp only [Act.put, List.setIfInBounds_toArray, List.set]
      refine PhaseIn.takeD (i := 4) (v := ?_) [4, 5, 6, 7, 8, 9, 10, 11, 12, 13, 14, 15, 16, 17, 18, 19, 20, 21] 18 rfl (by rfl) (by kernel_rfl) (by kernel_rfl) (by kernel_rfl) (by kernel_rfl) (by kernel_rfl) (fun _ _ _ h => h) (Or.inl ⟨by kernel_rfl, ?_⟩) hHeld ?_
      rotate_left
      · intro w' hSw
        (try dsimp only at hSw)
        go_simp
        first | done | with_reducible rfl
      try simp only [Act.put, List.setIfInBounds_toArray, List.set]
      refine PhaseIn.takeD (i := 5) (v := ?_) [5, 6, 7, 8, 9, 10, 11, 12, 13, 14, 15, 16, 17, 18, 19, 20, 21] 19 rfl (by rfl) (by kernel_rfl) (by kernel_rfl) (by kernel_rfl) (by kernel_rfl) (by kernel_rfl) (fun _ _ _ h => h) (Or.inl ⟨by kernel_rfl, ?_⟩) hHeld ?_
      rotate_left
      · intro w' hSw
        (try dsimp only at hSw)
        have z0 : w'.cell? ⟨B, off + k * 8, none⟩ = some _ := hSw 0 _ rfl; have z1 : w'.cell? ⟨B, off + k * 8 + 1, none⟩ = some _ := hSw 1 _ rfl; have z2 : w'.cell? ⟨B, off + k * 8 + 2, none⟩ = some _ := hSw 2 _ rfl; have z3 : w'.cell? ⟨B, off + k * 8 + 3, none⟩ = some _ := hSw 3 _ rfl; have z4 : w'.cell? ⟨B, off + k * 8 + 4, none⟩ = some _ := hSw 4 _ rfl; have z5 : w'.cell? ⟨B, off + k * 8 + 5, none⟩ = some _ := hSw 5 _ rfl; have z6 : w'.cell? ⟨B, off + k * 8 + 6, none⟩ = some _ := hSw 6 _ rfl; have z7 : w'.cell? ⟨B, off + k * 8 + 7, none⟩ = some _ := hSw 7 _ rfl
        go_simp
        first | done | with_reducible rfl
      try simp only [Act.put, List.setIfInBounds_toArray, List.set]
      refine PhaseIn.takeD (i := 6) (v := ?_) [6, 7, 8, 9, 10, 11, 12, 13, 14, 15, 16, 17, 18, 19, 20, 21] 20 rfl (by rfl) (by kernel_rfl) (by kernel_rfl) (by kernel_rfl) (by kernel_rfl) (by kernel_rfl) (fun _ _ _ h => h) (Or.inl ⟨by kernel_rfl, ?_⟩) hHeld ?_
      rotate_left
      · intro w' hSw
        (try dsimp only at hSw)
        go_simp
        first | done | with_reducible rfl
      try simp only [Act.put, List.setIfInBounds_toArray, List.set]
      try simp only [dl]
      refine PhaseIn.takeD (i := 7) (v := ?_) [7, 8, 9, 10, 11, 12, 13, 14, 15, 16, 17, 18, 19, 20, 21] 21 rfl (by rfl) (by kernel_rfl) (by kernel_rfl) (by kernel_rfl) (by kernel_rfl) (by kernel_rfl) (fun _ _ _ h => h) (Or.inl ⟨by kernel_rfl, ?_⟩) hHeld ?_
      rotate_left
      · intro w' hSw
        (try dsimp only at hSw)
        go_simp
        first | done | with_reducible rfl
      try simp only [Act.put, List.setIfInBounds_toArray, List.set]
      refine PhaseIn.takeD (i := 8) (v := undef) [8, 10, 11, 12, 20, 21] 22 rfl (by rfl) (by kernel_rfl) (by kernel_rfl) (by kernel_rfl) (by kernel_rfl) (by kernel_rfl) (fun _ _ _ h => h) (Or.inr ⟨by kernel_rfl, rfl⟩) hHeld ?_
      try simp only [Act.put, List.setIfInBounds_toArray, List.set]
      refine PhaseIn.takeD (i := 9) (v := undef) [9, 10, 11, 12, 20, 21] 23 rfl (by rfl) (by kernel_rfl) (by kernel_rfl) (by kernel_rfl) (by kernel_rfl) (by kernel_rfl) (fun _ _ _ h => h) (Or.inr ⟨by kernel_rfl, rfl⟩) hHeld ?_
      try simp only [Act.put, List.setIfInBounds_toArray, List.set]
      refine PhaseIn.takeD (i := 10) (v := undef) [10, 11, 12, 20, 21] 24 rfl (by rfl) (by kernel_rfl) (by kernel_rfl) (by kernel_rfl) (by kernel_rfl) (by kernel_rfl) (fun _ _ _ h => h) (Or.inr ⟨by kernel_rfl, rfl⟩) hHeld ?_
      try simp only [Act.put, List.setIfInBounds_toArray, List.set]
      refine PhaseIn.takeD (i := 11) (v := undef) [11, 12, 20, 21] 25 rfl (by rfl) (by kernel_rfl) (by kernel_rfl) (by kernel_rfl) (by kernel_rfl) (by kernel_rfl) (fun _ _ _ h => h) (Or.inr ⟨by kernel_rfl, rfl⟩) hHeld ?_
      try simp only [Act.put, List.setIfInBounds_toArray, List.set]
      refine PhaseIn.takeD (i := 12) (v := undef) [12, 20, 21] 26 rfl (by rfl) (by kernel_rfl) (by kernel_rfl) (by kernel_rfl) (by kernel_rfl) (by kernel_rfl) (fun _ _ _ h => h) (Or.inr ⟨by kernel_rfl, rfl⟩) hHeld ?_
      try simp only [Act.put, List.setIfInBounds_toArray, List.set]
      refine PhaseIn.takeD (i := 13) (v := undef) [13, 20, 21] 27 rfl (by rfl) (by kernel_rfl) (by kernel_rfl) (by kernel_rfl) (by kernel_rfl) (by kernel_rfl) (fun _ _ _ h => h) (Or.inr ⟨by kernel_rfl, rfl⟩) hHeld ?_
      try simp only [Act.put, List.setIfInBounds_toArray, List.set]
      refine PhaseIn.takeD (i := 14) (v := undef) [14, 16, 17, 18, 19, 20, 21] 28 rfl (by rfl) (by kernel_rfl) (by kernel_rfl) (by kernel_rfl) (by kernel_rfl) (by kernel_rfl) (fun _ _ _ h => h) (Or.inr ⟨by kernel_rfl, rfl⟩) hHeld ?_
      try simp only [Act.put, List.setIfInBounds_toArray, List.set]
      refine PhaseIn.takeD (i := 15) (v := undef) [15, 16, 17, 18, 19, 20, 21] 29 rfl (by rfl) (by kernel_rfl) (by kernel_rfl) (by kernel_rfl) (by kernel_rfl) (by kernel_rfl) (fun _ _ _ h => h) (Or.inr ⟨by kernel_rfl, rfl⟩) hHeld ?_
      try simp only [Act.put, List.setIfInBounds_toArray, List.set]
      refine PhaseIn.takeD (i := 16) (v := undef) [16, 17, 18, 19, 20, 21] 30 rfl (by rfl) (by kernel_rfl) (by kernel_rfl) (by kernel_rfl) (by kernel_rfl) (by kernel_rfl) (fun _ _ _ h => h) (Or.inr ⟨by kernel_rfl, rfl⟩) hHeld ?_
      try simp only [Act.put, List.setIfInBounds_toArray, List.set]
      refine PhaseIn.takeD (i := 17) (v := undef) [17, 18, 19, 20, 21] 31 rfl (by rfl) (by kernel_rfl) (by kernel_rfl) (by kernel_rfl) (by kernel_rfl) (by kernel_rfl) (fun _ _ _ h => h) (Or.inr ⟨by kernel_rfl, rfl⟩) hHeld ?_
      try simp only [Act.put, List.setIfInBounds_toArray, List.set]
      refine PhaseIn.takeD (i := 18) (v := undef) [18, 19, 20, 21] 32 rfl (by rfl) (by kernel_rfl) (by kernel_rfl) (by kernel_rfl) (by kernel_rfl) (by kernel_rfl) (fun _ _ _ h => h) (Or.inr ⟨by kernel_rfl, rfl⟩) hHeld ?_
      try simp only [Act.put, List.setIfInBounds_toArray, List.set]
      refine PhaseIn.takeD (i := 19) (v := undef) [19, 20, 21] 33 rfl (by rfl) (by kernel_rfl) (by kernel_rfl) (by kernel_rfl) (by kernel_rfl) (by kernel_rfl) (fun _ _ _ h => h) (Or.inr ⟨by kernel_rfl, rfl⟩) hHeld ?_
      try simp only [Act.put, List.setIfInBounds_toArray, List.set]
      refine PhaseIn.takeD (i := 20) (v := undef) [20, 21] 34 rfl (by rfl) (by kernel_rfl) (by kernel_rfl) (by kernel_rfl) (by kernel_rfl) (by kernel_rfl) (fun _ _ _ h => h) (Or.inr ⟨by kernel_rfl, rfl⟩) hHeld ?_
      try simp only [Act.put, List.setIfInBounds_toArray, List.set]
      refine PhaseIn.takeD (i := 21) (v := ?_) [21] 35 rfl (by rfl) (by kernel_rfl) (by kernel_rfl) (by kernel_rfl) (by kernel_rfl) (by kernel_rfl) (fun _ _ _ h => h) (Or.inl ⟨by kernel_rfl, ?_⟩) hHeld ?_
      rotate_left
      · intro w' hSw
        (try dsimp only at hSw)
        go_simp
        first | done | with_reducible rfl
      try simp only [Act.put, List.setIfInBounds_toArray, List.set]
      refine PhaseIn.done (by kernel_rfl) ?_ _
      rw [FY.out] at ML OS
      clear FY hHeld K0 K3 S0 S3 ET
      go_wp2
      exact ⟨⟨k + 1, m, cp, q2, by omega, by omega, by go_num, rfl, ML, OS, BW⟩, by simp [intOf]; omega⟩
    obtain ⟨pc, rfl⟩ : ∃ p : Nat, a1 = (p : Int) := ⟨a1.toNat, by omega⟩
    have ge : (0 : Int) ≤ (pc : Int) := by omega
    have dl : decide ((0 : Int) ≤ (pc : Int)) = true := decide_eq_true ge
    refine PhaseIn.takeD (i := 0) (v := ?_) [0, 2, 3, 4, 5, 6, 7, 8, 9, 10, 11, 12, 13, 14, 15, 16, 17, 18, 19, 20, 21] 14 rfl (by rfl) (by kernel_rfl) (by kernel_rfl) (by kernel_rfl) (by kernel_rfl) (by kernel_rfl) (fun _ _ _ h => h) (Or.inl ⟨by kernel_rfl, ?_⟩) hHeld ?_
    rotate_left
    · intro w' hSw
      (try dsimp only at hSw)
      go_simp
      first | done | with_reducible rfl
    try simp only [Act.put, List.setIfInBounds_toArray, List.set]
    refine PhaseIn.takeD (i := 1) (v := ?_) [1, 2, 3, 4, 5, 6, 7, 8, 9, 10, 11, 12, 13, 14, 15, 16, 17, 18, 19, 20, 21] 15 rfl (by rfl) (by kernel_rfl) (by kernel_rfl) (by kernel_rfl) (by kernel_rfl) (by kernel_rfl) (fun _ _ _ h => h) (Or.inl ⟨by kernel_rfl, ?_⟩) hHeld ?_
    rotate_left
    · intro w' hSw
      (try dsimp only at hSw)
      go_simp
      first | done | with_reducible rfl
    try simp only [Act.put, List.setIfInBounds_toArray, List.set]
    refine PhaseIn.takeD (i := 2) (v := ?_) [2, 3, 4, 5, 6, 7, 8, 9, 10, 11, 12, 13, 14, 15, 16, 17, 18, 19, 20, 21] 16 rfl (by rfl) (by kernel_rfl) (by kernel_rfl) (by kernel_rfl) (by kernel_rfl) (by kernel_rfl) (fun _ _ _ h => h) (Or.inl ⟨by kernel_rfl, ?_⟩) hHeld ?_
    rotate_left
    · intro w' hSw
      (try dsimp only at hSw)
      go_simp
      first | done | with_reducible rfl
    try simp only [Act.put, List.setIfInBounds_toArray, List.set]
    refine PhaseIn.takeD (i := 3) (v := ?_) [3, 4, 5, 6, 7, 8, 9, 10, 11, 12, 13, 14, 15, 16, 17, 18, 19, 20, 21] 17 rfl (by rfl) (by kernel_rfl) (by kernel_rfl) (by kernel_rfl) (by kernel_rfl) (by kernel_rfl) (fun _ _ _ h => h) (Or.inl ⟨by kernel_rfl, ?_⟩) hHeld ?_
    rotate_left
    · intro w' hSw
      (try dsimp only at hSw)
      go_simp
      first | done | with_reducible rfl
    try simp only [Act.put, List.setIfInBounds_toArray, List.set]
    refine PhaseIn.takeD (i := 4) (v := ?_) [4, 5, 6, 7, 8, 9, 10, 11, 12, 13, 14, 15, 16, 17, 18, 19, 20, 21] 18 rfl (by rfl) (by kernel_rfl) (by kernel_rfl) (by kernel_rfl) (by kernel_rfl) (by kernel_rfl) (fun _ _ _ h => h) (Or.inl ⟨by kernel_rfl, ?_⟩) hHeld ?_
    rotate_left
    · intro w' hSw
      (try dsimp only at hSw)
      go_simp
      first | done | with_reducible rfl
    try simp only [Act.put, List.setIfInBounds_toArray, List.set]
    refine PhaseIn.takeD (i := 5) (v := ?_) [5, 6, 7, 8, 9, 10, 11, 12, 13, 14, 15, 16, 17, 18, 19, 20, 21] 19 rfl (by rfl) (by kernel_rfl) (by kernel_rfl) (by kernel_rfl) (by kernel_rfl) (by kernel_rfl) (fun _ _ _ h => h) (Or.inl ⟨by kernel_rfl, ?_⟩) hHeld ?_
    rotate_left
    · intro w' hSw
      (try dsimp only at hSw)
      have z0 : w'.cell? ⟨B, off + k * 8, none⟩ = some _ := hSw 0 _ rfl; have z1 : w'.cell? ⟨B, off + k * 8 + 1, none⟩ = some _ := hSw 1 _ rfl; have z2 : w'.cell? ⟨B, off + k * 8 + 2, none⟩ = some _ := hSw 2 _ rfl; have z3 : w'.cell? ⟨B, off + k * 8 + 3, none⟩ = some _ := hSw 3 _ rfl; have z4 : w'.cell? ⟨B, off + k * 8 + 4, none⟩ = some _ := hSw 4 _ rfl; have z5 : w'.cell? ⟨B, off + k * 8 + 5, none⟩ = some _ := hSw 5 _ rfl; have z6 : w'.cell? ⟨B, off + k * 8 + 6, none⟩ = some _ := hSw 6 _ rfl; have z7 : w'.cell? ⟨B, off + k * 8 + 7, none⟩ = some _ := hSw 7 _ rfl
      go_simp
      first | done | with_reducible rfl
    try simp only [Act.put, List.setIfInBounds_toArray, List.set]
    refine PhaseIn.takeD (i := 6) (v := ?_) [6, 7, 8, 9, 10, 11, 12, 13, 14, 15, 16, 17, 18, 19, 20, 21] 20 rfl (by rfl) (by kernel_rfl) (by kernel_rfl) (by kernel_rfl) (by kernel_rfl) (by kernel_rfl) (fun _ _ _ h => h) (Or.inl ⟨by kernel_rfl, ?_⟩) hHeld ?_
    rotate_left
    · intro w' hSw
      (try dsimp only at hSw)
      go_simp
      first | done | with_reducible rfl
    try simp only [Act.put, List.setIfInBounds_toArray, List.set]
    try simp only [dl]
    refine PhaseIn.takeD (i := 7) (v := ?_) [7, 8, 9, 10, 11, 12, 13, 14, 15, 16, 17, 18, 19, 20, 21] 21 rfl (by rfl) (by kernel_rfl) (by kernel_rfl) (by kernel_rfl) (by kernel_rfl) (by kernel_rfl) (fun _ _ _ h => h) (Or.inl ⟨by kernel_rfl, ?_⟩) hHeld ?_
    rotate_left
    · intro w' hSw
      (try dsimp only at hSw)
      go_simp
      first | done | with_reducible rfl
    try simp only [Act.put, List.setIfInBounds_toArray, List.set]
    refine PhaseIn.takeD (i := 8) (v := ?_) [8, 10, 11, 12, 20, 21] 22 rfl (by rfl) (by kernel_rfl) (by kernel_rfl) (by kernel_rfl) (by kernel_rfl) (by kernel_rfl) (fun _ _ _ h => h) (Or.inl ⟨by kernel_rfl, ?_⟩) hHeld ?_
    rotate_left
    · intro w' hSw
      (try dsimp only at hSw)
      go_simp
      first | done | with_reducible rfl
    try simp only [Act.put, List.setIfInBounds_toArray, List.set]
    refine PhaseIn.takeD (i := 9) (v := ?_) [9, 10, 11, 12, 20, 21] 23 rfl (by rfl) (by kernel_rfl) (by kernel_rfl) (by kernel_rfl) (by kernel_rfl) (by kernel_rfl) (fun _ _ _ h => h) (Or.inl ⟨by kernel_rfl, ?_⟩) hHeld ?_
    rotate_left
    · intro w' hSw
      (try dsimp only at hSw)
      go_simp
      first | done | with_reducible rfl
    try simp only [Act.put, List.setIfInBounds_toArray, List.set]
    refine PhaseIn.takeD (i := 10) (v := ?_) [10, 11, 12, 20, 21] 24 rfl (by rfl) (by kernel_rfl) (by kernel_rfl) (by kernel_rfl) (by kernel_rfl) (by kernel_rfl) (fun _ _ _ h => h) (Or.inl ⟨by kernel_rfl, ?_⟩) hHeld ?_
    rotate_left
    · intro w' hSw
      (try dsimp only at hSw)
      go_simp
      first | done | with_reducible rfl
    try simp only [Act.put, List.setIfInBounds_toArray, List.set]
    refine PhaseIn.takeD (i := 11) (v := ?_) [11, 12, 20, 21] 25 rfl (by rfl) (by kernel_rfl) (by kernel_rfl) (by kernel_rfl) (by kernel_rfl) (by kernel_rfl) (fun _ _ _ h => h) (Or.inl ⟨by kernel_rfl, ?_⟩) hHeld ?_
    rotate_left
    · intro w' hSw
      (try dsimp only at hSw)
      go_simp
      first | done | with_reducible rfl
    try simp only [Act.put, List.setIfInBounds_toArray, List.set]
    refine PhaseIn.takeD (i := 12) (v := ?_) [12, 20, 21] 26 rfl (by rfl) (by kernel_rfl) (by kernel_rfl) (by kernel_rfl) (by kernel_rfl) (by kernel_rfl) (fun _ _ _ h => h) (Or.inl ⟨by kernel_rfl, ?_⟩) hHeld ?_
    rotate_left
    · intro w' hSw
      (try dsimp only at hSw)
      have z0 : w'.cell? ⟨B, off + k * 8, none⟩ = some _ := hSw 0 _ rfl; have z1 : w'.cell? ⟨B, off + k * 8 + 1, none⟩ = some _ := hSw 1 _ rfl; have z2 : w'.cell? ⟨B, off + k * 8 + 2, none⟩ = some _ := hSw 2 _ rfl; have z3 : w'.cell? ⟨B, off + k * 8 + 3, none⟩ = some _ := hSw 3 _ rfl; have z4 : w'.cell? ⟨B, off + k * 8 + 4, none⟩ = some _ := hSw 4 _ rfl; have z5 : w'.cell? ⟨B, off + k * 8 + 5, none⟩ = some _ := hSw 5 _ rfl; have z6 : w'.cell? ⟨B, off + k * 8 + 6, none⟩ = some _ := hSw 6 _ rfl; have z7 : w'.cell? ⟨B, off + k * 8 + 7, none⟩ = some _ := hSw 7 _ rfl
      go_simp
      first | done | with_reducible rfl
    try simp only [Act.put, List.setIfInBounds_toArray, List.set]
    refine PhaseIn.takeD (i := 13) (v := ?_) [13, 20, 21] 27 rfl (by rfl) (by kernel_rfl) (by kernel_rfl) (by kernel_rfl) (by kernel_rfl) (by kernel_rfl) (fun _ _ _ h => h) (Or.inl ⟨by kernel_rfl, ?_⟩) hHeld ?_
    rotate_left
    · intro w' hSw
      (try dsimp only at hSw)
      go_simp
      first | done | with_reducible rfl
    try simp only [Act.put, List.setIfInBounds_toArray, List.set]
    refine PhaseIn.takeD (i := 14) (v := ?_) [14, 16, 17, 18, 19, 20, 21] 28 rfl (by rfl) (by kernel_rfl) (by kernel_rfl) (by kernel_rfl) (by kernel_rfl) (by kernel_rfl) (fun _ _ _ h => h) (Or.inl ⟨by kernel_rfl, ?_⟩) hHeld ?_
    rotate_left
    · intro w' hSw
      (try dsimp only at hSw)
      go_simp
      first | done | with_reducible rfl
    try simp only [Act.put, List.setIfInBounds_toArray, List.set]
    refine PhaseIn.takeD (i := 15) (v := ?_) [15, 16, 17, 18, 19, 20, 21] 29 rfl (by rfl) (by kernel_rfl) (by kernel_rfl) (by kernel_rfl) (by kernel_rfl) (by kernel_rfl) (fun _ _ _ h => h) (Or.inl ⟨by kernel_rfl, ?_⟩) hHeld ?_
    rotate_left
    · intro w' hSw
      (try dsimp only at hSw)
      go_simp
      first | done | with_reducible rfl
    try simp only [Act.put, List.setIfInBounds_toArray, List.set]
    refine PhaseIn.takeD (i := 16) (v := ?_) [16, 17, 18, 19, 20, 21] 30 rfl (by rfl) (by kernel_rfl) (by kernel_rfl) (by kernel_rfl) (by kernel_rfl) (by kernel_rfl) (fun _ _ _ h => h) (Or.inl ⟨by kernel_rfl, ?_⟩) hHeld ?_
    rotate_left
    · intro w' hSw
      (try dsimp only at hSw)
      go_simp
      first | done | with_reducible rfl
    try simp only [Act.put, List.setIfInBounds_toArray, List.set]
    refine PhaseIn.takeD (i := 17) (v := ?_) [17, 18, 19, 20, 21] 31 rfl (by rfl) (by kernel_rfl) (by kernel_rfl) (by kernel_rfl) (by kernel_rfl) (by kernel_rfl) (fun _ _ _ h => h) (Or.inl ⟨by kernel_rfl, ?_⟩) hHeld ?_
    rotate_left
    · intro w' hSw
      (try dsimp only at hSw)
      go_simp
      first | done | with_reducible rfl
    try simp only [Act.put, List.setIfInBounds_toArray, List.set]
    refine PhaseIn.takeD (i := 18) (v := ?_) [18, 19, 20, 21] 32 rfl (by rfl) (by kernel_rfl) (by kernel_rfl) (by kernel_rfl) (by kernel_rfl) (by kernel_rfl) (fun _ _ _ h => h) (Or.inl ⟨by kernel_rfl, ?_⟩) hHeld ?_
    rotate_left
    · intro w' hSw
      (try dsimp only at hSw)
      go_simp
      first | done | with_reducible rfl
    try simp only [Act.put, List.setIfInBounds_toArray, List.set]
    refine PhaseIn.takeD (i := 19) (v := ?_) [19, 20, 21] 33 rfl (by rfl) (by kernel_rfl) (by kernel_rfl) (by kernel_rfl) (by kernel_rfl) (by kernel_rfl) (fun _ _ _ h => h) (Or.inl ⟨by kernel_rfl, ?_⟩) hHeld ?_
    rotate_left
    · intro w' hSw
      (try dsimp only at hSw)
      have z0 : w'.cell? ⟨B, off + k * 8, none⟩ = some _ := hSw 0 _ rfl; have z1 : w'.cell? ⟨B, off + k * 8 + 1, none⟩ = some _ := hSw 1 _ rfl; have z2 : w'.cell? ⟨B, off + k * 8 + 2, none⟩ = some _ := hSw 2 _ rfl; have z3 : w'.cell? ⟨B, off + k * 8 + 3, none⟩ = some _ := hSw 3 _ rfl; have z4 : w'.cell? ⟨B, off + k * 8 + 4, none⟩ = some _ := hSw 4 _ rfl; have z5 : w'.cell? ⟨B, off + k * 8 + 5, none⟩ = some _ := hSw 5 _ rfl; have z6 : w'.cell? ⟨B, off + k * 8 + 6, none⟩ = some _ := hSw 6 _ rfl; have z7 : w'.cell? ⟨B, off + k * 8 + 7, none⟩ = some _ := hSw 7 _ rfl
      go_simp
      first | done | with_reducible rfl
    try simp only [Act.put, List.setIfInBounds_toArray, List.set]
    refine PhaseIn.one (i := 20) (by kernel_rfl) rfl (by kernel_rfl) (fun K hK => ?_)
    unfold Oper.wpIn
    refine ⟨fun _ _ => trivial, ?_⟩
    go_simp
    refine ⟨rfl, (callsIn_wide.2 (l12There x0 mem pc _ _ _ K0.out (intsK.rb HM.out BW.out) (by omega))).mono ?_⟩
    rintro e u ⟨rfl, hb⟩
    have hH1 : CellsAt u B (off + k * 8) [.slice q0 x0.length c0, .int .i64 (pc : Int), .int .i64 a2, .slice q3 x3.length c3, .int .i64 a4, .int .i64 a5, .int .i64 a6, .int .i64 a7] := hHeld.below hb
    refine hK _ _ (fun _ => hH1) ?_
    replace OS := hide (OS.out.below hb)
    replace BW := hide (BW.out.trans (hb.mono BW.out.size))
    replace K0 := hide (intsK.rb K0.out hb)
    replace K3 := hide (opsK.rb K3.out hb)
    clear hK K hb hHeld
    obtain ⟨rr, err⟩ : ∃ r, thereB x0 mem (pc : Nat) = r := ⟨_, rfl⟩
    rw [err]
    have ER := hide err
    clear err
    try simp only [Act.put, List.setIfInBounds_toArray, List.set]
    have hHeld := hH1
    refine PhaseIn.takeD (i := 21) (v := ?_) [21] 35 rfl (by rfl) (by kernel_rfl) (by kernel_rfl) (by kernel_rfl) (by kernel_rfl) (by kernel_rfl) (fun _ _ _ h => h) (Or.inl ⟨by kernel_rfl, ?_⟩) hHeld ?_
    rotate_left
    · intro w' hSw
      (try dsimp only at hSw)
      go_simp
      first | done | with_reducible rfl
    try simp only [Act.put, List.setIfInBounds_toArray, List.set]
    refine PhaseIn.done (by kernel_rfl) ?_ _
    have CC := hHeld
    clear hHeld hH1
    cases rr with
    | false =>
      have FY : Hid (((xs.take k).filter fun x => thereB x.1 mem x.2.1) = ((xs.take (k + 1)).filter fun x => thereB x.1 mem x.2.1)) := filter_no ET.out ER.out
      rw [FY.out] at ML OS
      clear FY CC K0 K3 S0 S3 ET ER
      go_wp2
      exact ⟨⟨k + 1, m, cp, q2, by omega, by omega, by go_num, rfl, ML, OS, BW⟩, by simp [intOf]; omega⟩
    | true =>
      have FY : Hid (((xs.take k).filter fun x => thereB x.1 mem x.2.1) ++ [(x0, (pc : Int), a2, x3, a4, a5, a6, a7)] = ((xs.take (k + 1)).filter fun x => thereB x.1 mem x.2.1)) := filter_yes ET.out ER.out
      have z0 : u.cell? ⟨B, off + k * 8, none⟩ = some _ := CC 0 _ rfl
      have z1 : u.cell? ⟨B, off + k * 8 + 1, none⟩ = some _ := CC 1 _ rfl
      have z2 : u.cell? ⟨B, off + k * 8 + 2, none⟩ = some _ := CC 2 _ rfl
      have z3 : u.cell? ⟨B, off + k * 8 + 3, none⟩ = some _ := CC 3 _ rfl
      have z4 : u.cell? ⟨B, off + k * 8 + 4, none⟩ = some _ := CC 4 _ rfl
      have z5 : u.cell? ⟨B, off + k * 8 + 5, none⟩ = some _ := CC 5 _ rfl
      have z6 : u.cell? ⟨B, off + k * 8 + 6, none⟩ = some _ := CC 6 _ rfl
      have z7 : u.cell? ⟨B, off + k * 8 + 7, none⟩ = some _ := CC 7 _ rfl
      clear CC ER
      go_wp2_with fail
      refine (l12Entry x0 (pc : Int) a2 x3 a4 a5 a6 a7 _ _ _ _ _ K0.out S0.out K3.out S3.out).mono ?_
      rintro e u9 ⟨g0, d0, g3, d3, rfl, OW, hb⟩
      have bo : Below u9.heap.size u9 (u9.alloc (.cells #[.slice g0 x0.length d0, .int .i64 (pc : Int), .int .i64 a2, .slice g3 x3.length d3, .int .i64 a4, .int .i64 a5, .int .i64 a6, .int .i64 a7] 41)) := boxC _ _
      have NR := Rec.new u9 [.slice g0 x0.length d0, .int .i64 (pc : Int), .int .i64 a2, .slice g3 x3.length d3, .int .i64 a4, .int .i64 a5, .int .i64 a6, .int .i64 a7] 41
      have hs1 := hb.size
      have ball : Below u.heap.size u (u9.alloc (.cells #[.slice g0 x0.length d0, .int .i64 (pc : Int), .int .i64 a2, .slice g3 x3.length d3, .int .i64 a4, .int .i64 a5, .int .i64 a6, .int .i64 a7] 41)) := hb.trans (bo.mono hs1)
      have EVO : cacR.ow (u9.alloc (.cells #[.slice g0 x0.length d0, .int .i64 (pc : Int), .int .i64 a2, .slice g3 x3.length d3, .int .i64 a4, .int .i64 a5, .int .i64 a6, .int .i64 a7] 41)) (New u (u9.alloc (.cells #[.slice g0 x0.length d0, .int .i64 (pc : Int), .int .i64 a2, .slice g3 x3.length d3, .int .i64 a4, .int .i64 a5, .int .i64 a6, .int .i64 a7] 41))) [.slice g0 x0.length d0, .int .i64 (pc : Int), .int .i64 a2, .slice g3 x3.length d3, .int .i64 a4, .int .i64 a5, .int .i64 a6, .int .i64 a7] (x0, (pc : Int), a2, x3, a4, a5, a6, a7) := cacR.ov (cacR.ob OW bo) (fun b h => ⟨h.1, Nat.lt_of_lt_of_le h.2 bo.size⟩)
      obtain ⟨ti, hi, hz, hsz, hby⟩ := infoCacEntry
      obtain ⟨g2, cp9, u6, hrun, O2, BL, -, -⟩ := OS.out.push (P := Try.prog) ball EVO 25 25 Try.underlying25 hi hz hsz hby rfl (by decide) (by decide) ⟨u9.heap.size, 0, none⟩ (fun j v hv => by
        rw [Addr.add_lit, Nat.zero_add]
        exact NR.cell j v hv) (fun v hv => by simp at hv; rcases hv with rfl | rfl | rfl | rfl | rfl | rfl | rfl | rfl <;> rfl) (by rw [ML.out]; omega) BW.out.size
      rw [ML.out] at hrun
      rw [FY.out] at O2
      have O3 := hide O2
      have BD3 := hide ((BW.out.trans (ball.mono BW.out.size)).trans BL)
      have ML3 : Hid (((xs.take (k + 1)).filter fun x => thereB x.1 mem x.2.1).length = m + 1) := show _ = m + 1 by rw [← FY.out, List.length_append, ML.out]; rfl
      clear bo NR hs1 ball EVO hi hz hsz hby O2 BL OW hb K0 K3 OS BW FY ML
      go_wp2_with (at_builtin; refine Flat.push_list rfl _ _ rfl rfl rfl hrun ?_)
      exact ⟨⟨k + 1, m + 1, cp9, some ⟨g2, 0, none⟩, by omega, by omega, by go_num, rfl, ML3, O3, BD3⟩, by simp [intOf]; omega⟩
end Go.Proofs.Ythlpndligadnjaa.Dt
