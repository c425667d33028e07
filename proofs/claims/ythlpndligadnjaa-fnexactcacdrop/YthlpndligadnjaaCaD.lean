/-
  What is kept: a ring's told.
-/
import Derived.Test.YthlpndligadnjaaCaB
namespace Go.Proofs.Ythlpndligadnjaa.Dt
set_option linter.unusedVariables false
set_option linter.unusedSimpArgs false
open Go.ChangeShapes Go.WideShapes Go.ChangeAt Go.RowKit IntS Pol Push Flat Irk
open Ir (Opn Bk bv ORow WORow RBk WBk OpAt SoftAt)
set_option maxRecDepth 8000 in
set_option maxHeartbeats 16000000 in
theorem toldCacEntry (room f cap lo Z : Nat) (q : Option Addr) (A : Nat → Prop) (ks : List (List Int × Int × Int × List Opn × Int × Int × Int × Int)) (w : World) (H : Ring (seen cacR) 41 w lo A Z room f q cap ks) (hA : ∀ b, A b → b < lo) (hr : 0 < room ∨ ks = []) (hm : room ≤ 2000000) (hs : ∀ (i : Nat) x, (logic ks f)[i]? = some x → cacR.sz x ≤ 2097152) :
    Calls Try.prog 47 #[.pointer (some ⟨Z, 0, none⟩), .func (.func 48) #[] #[]] w fun e w' => ∃ q' c', e = .returned (.slice q' (logic ks f).length c') ∧ cacK.ow w' (New w w') (.slice q' (logic ks f).length c') (logic ks f) ∧ Below w.heap.size w w' := by
  have RI := hide H
  have HA := hide hA
  have HS := hide hs
  have b0 := H.box
  have hle := H.le
  have hmx := H.mx
  have hnr : ks.length ≤ room ∧ f ≤ room := by rcases H.at_ with h | h <;> omega
  have HR : Hid (ks.length = 0 ∨ 0 < room) := hr.elim Or.inr (fun e => Or.inl (by rw [e]; rfl))
  have LL : Hid ((logic ks f).length = ks.length) := logic_len
  unfold maxLen at hmx
  rw [logic_len]
  obtain ⟨n, en⟩ : ∃ n, ks.length = n := ⟨_, rfl⟩
  rw [en] at b0 hle hnr HR LL ⊢
  have EN := hide en
  have FI : Hid (∀ q2 cap2 wr, OF cacR 41 wr w.heap.size q2 cap2 ((logic ks f).take n) → cacK.ow wr (New w wr) (.slice q2 n cap2) (logic ks f)) := fun q2 cap2 wr h => by
    rw [List.take_of_length_le (by rw [LL.out]; exact Nat.le_refl _)] at h
    have h2 := h.whole
    rw [LL.out] at h2
    exact h2
  have TK : Hid (∀ k x, (logic ks f)[k]? = some x → (logic ks f).take k ++ [x] = (logic ks f).take (k + 1) ∧ ((logic ks f).take k).length = k) := fun k x hx => ⟨by rw [List.take_add_one, hx]; rfl, by have := (List.getElem?_eq_some_iff.1 hx).1; rw [List.length_take]; omega⟩
  have BW0 : Hid (Below w.heap.size w w) := Below.refl _ _
  have ON0 := hide (OF.nil cacR 41 w w.heap.size)
  have c1 := b0.cell 1 _ rfl
  clear en H hA hs hr b0
  go_enter Try.func47, Try.ntmps47
  go_wp2
  clear c1
  go_loopw [5, 12] (fun rs i wr => ∃ (k cap2 : Nat) (q2 : Option Addr), k ≤ n ∧ i = .int .i64 k ∧ rs = .slice q2 k cap2 ∧ Hid (OF cacR 41 wr w.heap.size q2 cap2 ((logic ks f).take k)) ∧ Hid (Below w.heap.size w wr)) (fun _ i _ => n - (intOf i).toNat)
  case atStart => exact ⟨0, 0, none, by omega, rfl, rfl, ON0, BW0⟩
  case round =>
    clear ON0 BW0
    obtain ⟨k, cap2, q2, hk, rfl, rfl, OS, BW⟩ := hrel
    by_cases hlt : k < n
    case neg =>
      obtain rfl : k = n := by omega
      go_wp2
      go_ret
      exact ⟨q2, cap2, rfl, FI.out _ _ _ OS.out, BW.out⟩
    obtain ⟨x, et⟩ : ∃ x, (logic ks f)[k]? = some x := ⟨_, List.getElem?_eq_getElem (by rw [LL.out]; exact hlt)⟩
    have hr0 : 0 < room := HR.out.elim (fun h => by omega) id
    obtain ⟨G, ds, rfl, lj0, cc, hx⟩ := (RI.out.below BW.out).at hr0 et
    rw [EN.out] at lj0
    obtain ⟨j, ej⟩ : ∃ j, (f + k) % room = j := ⟨_, rfl⟩
    rw [ej] at lj0 cc
    have cc2 : CellsAt wr G (j * 8) ds := cc
    obtain ⟨TT, TL⟩ := TK.out k x et
    have TT := hide TT
    have TL := hide TL
    have SX := HS.out k x et
    have rd := seen_rd hx
    obtain ⟨x0, a1, a2, x3, a4, a5, a6, a7⟩ := x
    obtain ⟨q0, c0, q3, c3, rfl, k0, k3⟩ := cacR_rd rd
    rw [cacR_sz] at SX
    rw [ints_sz] at SX
    rw [show opsK.sz x3 = x3.length from rfl] at SX
    have S0 : Hid (x0.length ≤ 2097152) := show _ ≤ _ by omega
    have S3 : Hid (x3.length ≤ 2097152) := show _ ≤ _ by omega
    have wf1 : IntKind.i64.wrap (((f : Nat) : Int) + ((k : Nat) : Int)) = ((f : Nat) : Int) + ((k : Nat) : Int) := IntWalk.i64_in _ ⟨by omega, by omega⟩
    have rm0 : (((f : Nat) : Int) + ((k : Nat) : Int)).tmod (room : Nat) = (j : Int) := by
      rw [Int.tmod_eq_emod_of_nonneg (by omega), ← ej]
      push_cast
      rfl
    have rm1 : IntKind.i64.wrap (j : Int) = (j : Int) := IntWalk.i64_in _ ⟨by omega, by omega⟩
    have nn : ¬ room = 0 := by omega
    have lj : ((j : Nat) : Int) < (n : Nat) := by omega
    have lk : ((k : Nat) : Int) < (n : Nat) := by omega
    have RZ0 := RI.out.box.below BW.out
    rw [EN.out] at RZ0
    clear et cc hx rd SX ej
    go_wp2_with fail
    refine (wpIn_wide (n := 0)).1 ?_
    have bA : Below wr.heap.size wr wr.drew := (Below.refl _ _).drew
    have RZ := hide (RZ0.below bA)
    have BD := hide (BW.out.trans (bA.mono BW.out.size))
    have OD := hide (OS.out.below bA)
    have H0 := hide (intsK.rb k0 bA)
    have H3 := hide (opsK.rb k3 bA)
    have hCC : CellsAt wr.drew G (j * 8) [.slice q0 x0.length c0, .int .i64 a1, .int .i64 a2, .slice q3 x3.length c3, .int .i64 a4, .int .i64 a5, .int .i64 a6, .int .i64 a7] := cc2
    clear bA cc2 k0 k3 RZ0 OS BW
    refine PhaseIn.region (S := fun v => Rec Z [.int .i64 (room : Nat), .slice (some ⟨G, 0, none⟩) n cap, .int .i64 (f : Nat)] v ∧ CellsAt v G (j * 8) [.slice q0 x0.length c0, .int .i64 a1, .int .i64 a2, .slice q3 x3.length c3, .int .i64 a4, .int .i64 a5, .int .i64 a6, .int .i64 a7]) 21 (by kernel_rfl) ?_
    generalize wr.drew = wd at RZ BD OD hCC H0 H3 ⊢
    have hHeld := And.intro RZ.out hCC
    clear hCC
    refine PhaseIn.takeD (i := 0) (v := ?_) [0, 21, 22] 15 rfl (by rfl) (by kernel_rfl) (by kernel_rfl) (by kernel_rfl) (by kernel_rfl) (by kernel_rfl) (fun _ _ _ h => h) (Or.inl ⟨by kernel_rfl, ?_⟩) hHeld ?_
    rotate_left
    · intro w' hSw
      (try dsimp only at hSw)
      go_simp
      first | done | with_reducible rfl
    try simp only [Act.put, List.setIfInBounds_toArray, List.set]
    refine PhaseIn.takeD (i := 1) (v := ?_) [1, 19, 20, 21, 22] 16 rfl (by rfl) (by kernel_rfl) (by kernel_rfl) (by kernel_rfl) (by kernel_rfl) (by kernel_rfl) (fun _ _ _ h => h) (Or.inl ⟨by kernel_rfl, ?_⟩) hHeld ?_
    rotate_left
    · intro w' hSw
      (try dsimp only at hSw)
      go_simp
      first | done | with_reducible rfl
    try simp only [Act.put, List.setIfInBounds_toArray, List.set]
    refine PhaseIn.takeD (i := 2) (v := ?_) [2, 3, 4, 5, 17, 18, 19, 20, 21, 22] 17 rfl (by rfl) (by kernel_rfl) (by kernel_rfl) (by kernel_rfl) (by kernel_rfl) (by kernel_rfl) (fun _ _ _ h => h) (Or.inl ⟨by kernel_rfl, ?_⟩) hHeld ?_
    rotate_left
    · intro w' hSw
      (try dsimp only at hSw)
      go_simp
      first | done | with_reducible rfl
    try simp only [Act.put, List.setIfInBounds_toArray, List.set]
    refine PhaseIn.takeD (i := 3) (v := ?_) [3, 4, 5, 17, 18, 19, 20, 21, 22] 18 rfl (by rfl) (by kernel_rfl) (by kernel_rfl) (by kernel_rfl) (by kernel_rfl) (by kernel_rfl) (fun _ _ _ h => h) (Or.inl ⟨by kernel_rfl, ?_⟩) hHeld ?_
    rotate_left
    · intro w' hSw
      (try dsimp only at hSw)
      go_simp
      first | done | with_reducible rfl
    try simp only [Act.put, List.setIfInBounds_toArray, List.set]
    refine PhaseIn.takeD (i := 4) (v := ?_) [4, 5, 17, 18, 19, 20, 21, 22] 19 rfl (by rfl) (by kernel_rfl) (by kernel_rfl) (by kernel_rfl) (by kernel_rfl) (by kernel_rfl) (fun _ _ _ h => h) (Or.inl ⟨by kernel_rfl, ?_⟩) hHeld ?_
    rotate_left
    · intro w' hSw
      (try dsimp only at hSw)
      go_simp
      first | done | with_reducible rfl
    try simp only [Act.put, List.setIfInBounds_toArray, List.set]
    refine PhaseIn.takeD (i := 5) (v := ?_) [5, 17, 18, 19, 20, 21, 22] 20 rfl (by rfl) (by kernel_rfl) (by kernel_rfl) (by kernel_rfl) (by kernel_rfl) (by kernel_rfl) (fun _ _ _ h => h) (Or.inl ⟨by kernel_rfl, ?_⟩) hHeld ?_
    rotate_left
    · intro w' hSw
      (try dsimp only at hSw)
      have z0 := hSw.1.cell 0 _ rfl; have z1 := hSw.1.cell 1 _ rfl; have z2 := hSw.1.cell 2 _ rfl
      go_simp
      first | done | with_reducible rfl
    try simp only [Act.put, List.setIfInBounds_toArray, List.set]
    refine PhaseIn.takeD (i := 6) (v := ?_) [6, 7, 8, 9, 11, 16, 17, 18, 19, 20, 21, 22] 21 rfl (by rfl) (by kernel_rfl) (by kernel_rfl) (by kernel_rfl) (by kernel_rfl) (by kernel_rfl) (fun _ _ _ h => h) (Or.inl ⟨by kernel_rfl, ?_⟩) hHeld ?_
    rotate_left
    · intro w' hSw
      (try dsimp only at hSw)
      go_simp
      first | done | with_reducible rfl
    try simp only [Act.put, List.setIfInBounds_toArray, List.set]
    refine PhaseIn.takeD (i := 7) (v := ?_) [7, 8, 9, 11, 16, 17, 18, 19, 20, 21, 22] 22 rfl (by rfl) (by kernel_rfl) (by kernel_rfl) (by kernel_rfl) (by kernel_rfl) (by kernel_rfl) (fun _ _ _ h => h) (Or.inl ⟨by kernel_rfl, ?_⟩) hHeld ?_
    rotate_left
    · intro w' hSw
      (try dsimp only at hSw)
      go_simp
      first | done | with_reducible rfl
    try simp only [Act.put, List.setIfInBounds_toArray, List.set]
    refine PhaseIn.takeD (i := 8) (v := ?_) [8, 9, 11, 16, 17, 18, 19, 20, 21, 22] 23 rfl (by rfl) (by kernel_rfl) (by kernel_rfl) (by kernel_rfl) (by kernel_rfl) (by kernel_rfl) (fun _ _ _ h => h) (Or.inl ⟨by kernel_rfl, ?_⟩) hHeld ?_
    rotate_left
    · intro w' hSw
      (try dsimp only at hSw)
      go_simp
      first | done | with_reducible rfl
    try simp only [Act.put, List.setIfInBounds_toArray, List.set]
    refine PhaseIn.takeD (i := 9) (v := ?_) [9, 11, 16, 17, 18, 19, 20, 21, 22] 24 rfl (by rfl) (by kernel_rfl) (by kernel_rfl) (by kernel_rfl) (by kernel_rfl) (by kernel_rfl) (fun _ _ _ h => h) (Or.inl ⟨by kernel_rfl, ?_⟩) hHeld ?_
    rotate_left
    · intro w' hSw
      (try dsimp only at hSw)
      have z0 := hSw.1.cell 0 _ rfl; have z1 := hSw.1.cell 1 _ rfl; have z2 := hSw.1.cell 2 _ rfl
      go_simp
      first | done | with_reducible rfl
    try simp only [Act.put, List.setIfInBounds_toArray, List.set]
    refine PhaseIn.takeD (i := 10) (v := ?_) [10, 11, 16, 17, 18, 19, 20, 21, 22] 25 rfl (by rfl) (by kernel_rfl) (by kernel_rfl) (by kernel_rfl) (by kernel_rfl) (by kernel_rfl) (fun _ _ _ h => h) (Or.inl ⟨by kernel_rfl, ?_⟩) hHeld ?_
    rotate_left
    · intro w' hSw
      (try dsimp only at hSw)
      go_simp
      first | done | with_reducible rfl
    try simp only [Act.put, List.setIfInBounds_toArray, List.set]
    refine PhaseIn.takeD (i := 11) (v := ?_) [11, 16, 17, 18, 19, 20, 21, 22] 26 rfl (by rfl) (by kernel_rfl) (by kernel_rfl) (by kernel_rfl) (by kernel_rfl) (by kernel_rfl) (fun _ _ _ h => h) (Or.inl ⟨by kernel_rfl, ?_⟩) hHeld ?_
    rotate_left
    · intro w' hSw
      (try dsimp only at hSw)
      go_simp
      first | done | with_reducible rfl
    try simp only [Act.put, List.setIfInBounds_toArray, List.set]
    try simp only [wf1]
    refine PhaseIn.takeD (i := 12) (v := ?_) [12, 13, 14, 15, 16, 17, 18, 19, 20, 21, 22] 27 rfl (by rfl) (by kernel_rfl) (by kernel_rfl) (by kernel_rfl) (by kernel_rfl) (by kernel_rfl) (fun _ _ _ h => h) (Or.inl ⟨by kernel_rfl, ?_⟩) hHeld ?_
    rotate_left
    · intro w' hSw
      (try dsimp only at hSw)
      go_simp
      first | done | with_reducible rfl
    try simp only [Act.put, List.setIfInBounds_toArray, List.set]
    refine PhaseIn.takeD (i := 13) (v := ?_) [13, 14, 15, 16, 17, 18, 19, 20, 21, 22] 28 rfl (by rfl) (by kernel_rfl) (by kernel_rfl) (by kernel_rfl) (by kernel_rfl) (by kernel_rfl) (fun _ _ _ h => h) (Or.inl ⟨by kernel_rfl, ?_⟩) hHeld ?_
    rotate_left
    · intro w' hSw
      (try dsimp only at hSw)
      go_simp
      first | done | with_reducible rfl
    try simp only [Act.put, List.setIfInBounds_toArray, List.set]
    refine PhaseIn.takeD (i := 14) (v := ?_) [14, 15, 16, 17, 18, 19, 20, 21, 22] 29 rfl (by rfl) (by kernel_rfl) (by kernel_rfl) (by kernel_rfl) (by kernel_rfl) (by kernel_rfl) (fun _ _ _ h => h) (Or.inl ⟨by kernel_rfl, ?_⟩) hHeld ?_
    rotate_left
    · intro w' hSw
      (try dsimp only at hSw)
      go_simp
      first | done | with_reducible rfl
    try simp only [Act.put, List.setIfInBounds_toArray, List.set]
    refine PhaseIn.takeD (i := 15) (v := ?_) [15, 16, 17, 18, 19, 20, 21, 22] 30 rfl (by rfl) (by kernel_rfl) (by kernel_rfl) (by kernel_rfl) (by kernel_rfl) (by kernel_rfl) (fun _ _ _ h => h) (Or.inl ⟨by kernel_rfl, ?_⟩) hHeld ?_
    rotate_left
    · intro w' hSw
      (try dsimp only at hSw)
      have z0 := hSw.1.cell 0 _ rfl; have z1 := hSw.1.cell 1 _ rfl; have z2 := hSw.1.cell 2 _ rfl
      go_simp
      first | done | with_reducible rfl
    try simp only [Act.put, List.setIfInBounds_toArray, List.set]
    refine PhaseIn.takeD (i := 16) (v := ?_) [16, 17, 18, 19, 20, 21, 22] 31 rfl (by rfl) (by kernel_rfl) (by kernel_rfl) (by kernel_rfl) (by kernel_rfl) (by kernel_rfl) (fun _ _ _ h => h) (Or.inl ⟨by kernel_rfl, ?_⟩) hHeld ?_
    rotate_left
    · intro w' hSw
      (try dsimp only at hSw)
      go_simp
      first | done | with_reducible rfl
    try simp only [Act.put, List.setIfInBounds_toArray, List.set]
    try simp only [rm0, rm1]
    refine PhaseIn.takeD (i := 17) (v := ?_) [17, 18, 19, 20, 21, 22] 32 rfl (by rfl) (by kernel_rfl) (by kernel_rfl) (by kernel_rfl) (by kernel_rfl) (by kernel_rfl) (fun _ _ _ h => h) (Or.inl ⟨by kernel_rfl, ?_⟩) hHeld ?_
    rotate_left
    · intro w' hSw
      (try dsimp only at hSw)
      go_simp
      first | done | with_reducible rfl
    try simp only [Act.put, List.setIfInBounds_toArray, List.set]
    refine PhaseIn.takeD (i := 18) (v := ?_) [18, 19, 20, 21, 22] 33 rfl (by rfl) (by kernel_rfl) (by kernel_rfl) (by kernel_rfl) (by kernel_rfl) (by kernel_rfl) (fun _ _ _ h => h) (Or.inl ⟨by kernel_rfl, ?_⟩) hHeld ?_
    rotate_left
    · intro w' hSw
      (try dsimp only at hSw)
      have z0 : w'.cell? ⟨G, j * 8, none⟩ = some _ := hSw.2 0 _ rfl; have z1 := hSw.2 1 _ rfl; have z2 := hSw.2 2 _ rfl; have z3 := hSw.2 3 _ rfl; have z4 := hSw.2 4 _ rfl; have z5 := hSw.2 5 _ rfl; have z6 := hSw.2 6 _ rfl; have z7 := hSw.2 7 _ rfl
      go_simp
      first | done | with_reducible rfl
    try simp only [Act.put, List.setIfInBounds_toArray, List.set]
    refine PhaseIn.one (i := 19) (by kernel_rfl) rfl (by kernel_rfl) (fun K hK => ?_)
    unfold Oper.wpIn
    refine ⟨fun _ _ => trivial, ?_⟩
    go_simp
    refine ⟨rfl, (callsIn_wide.2 (copiedEntry x0 a1 a2 x3 a4 a5 a6 a7 _ _ _ _ _ H0.out S0.out H3.out S3.out)).mono ?_⟩
    rintro e u1 ⟨g0, d0, g3, d3, rfl, OW, hb⟩
    have hH1 : Rec Z [.int .i64 (room : Nat), .slice (some ⟨G, 0, none⟩) n cap, .int .i64 (f : Nat)] u1 ∧ CellsAt u1 G (j * 8) [.slice q0 x0.length c0, .int .i64 a1, .int .i64 a2, .slice q3 x3.length c3, .int .i64 a4, .int .i64 a5, .int .i64 a6, .int .i64 a7] := And.intro (hHeld.1.below hb) (hHeld.2.below hb)
    refine hK _ _ (fun _ => hH1) ?_
    have OW1 := hide OW
    have HB1 := hide hb
    clear hK K OW hb hHeld H0 H3
    try simp only [Act.put, List.setIfInBounds_toArray, List.set]
    refine PhaseIn.one (i := 20) (by kernel_rfl) rfl (by kernel_rfl) (fun K hK => ?_)
    unfold Oper.wpIn
    refine ⟨fun _ _ => trivial, ?_⟩
    go_simp
    have bo : Below u1.heap.size u1 (u1.alloc (.cells #[.slice g0 x0.length d0, .int .i64 a1, .int .i64 a2, .slice g3 x3.length d3, .int .i64 a4, .int .i64 a5, .int .i64 a6, .int .i64 a7] 41)) := boxC _ _
    have hH2 : Rec Z [.int .i64 (room : Nat), .slice (some ⟨G, 0, none⟩) n cap, .int .i64 (f : Nat)] (u1.alloc (.cells #[.slice g0 x0.length d0, .int .i64 a1, .int .i64 a2, .slice g3 x3.length d3, .int .i64 a4, .int .i64 a5, .int .i64 a6, .int .i64 a7] 41)) ∧ CellsAt (u1.alloc (.cells #[.slice g0 x0.length d0, .int .i64 a1, .int .i64 a2, .slice g3 x3.length d3, .int .i64 a4, .int .i64 a5, .int .i64 a6, .int .i64 a7] 41)) G (j * 8) [.slice q0 x0.length c0, .int .i64 a1, .int .i64 a2, .slice q3 x3.length c3, .int .i64 a4, .int .i64 a5, .int .i64 a6, .int .i64 a7] := And.intro (hH1.1.below bo) (hH1.2.below bo)
    refine hK _ _ (fun _ => hH2) ?_
    have NR := Rec.new u1 [.slice g0 x0.length d0, .int .i64 a1, .int .i64 a2, .slice g3 x3.length d3, .int .i64 a4, .int .i64 a5, .int .i64 a6, .int .i64 a7] 41
    have hs1 := HB1.out.size
    have ball : Below wd.heap.size wd (u1.alloc (.cells #[.slice g0 x0.length d0, .int .i64 a1, .int .i64 a2, .slice g3 x3.length d3, .int .i64 a4, .int .i64 a5, .int .i64 a6, .int .i64 a7] 41)) := HB1.out.trans (bo.mono hs1)
    have EVO : cacR.ow (u1.alloc (.cells #[.slice g0 x0.length d0, .int .i64 a1, .int .i64 a2, .slice g3 x3.length d3, .int .i64 a4, .int .i64 a5, .int .i64 a6, .int .i64 a7] 41)) (New wd (u1.alloc (.cells #[.slice g0 x0.length d0, .int .i64 a1, .int .i64 a2, .slice g3 x3.length d3, .int .i64 a4, .int .i64 a5, .int .i64 a6, .int .i64 a7] 41))) [.slice g0 x0.length d0, .int .i64 a1, .int .i64 a2, .slice g3 x3.length d3, .int .i64 a4, .int .i64 a5, .int .i64 a6, .int .i64 a7] (x0, a1, a2, x3, a4, a5, a6, a7) := cacR.ov (cacR.ob OW1.out bo) (fun b h => ⟨h.1, Nat.lt_of_lt_of_le h.2 bo.size⟩)
    obtain ⟨ti, hi, hz, hsz, hby⟩ := infoCacEntry
    obtain ⟨g2, cp9, u6, hrun, O2, BL, -, -⟩ := OD.out.push (P := Try.prog) ball EVO 25 25 Try.underlying25 hi hz hsz hby rfl (by decide) (by decide) ⟨u1.heap.size, 0, none⟩ (fun j v hv => by
      rw [Addr.add_lit, Nat.zero_add]
      exact NR.cell j v hv) (fun v hv => by simp at hv; rcases hv with rfl | rfl | rfl | rfl | rfl | rfl | rfl | rfl <;> rfl) (by rw [TL.out]; omega) BD.out.size
    rw [TL.out] at hrun
    rw [TT.out] at O2
    have O3 := hide O2
    have BD3 := hide ((BD.out.trans (ball.mono BD.out.size)).trans BL)
    clear hK K bo NR hs1 ball EVO hi hz hsz hby O2 BL OW1 HB1 hH1 BD OD RZ TT TL
    try simp only [Act.put, List.setIfInBounds_toArray, List.set]
    refine PhaseIn.one (i := 21) (by kernel_rfl) rfl (by kernel_rfl) (fun K hK => ?_)
    refine Push.push_in _ _ rfl rfl rfl hrun (hK _ _ (fun h => absurd h (by omega)) ?_)
    clear hK K hrun hH2
    try simp only [Act.put, List.setIfInBounds_toArray, List.set]
    refine PhaseIn.late (i := 22) (v := ?_) (by kernel_rfl) rfl 5 (by rfl) (by omega) (Or.inl ⟨by kernel_rfl, ?_⟩) ?_
    rotate_left
    · intro w' hSw
      go_simp
      first | done | with_reducible rfl
    try simp only [Act.put, List.setIfInBounds_toArray, List.set]
    refine PhaseIn.done (by kernel_rfl) ?_ _
    go_wp2
    exact ⟨⟨k + 1, cp9, some ⟨g2, 0, none⟩, by omega, by go_num, rfl, O3, BD3⟩, by simp [intOf]; omega⟩
end Go.Proofs.Ythlpndligadnjaa.Dt
