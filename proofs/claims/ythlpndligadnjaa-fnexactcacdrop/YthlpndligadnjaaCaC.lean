/-
  What is kept, pairs: a ring's put.
-/
import Derived.Test.YthlpndligadnjaaCaRow
namespace Go.Proofs.Ythlpndligadnjaa.Dt
set_option linter.unusedVariables false
set_option linter.unusedSimpArgs false
open Go.ChangeShapes Go.WideShapes Go.ChangeAt Go.RowKit IntS Pol Push Flat Irk
open Ir (Opn Bk bv ORow WORow RBk WBk OpAt SoftAt)
set_option maxRecDepth 8000 in
set_option maxHeartbeats 16000000 in
theorem putCacEntry (room f cap lo Z : Nat) (q : Option Addr) (A : Nat → Prop) (ks : List (List Int × Int × Int × List Opn × Int × Int × Int × Int)) (x0 : List Int) (a1 : Int) (a2 : Int) (x3 : List Opn) (a4 : Int) (a5 : Int) (a6 : Int) (a7 : Int) (q0 : Option Addr) (c0 : Nat) (q3 : Option Addr) (c3 : Nat) (w : World) (H : Ring (seen cacR) 41 w lo A Z room f q cap ks) (hx : (seen cacR).at_ w A [.slice q0 x0.length c0, .int .i64 a1, .int .i64 a2, .slice q3 x3.length c3, .int .i64 a4, .int .i64 a5, .int .i64 a6, .int .i64 a7] (x0, a1, a2, x3, a4, a5, a6, a7)) (hA : ∀ b, A b → b < lo) (hlo : lo ≤ w.heap.size) (hr : 0 < room) (hm : room ≤ 2000000) :
    Calls Try.prog 46 #[.pointer (some ⟨Z, 0, none⟩), .agg #[.slice q0 x0.length c0, .int .i64 a1, .int .i64 a2, .slice q3 x3.length c3, .int .i64 a4, .int .i64 a5, .int .i64 a6, .int .i64 a7]] w fun e w' => e = .returned (.tuple #[]) ∧ (∃ f' q' cap' ks', Ring (seen cacR) 41 w' lo A Z room f' q' cap' ks' ∧ logic ks' f' = lastN room (logic ks f ++ [(x0, a1, a2, x3, a4, a5, a6, a7)])) ∧ Below lo w w' := by
  have b0 : Below w.heap.size w (w.alloc (.cells #[.slice q0 x0.length c0, .int .i64 a1, .int .i64 a2, .slice q3 x3.length c3, .int .i64 a4, .int .i64 a5, .int .i64 a6, .int .i64 a7] 41)) := boxC _ _
  have bl : Below lo w (w.alloc (.cells #[.slice q0 x0.length c0, .int .i64 a1, .int .i64 a2, .slice q3 x3.length c3, .int .i64 a4, .int .i64 a5, .int .i64 a6, .int .i64 a7] 41)) := b0.mono hlo
  have RB0 := hide (Rec.new w [.slice q0 x0.length c0, .int .i64 a1, .int .i64 a2, .slice q3 x3.length c3, .int .i64 a4, .int .i64 a5, .int .i64 a6, .int .i64 a7] 41)
  have RI := hide (H.below b0)
  have HX := hide ((seen cacR).ok hx (Keep.of_below (S := fun _ => False) b0) (fun _ _ h => h))
  have BW := hide bl
  have LZ : Hid (lo ≤ Z ∧ Z < w.heap.size) := ⟨H.lo_, H.box.lt⟩
  have LW : Hid (lo ≤ w.heap.size) := hlo
  have HA := hide hA
  have hle := H.le
  have hmx := H.mx
  have AT := hide H.at_
  have QN : Hid (∀ G, q = some ⟨G, 0, none⟩ → G < w.heap.size) := fun G e => by
    rcases H.at_ with h | h
    · obtain ⟨_, _, cs, h3⟩ := h; exact (h3.q_lt e).2
    · obtain ⟨_, _, G2, e2, h3⟩ := h; rw [e2] at e; injection e with e3; injection e3 with e4; have := h3.lt; omega
  obtain ⟨n, en⟩ : ∃ n, ks.length = n := ⟨_, rfl⟩
  have hn : n ≤ room := by rcases H.at_ with h | h <;> omega
  rw [en] at hle
  have EN := hide en
  clear en H hx hA b0 bl hlo
  unfold maxLen at hmx
  have zn := LZ.out.2
  go_enter Try.func46, Try.ntmps46
  go_wp2_with fail
  have rz := RI.out.box
  rw [EN.out] at rz
  have r0 : (w.alloc (.cells #[.slice q0 x0.length c0, .int .i64 a1, .int .i64 a2, .slice q3 x3.length c3, .int .i64 a4, .int .i64 a5, .int .i64 a6, .int .i64 a7] 41)).cell? ⟨Z, 0, none⟩ = some (.int .i64 (room : Nat)) := rz.cell 0 _ rfl
  have r1 : (w.alloc (.cells #[.slice q0 x0.length c0, .int .i64 a1, .int .i64 a2, .slice q3 x3.length c3, .int .i64 a4, .int .i64 a5, .int .i64 a6, .int .i64 a7] 41)).cell? ⟨Z, 1, none⟩ = some (.slice q n cap) := rz.cell 1 _ rfl
  clear rz
  generalize (w.alloc (.cells #[.slice q0 x0.length c0, .int .i64 a1, .int .i64 a2, .slice q3 x3.length c3, .int .i64 a4, .int .i64 a5, .int .i64 a6, .int .i64 a7] 41)) = v1 at RB0 RI HX BW r0 r1 ⊢
  have r0b : v1.drew.cell? ⟨Z, 0, none⟩ = some (.int .i64 (room : Nat)) := r0
  have r1b : v1.drew.cell? ⟨Z, 1, none⟩ = some (.slice q n cap) := r1
  clear r0 r1
  refine region_all (by kernel_rfl) (by kernel_rfl) ?_
  refine Pol.head_yes (by kernel_rfl) (fun K hK => ?_)
  go_simp
  refine hK _ ?_
  clear hK K
  refine Pol.head_yes (by kernel_rfl) (fun K hK => ?_)
  go_simp
  refine hK _ ?_
  clear hK K
  refine Pol.head_yes (by kernel_rfl) (fun K hK => ?_)
  go_simp
  refine hK _ ?_
  clear hK K
  refine Pol.head_yes (by kernel_rfl) (fun K hK => ?_)
  go_simp
  refine hK _ ?_
  clear hK K
  refine Pol.head_yes (by kernel_rfl) (fun K hK => ?_)
  go_simp
  refine hK _ ?_
  clear hK K
  refine Pol.head_yes (by kernel_rfl) (fun K hK => ?_)
  go_simp
  refine hK _ ?_
  clear hK K
  refine Pol.head_yes (by kernel_rfl) (fun K hK => ?_)
  go_simp
  refine hK _ ?_
  clear hK K
  refine Pol.head_yes (by kernel_rfl) (fun K hK => ?_)
  go_simp
  refine hK _ ?_
  clear hK K
  refine Pol.head_yes (by kernel_rfl) (fun K hK => ?_)
  go_simp
  refine hK _ ?_
  clear hK K
  refine Pol.head_yes (by kernel_rfl) (fun K hK => ?_)
  go_simp
  refine hK _ ?_
  clear hK K
  refine Pol.head_nil ?_
  clear r0b r1b zn
  have bQ : Below v1.heap.size v1 v1.drew := (Below.refl _ _).drew
  replace RB0 := hide (RB0.out.below bQ)
  replace RI := hide (RI.out.below bQ)
  replace HX := hide ((seen cacR).ok HX.out (Keep.of_below (S := fun _ => False) bQ) (fun _ _ h => h))
  replace BW := hide (BW.out.trans (bQ.mono (by have := LW.out; have := RB0.out.lt; have := bQ.size; have : v1.drew.heap.size = v1.heap.size := rfl; omega)))
  clear bQ
  generalize v1.drew = d1 at RB0 RI HX BW ⊢
  have SZ : Hid (w.heap.size < d1.heap.size) := RB0.out.lt
  by_cases hlt : n < room
  · have lk : ((n : Nat) : Int) < (room : Nat) := by omega
    have FZ : Hid (f = 0) := by rcases AT.out with h | h; exact h.2.1; (have := h.1; have := EN.out; omega)
    go_wp2_with fail
    refine (wpIn_wide (n := 0)).1 ?_
    have bA : Below d1.heap.size d1 d1.drew := (Below.refl _ _).drew
    replace RB0 := hide (RB0.out.below bA)
    replace RI := hide (RI.out.below bA)
    replace HX := hide ((seen cacR).ok HX.out (Keep.of_below (S := fun _ => False) bA) (fun _ _ h => h))
    replace BW := hide (BW.out.trans (bA.mono (by have := LW.out; have := SZ.out; omega)))
    replace SZ : Hid (w.heap.size < d1.drew.heap.size) := RB0.out.lt
    have RZ0 := RI.out.box
    rw [EN.out] at RZ0
    have RZ := hide RZ0
    clear bA AT RZ0
    refine PhaseIn.region (S := fun v => Rec Z [.int .i64 (room : Nat), .slice q n cap, .int .i64 (f : Nat)] v ∧ Rec w.heap.size [.slice q0 x0.length c0, .int .i64 a1, .int .i64 a2, .slice q3 x3.length c3, .int .i64 a4, .int .i64 a5, .int .i64 a6, .int .i64 a7] v) 10 (by kernel_rfl) ?_
    generalize d1.drew = d2 at RB0 RI HX BW RZ SZ ⊢
    have hHeld := And.intro RZ.out RB0.out
    refine PhaseIn.takeD (i := 0) (v := ?_) [0, 8, 9, 10] 14 rfl (by rfl) (by kernel_rfl) (by kernel_rfl) (by kernel_rfl) (by kernel_rfl) (by kernel_rfl) (fun _ _ _ h => h) (Or.inl ⟨by kernel_rfl, ?_⟩) hHeld ?_
    rotate_left
    · intro w' hSw
      (try dsimp only at hSw)
      go_simp
      first | done | with_reducible rfl
    try simp only [Act.put, List.setIfInBounds_toArray, List.set]
    refine PhaseIn.takeD (i := 1) (v := ?_) [1, 2, 3, 4, 7, 8, 9, 10] 15 rfl (by rfl) (by kernel_rfl) (by kernel_rfl) (by kernel_rfl) (by kernel_rfl) (by kernel_rfl) (fun _ _ _ h => h) (Or.inl ⟨by kernel_rfl, ?_⟩) hHeld ?_
    rotate_left
    · intro w' hSw
      (try dsimp only at hSw)
      go_simp
      first | done | with_reducible rfl
    try simp only [Act.put, List.setIfInBounds_toArray, List.set]
    refine PhaseIn.takeD (i := 2) (v := ?_) [2, 3, 4, 7, 8, 9, 10] 16 rfl (by rfl) (by kernel_rfl) (by kernel_rfl) (by kernel_rfl) (by kernel_rfl) (by kernel_rfl) (fun _ _ _ h => h) (Or.inl ⟨by kernel_rfl, ?_⟩) hHeld ?_
    rotate_left
    · intro w' hSw
      (try dsimp only at hSw)
      go_simp
      first | done | with_reducible rfl
    try simp only [Act.put, List.setIfInBounds_toArray, List.set]
    refine PhaseIn.takeD (i := 3) (v := ?_) [3, 4, 7, 8, 9, 10] 17 rfl (by rfl) (by kernel_rfl) (by kernel_rfl) (by kernel_rfl) (by kernel_rfl) (by kernel_rfl) (fun _ _ _ h => h) (Or.inl ⟨by kernel_rfl, ?_⟩) hHeld ?_
    rotate_left
    · intro w' hSw
      (try dsimp only at hSw)
      go_simp
      first | done | with_reducible rfl
    try simp only [Act.put, List.setIfInBounds_toArray, List.set]
    refine PhaseIn.takeD (i := 4) (v := ?_) [4, 7, 8, 9, 10] 18 rfl (by rfl) (by kernel_rfl) (by kernel_rfl) (by kernel_rfl) (by kernel_rfl) (by kernel_rfl) (fun _ _ _ h => h) (Or.inl ⟨by kernel_rfl, ?_⟩) hHeld ?_
    rotate_left
    · intro w' hSw
      (try dsimp only at hSw)
      have z0 := hSw.1.cell 0 _ rfl; have z1 := hSw.1.cell 1 _ rfl; have z2 := hSw.1.cell 2 _ rfl
      go_simp
      first | done | with_reducible rfl
    try simp only [Act.put, List.setIfInBounds_toArray, List.set]
    refine PhaseIn.takeD (i := 5) (v := ?_) [5, 6, 7, 8, 9, 10] 19 rfl (by rfl) (by kernel_rfl) (by kernel_rfl) (by kernel_rfl) (by kernel_rfl) (by kernel_rfl) (fun _ _ _ h => h) (Or.inl ⟨by kernel_rfl, ?_⟩) hHeld ?_
    rotate_left
    · intro w' hSw
      (try dsimp only at hSw)
      have z0 := hSw.2.cell 0 _ rfl; have z1 := hSw.2.cell 1 _ rfl; have z2 := hSw.2.cell 2 _ rfl; have z3 := hSw.2.cell 3 _ rfl; have z4 := hSw.2.cell 4 _ rfl; have z5 := hSw.2.cell 5 _ rfl; have z6 := hSw.2.cell 6 _ rfl; have z7 := hSw.2.cell 7 _ rfl
      go_simp
      first | done | with_reducible rfl
    try simp only [Act.put, List.setIfInBounds_toArray, List.set]
    refine PhaseIn.one (i := 6) (by kernel_rfl) rfl (by kernel_rfl) (fun K hK => ?_)
    unfold Oper.wpIn
    refine ⟨fun _ _ => trivial, ?_⟩
    go_simp
    have hb : Below d2.heap.size d2 (d2.alloc (.cells #[.slice q0 x0.length c0, .int .i64 a1, .int .i64 a2, .slice q3 x3.length c3, .int .i64 a4, .int .i64 a5, .int .i64 a6, .int .i64 a7] 41)) := boxC _ _
    replace hHeld := And.intro (hHeld.1.below hb) (hHeld.2.below hb)
    refine hK _ _ (fun _ => hHeld) ?_
    have NB := Rec.new d2 [.slice q0 x0.length c0, .int .i64 a1, .int .i64 a2, .slice q3 x3.length c3, .int .i64 a4, .int .i64 a5, .int .i64 a6, .int .i64 a7] 41
    obtain ⟨cs0, SL0⟩ : ∃ cs, SL (seen cacR) 41 (d2.alloc (.cells #[.slice q0 x0.length c0, .int .i64 a1, .int .i64 a2, .slice q3 x3.length c3, .int .i64 a4, .int .i64 a5, .int .i64 a6, .int .i64 a7] 41)) lo A q cap cs ks := by
      rcases (RI.out.below hb).at_ with h | h
      · exact h.2.2
      · have := h.1; have := EN.out; omega
    have HX2 := (seen cacR).ok HX.out (Keep.of_below (S := fun _ => False) hb) (fun _ _ h => h)
    have sz : d2.heap.size < (d2.alloc (.cells #[.slice q0 x0.length c0, .int .i64 a1, .int .i64 a2, .slice q3 x3.length c3, .int .i64 a4, .int .i64 a5, .int .i64 a6, .int .i64 a7] 41)).heap.size := NB.lt
    obtain ⟨ti, hi, hz, hsz, hby⟩ := infoCacEntry
    obtain ⟨g', cap', u3, hrun, SL3, hg, hgl, hlg, KP⟩ := SL0.push (P := Try.prog) (A' := A) (fun _ h => h) (fun b hb => by have := HA.out b hb; have := LW.out; have := SZ.out; omega) SL0.self HX2 25 25 Try.underlying25 hi hz hsz hby rfl (by decide) (by decide) ⟨d2.heap.size, 0, none⟩ (fun j v hv => by
      rw [Addr.add_lit, Nat.zero_add]
      exact NB.cell j v hv) (fun v hv => by simp at hv; rcases hv with rfl | rfl | rfl | rfl | rfl | rfl | rfl | rfl <;> rfl) (by rw [EN.out]; omega) (by have := LW.out; have := SZ.out; omega)
    rw [EN.out] at hrun
    have qz : q ≠ some ⟨Z, 0, none⟩ := fun e => RI.out.apart Z e rfl
    have qn : q ≠ some ⟨w.heap.size, 0, none⟩ := fun e => by
      have h1 := (RI.out.below hb).at_
      rcases h1 with h1 | h1
      · obtain ⟨_, _, cs, h3⟩ := h1
        exact absurd (QN.out _ e) (Nat.lt_irrefl _)
      · obtain ⟨h1, _⟩ := h1; have := EN.out; omega
    have R3 := hHeld.1.keep KP qz
    have B3 := hHeld.2.keep KP qn
    have B3l : Below lo (d2.alloc (.cells #[.slice q0 x0.length c0, .int .i64 a1, .int .i64 a2, .slice q3 x3.length c3, .int .i64 a4, .int .i64 a5, .int .i64 a6, .int .i64 a7] 41)) u3 := KP.below (by have := LW.out; have := SZ.out; omega) (fun k hk e => by
      rcases SL0.q_form with ⟨e2, _⟩ | ⟨G, e2⟩
      · rw [e2] at e; cases e
      · have := (SL0.q_lt e2).1; rw [e2] at e; injection e with e3; injection e3 with e4; omega)
    have gz : g' ≠ Z := fun e => by
      rcases hg with hg | hg
      · exact qz (by rw [hg, e])
      · have := LZ.out; have := SZ.out; omega
    have BW3 := hide ((BW.out.trans (hb.mono (by have := LW.out; have := SZ.out; omega))).trans B3l)
    have SLH := hide SL3
    have GZ := hide gz
    have RZ3 := hide R3
    have CL := hide SL3.caps
    replace hHeld := And.intro R3 B3
    have L3 : Hid (d2.heap.size ≤ u3.heap.size) := Nat.le_trans (Nat.le_of_lt sz) KP.size
    clear hK K hb NB SL0 HX2 sz hi hz hsz hby SL3 hg hgl hlg KP qz qn R3 B3 B3l gz RI RB0 HX RZ BW
    try simp only [Act.put, List.setIfInBounds_toArray, List.set]
    refine PhaseIn.one (i := 7) (by kernel_rfl) rfl (by kernel_rfl) (fun K hK => ?_)
    refine Push.push_in _ _ rfl rfl rfl hrun (hK _ _ (fun _ => hHeld) ?_)
    clear hK K hrun
    try simp only [Act.put, List.setIfInBounds_toArray, List.set]
    refine PhaseIn.takeD (i := 8) (v := ?_) [8, 9, 10] 22 rfl (by rfl) (by kernel_rfl) (by kernel_rfl) (by kernel_rfl) (by kernel_rfl) (by kernel_rfl) (fun _ _ _ h => h) (Or.inl ⟨by kernel_rfl, ?_⟩) hHeld ?_
    rotate_left
    · intro w' hSw
      (try dsimp only at hSw)
      go_simp
      first | done | with_reducible rfl
    try simp only [Act.put, List.setIfInBounds_toArray, List.set]
    refine PhaseIn.takeD (i := 9) (v := ?_) [9, 10] 23 rfl (by rfl) (by kernel_rfl) (by kernel_rfl) (by kernel_rfl) (by kernel_rfl) (by kernel_rfl) (fun _ _ _ h => h) (Or.inl ⟨by kernel_rfl, ?_⟩) hHeld ?_
    rotate_left
    · intro w' hSw
      (try dsimp only at hSw)
      go_simp
      first | done | with_reducible rfl
    try simp only [Act.put, List.setIfInBounds_toArray, List.set]
    have z1 := RZ3.out.cell 1 _ rfl
    have s1 := RZ3.out.soft 1
    refine PhaseIn.one (i := 10) (by kernel_rfl) rfl (by kernel_rfl) (fun K hK => ?_)
    unfold Oper.wpIn
    refine ⟨fun _ _ => trivial, ?_⟩
    go_simp
    refine hK _ _ (fun h => absurd h (by omega)) ?_
    have t1 : Turn Z u3 (u3.setCell ⟨Z, 1, none⟩ (.slice (some ⟨g', 0, none⟩) (n + 1) cap')) := (Turn.refl _ u3).setCell (p := ⟨Z, 1, none⟩) rfl _
    have RF := RZ3.out.set 1 (.slice (some ⟨g', 0, none⟩) (n + 1) cap') (by simp) (show _ = ([.int .i64 (room : Nat), .slice (some ⟨g', 0, none⟩) (n + 1) cap', .int .i64 (f : Nat)] : List Value) from rfl)
    have SLF := SLH.out.keep (Keep.of_turn t1) (fun b hb (e : b = Z) => by have := HA.out b hb; have := LZ.out; omega) (fun G e (e2 : G = Z) => GZ.out (by injection e with e3; injection e3 with e4; omega))
    have BWF := hide (BW3.out.trans (t1.below LZ.out.1 (by have := LW.out; have := SZ.out; have := L3.out; omega)))
    have lz : (ks ++ [(x0, a1, a2, x3, a4, a5, a6, a7)]).length = n + 1 := by rw [List.length_append, EN.out]; rfl
    have cl := CL.out
    rw [lz] at cl
    have FIN : Ring (seen cacR) 41 (u3.setCell ⟨Z, 1, none⟩ (.slice (some ⟨g', 0, none⟩) (n + 1) cap')) lo A Z room f (some ⟨g', 0, none⟩) cap' (ks ++ [(x0, a1, a2, x3, a4, a5, a6, a7)]) := ⟨by rw [lz]; exact RF, LZ.out.1, by rw [lz]; exact cl.1, cl.2.1, (by
      by_cases h9 : n + 1 < room
      · exact Or.inl ⟨by rw [lz]; exact h9, FZ.out, _, SLF⟩
      · exact Or.inr ⟨by rw [lz]; omega, by rw [FZ.out]; exact hr, g', rfl, SLF.full⟩), fun G e e2 => GZ.out (by injection e with e3; injection e3 with e4; omega), fun h => by have := HA.out _ h; have := LZ.out; omega⟩
    have LO : logic (ks ++ [(x0, a1, a2, x3, a4, a5, a6, a7)]) f = lastN room (logic ks f ++ [(x0, a1, a2, x3, a4, a5, a6, a7)]) := by rw [FZ.out, logic_zero, logic_zero, lastN_of_le (by rw [lz]; omega)]
    have FINH := hide (And.intro FIN LO)
    clear hK K z1 s1 t1 hHeld RF SLF lz cl FIN LO SLH RZ3 BW3 CL L3
    try simp only [Act.put, List.setIfInBounds_toArray, List.set]
    generalize (u3.setCell ⟨Z, 1, none⟩ (.slice (some ⟨g', 0, none⟩) (n + 1) cap')) = u4 at FINH BWF ⊢
    refine PhaseIn.done (by kernel_rfl) ?_ _
    go_wp2
    exact bodyPost_ret (v := .tuple #[]) (by simp [results, Try.results46, go_sem]) rfl ⟨rfl, ⟨_, _, _, _, FINH.out⟩, BWF.out⟩
  · obtain rfl : n = room := by omega
    have lk : ¬ ((n : Nat) : Int) < (n : Nat) := by omega
    obtain ⟨FF, G, rfl, FU⟩ : f < n ∧ ∃ G, q = some ⟨G, 0, none⟩ ∧ Full (seen cacR) d1 lo A G ks := by
      rcases RI.out.at_ with h | h
      · have := h.1; have := EN.out; omega
      · exact h.2
    have GZ : Hid (G ≠ Z) := RI.out.apart G rfl
    have GN : Hid (G < w.heap.size) := QN.out G rfl
    obtain ⟨kf, ekf⟩ : ∃ k, ks[f]? = some k := ⟨_, List.getElem?_eq_getElem (by rw [EN.out]; exact FF)⟩
    go_wp2_with fail
    refine (wpIn_wide (n := 0)).1 ?_
    have bA : Below d1.heap.size d1 d1.drew := (Below.refl _ _).drew
    replace RB0 := hide (RB0.out.below bA)
    have FUH := hide (FU.keep (Keep.of_below (S := fun _ => False) bA) (fun _ _ h => h) (fun h => h))
    replace HX := hide ((seen cacR).ok HX.out (Keep.of_below (S := fun _ => False) bA) (fun _ _ h => h))
    replace BW := hide (BW.out.trans (bA.mono (by have := LW.out; have := SZ.out; omega)))
    have RZ0 := RI.out.box.below bA
    rw [EN.out] at RZ0
    have RZ := hide RZ0
    replace SZ : Hid (w.heap.size < d1.drew.heap.size) := RB0.out.lt
    clear bA AT RZ0 RI FU
    refine PhaseIn.region (S := fun v => Rec Z [.int .i64 (n : Nat), .slice (some ⟨G, 0, none⟩) n cap, .int .i64 (f : Nat)] v ∧ Rec w.heap.size [.slice q0 x0.length c0, .int .i64 a1, .int .i64 a2, .slice q3 x3.length c3, .int .i64 a4, .int .i64 a5, .int .i64 a6, .int .i64 a7] v) 9 (by kernel_rfl) ?_
    generalize d1.drew = d2 at RB0 FUH HX BW RZ SZ ⊢
    have hHeld := And.intro RZ.out RB0.out
    have lf : ((f : Nat) : Int) < (n : Nat) := by omega
    refine PhaseIn.takeD (i := 0) (v := ?_) [0, 1, 2, 3, 9, 10] 24 rfl (by rfl) (by kernel_rfl) (by kernel_rfl) (by kernel_rfl) (by kernel_rfl) (by kernel_rfl) (fun _ _ _ h => h) (Or.inl ⟨by kernel_rfl, ?_⟩) hHeld ?_
    rotate_left
    · intro w' hSw
      (try dsimp only at hSw)
      go_simp
      first | done | with_reducible rfl
    try simp only [Act.put, List.setIfInBounds_toArray, List.set]
    refine PhaseIn.takeD (i := 1) (v := ?_) [1, 2, 3, 9, 10] 25 rfl (by rfl) (by kernel_rfl) (by kernel_rfl) (by kernel_rfl) (by kernel_rfl) (by kernel_rfl) (fun _ _ _ h => h) (Or.inl ⟨by kernel_rfl, ?_⟩) hHeld ?_
    rotate_left
    · intro w' hSw
      (try dsimp only at hSw)
      go_simp
      first | done | with_reducible rfl
    try simp only [Act.put, List.setIfInBounds_toArray, List.set]
    refine PhaseIn.takeD (i := 2) (v := ?_) [2, 3, 9, 10] 26 rfl (by rfl) (by kernel_rfl) (by kernel_rfl) (by kernel_rfl) (by kernel_rfl) (by kernel_rfl) (fun _ _ _ h => h) (Or.inl ⟨by kernel_rfl, ?_⟩) hHeld ?_
    rotate_left
    · intro w' hSw
      (try dsimp only at hSw)
      go_simp
      first | done | with_reducible rfl
    try simp only [Act.put, List.setIfInBounds_toArray, List.set]
    refine PhaseIn.takeD (i := 3) (v := ?_) [3, 9, 10] 27 rfl (by rfl) (by kernel_rfl) (by kernel_rfl) (by kernel_rfl) (by kernel_rfl) (by kernel_rfl) (fun _ _ _ h => h) (Or.inl ⟨by kernel_rfl, ?_⟩) hHeld ?_
    rotate_left
    · intro w' hSw
      (try dsimp only at hSw)
      have z0 := hSw.1.cell 0 _ rfl; have z1 := hSw.1.cell 1 _ rfl; have z2 := hSw.1.cell 2 _ rfl
      go_simp
      first | done | with_reducible rfl
    try simp only [Act.put, List.setIfInBounds_toArray, List.set]
    refine PhaseIn.takeD (i := 4) (v := ?_) [4, 5, 6, 7, 9, 10] 28 rfl (by rfl) (by kernel_rfl) (by kernel_rfl) (by kernel_rfl) (by kernel_rfl) (by kernel_rfl) (fun _ _ _ h => h) (Or.inl ⟨by kernel_rfl, ?_⟩) hHeld ?_
    rotate_left
    · intro w' hSw
      (try dsimp only at hSw)
      go_simp
      first | done | with_reducible rfl
    try simp only [Act.put, List.setIfInBounds_toArray, List.set]
    refine PhaseIn.takeD (i := 5) (v := ?_) [5, 6, 7, 9, 10] 29 rfl (by rfl) (by kernel_rfl) (by kernel_rfl) (by kernel_rfl) (by kernel_rfl) (by kernel_rfl) (fun _ _ _ h => h) (Or.inl ⟨by kernel_rfl, ?_⟩) hHeld ?_
    rotate_left
    · intro w' hSw
      (try dsimp only at hSw)
      go_simp
      first | done | with_reducible rfl
    try simp only [Act.put, List.setIfInBounds_toArray, List.set]
    refine PhaseIn.takeD (i := 6) (v := ?_) [6, 7, 9, 10] 30 rfl (by rfl) (by kernel_rfl) (by kernel_rfl) (by kernel_rfl) (by kernel_rfl) (by kernel_rfl) (fun _ _ _ h => h) (Or.inl ⟨by kernel_rfl, ?_⟩) hHeld ?_
    rotate_left
    · intro w' hSw
      (try dsimp only at hSw)
      go_simp
      first | done | with_reducible rfl
    try simp only [Act.put, List.setIfInBounds_toArray, List.set]
    refine PhaseIn.takeD (i := 7) (v := ?_) [7, 9, 10] 31 rfl (by rfl) (by kernel_rfl) (by kernel_rfl) (by kernel_rfl) (by kernel_rfl) (by kernel_rfl) (fun _ _ _ h => h) (Or.inl ⟨by kernel_rfl, ?_⟩) hHeld ?_
    rotate_left
    · intro w' hSw
      (try dsimp only at hSw)
      have z0 := hSw.1.cell 0 _ rfl; have z1 := hSw.1.cell 1 _ rfl; have z2 := hSw.1.cell 2 _ rfl
      go_simp
      first | done | with_reducible rfl
    try simp only [Act.put, List.setIfInBounds_toArray, List.set]
    refine PhaseIn.takeD (i := 8) (v := ?_) [8, 9, 10] 32 rfl (by rfl) (by kernel_rfl) (by kernel_rfl) (by kernel_rfl) (by kernel_rfl) (by kernel_rfl) (fun _ _ _ h => h) (Or.inl ⟨by kernel_rfl, ?_⟩) hHeld ?_
    rotate_left
    · intro w' hSw
      (try dsimp only at hSw)
      have z0 := hSw.2.cell 0 _ rfl; have z1 := hSw.2.cell 1 _ rfl; have z2 := hSw.2.cell 2 _ rfl; have z3 := hSw.2.cell 3 _ rfl; have z4 := hSw.2.cell 4 _ rfl; have z5 := hSw.2.cell 5 _ rfl; have z6 := hSw.2.cell 6 _ rfl; have z7 := hSw.2.cell 7 _ rfl
      go_simp
      first | done | with_reducible rfl
    try simp only [Act.put, List.setIfInBounds_toArray, List.set]
    refine PhaseIn.late (i := 9) (v := ?_) (by kernel_rfl) rfl 33 (by rfl) (by omega) (Or.inl ⟨by kernel_rfl, ?_⟩) ?_
    rotate_left
    · intro w' hSw
      go_simp
      first | done | with_reducible rfl
    try simp only [Act.put, List.setIfInBounds_toArray, List.set]
    obtain ⟨es, ec, ex⟩ := FUH.out.rows f kf ekf
    have ec2 : CellsAt d2 G (f * 8) es := ec
    obtain ⟨e0, e1, e2, e3, e4, e5, e6, e7, rfl⟩ : ∃ e0 e1 e2 e3 e4 e5 e6 e7, es = [e0, e1, e2, e3, e4, e5, e6, e7] := by
      have hl := (seen cacR).ln ex
      match es, hl with
      | [e0, e1, e2, e3, e4, e5, e6, e7], _ => exact ⟨_, _, _, _, _, _, _, _, rfl⟩
    refine PhaseIn.one (i := 10) (by kernel_rfl) rfl (by kernel_rfl) (fun K hK => ?_)
    refine rowInCacEntry _ _ rfl G (f * 8) _ _ _ _ _ _ _ _ ec2 FUH.out.soft ?_ _ _ _ _ _ _ _ _ _ _ _ _ rfl ?_
    · first | rfl | (simp; done)
    refine hK _ _ (fun h => absurd h (by omega)) ?_
    have FS : Full (seen cacR) (setN d2 G (f * 8) [.slice q0 x0.length c0, .int .i64 a1, .int .i64 a2, .slice q3 x3.length c3, .int .i64 a4, .int .i64 a5, .int .i64 a6, .int .i64 a7]) lo A G (ks.set f (x0, a1, a2, x3, a4, a5, a6, a7)) := FUH.out.set (by rw [EN.out]; exact FF) HX.out
    have tn : Turn G d2 (setN d2 G (f * 8) [.slice q0 x0.length c0, .int .i64 a1, .int .i64 a2, .slice q3 x3.length c3, .int .i64 a4, .int .i64 a5, .int .i64 a6, .int .i64 a7]) := setN_turn _ _ _ _
    have R2 := hide (RZ.out.turn tn (fun e => GZ.out e.symm))
    have FSH := hide FS
    have BW2 := hide (BW.out.trans (tn.below FUH.out.lo_ (by have := LW.out; have := SZ.out; omega)))
    have S2 : Hid (w.heap.size < (setN d2 G (f * 8) [.slice q0 x0.length c0, .int .i64 a1, .int .i64 a2, .slice q3 x3.length c3, .int .i64 a4, .int .i64 a5, .int .i64 a6, .int .i64 a7]).heap.size) := Nat.lt_of_lt_of_le SZ.out tn.size
    clear hK K hHeld ec ex ec2 FS tn RZ RB0 HX BW SZ FUH ekf
    try simp only [Act.put, List.setIfInBounds_toArray, List.set]
    generalize setN d2 G (f * 8) [.slice q0 x0.length c0, .int .i64 a1, .int .i64 a2, .slice q3 x3.length c3, .int .i64 a4, .int .i64 a5, .int .i64 a6, .int .i64 a7] = d3 at R2 FSH BW2 S2 ⊢
    refine PhaseIn.done (by kernel_rfl) ?_ _
    have wf1 : IntKind.i64.wrap (((f : Nat) : Int) + 1) = ((f : Nat) : Int) + 1 := IntWalk.i64_in _ ⟨by omega, by omega⟩
    obtain ⟨f1, ef1⟩ : ∃ z, (f + 1) % n = z := ⟨_, rfl⟩
    have lf1 : f1 < n := by rw [← ef1]; exact Nat.mod_lt _ hr
    have rm0 : (((f : Nat) : Int) + 1).tmod (n : Nat) = (f1 : Int) := by
      rw [Int.tmod_eq_emod_of_nonneg (by omega), ← ef1]
      push_cast
      rfl
    have rm1 : IntKind.i64.wrap (f1 : Int) = (f1 : Int) := IntWalk.i64_in _ ⟨by omega, by omega⟩
    have EF1 := hide ef1
    clear ef1
    have nn : ¬ n = 0 := by omega
    go_wp2_with fail
    refine (wpIn_wide (n := 0)).1 ?_
    have bA : Below d3.heap.size d3 d3.drew := (Below.refl _ _).drew
    replace R2 := hide (R2.out.below bA)
    replace FSH := hide (FSH.out.keep (Keep.of_below (S := fun _ => False) bA) (fun _ _ h => h) (fun h => h))
    replace BW2 := hide (BW2.out.trans (bA.mono (by have := LW.out; have := S2.out; omega)))
    replace S2 : Hid (w.heap.size < d3.drew.heap.size) := S2.out
    clear bA
    refine PhaseIn.region (S := fun v => Rec Z [.int .i64 (n : Nat), .slice (some ⟨G, 0, none⟩) n cap, .int .i64 (f : Nat)] v ∧ True) 13 (by kernel_rfl) ?_
    generalize d3.drew = d4 at R2 FSH BW2 S2 ⊢
    have hHeld := And.intro R2.out trivial
    refine PhaseIn.takeD (i := 0) (v := ?_) [0, 11, 12, 13] 34 rfl (by rfl) (by kernel_rfl) (by kernel_rfl) (by kernel_rfl) (by kernel_rfl) (by kernel_rfl) (fun _ _ _ h => h) (Or.inl ⟨by kernel_rfl, ?_⟩) hHeld ?_
    rotate_left
    · intro w' hSw
      (try dsimp only at hSw)
      go_simp
      first | done | with_reducible rfl
    try simp only [Act.put, List.setIfInBounds_toArray, List.set]
    refine PhaseIn.takeD (i := 1) (v := ?_) [1, 2, 3, 4, 5, 10, 11, 12, 13] 35 rfl (by rfl) (by kernel_rfl) (by kernel_rfl) (by kernel_rfl) (by kernel_rfl) (by kernel_rfl) (fun _ _ _ h => h) (Or.inl ⟨by kernel_rfl, ?_⟩) hHeld ?_
    rotate_left
    · intro w' hSw
      (try dsimp only at hSw)
      go_simp
      first | done | with_reducible rfl
    try simp only [Act.put, List.setIfInBounds_toArray, List.set]
    refine PhaseIn.takeD (i := 2) (v := ?_) [2, 3, 4, 5, 10, 11, 12, 13] 36 rfl (by rfl) (by kernel_rfl) (by kernel_rfl) (by kernel_rfl) (by kernel_rfl) (by kernel_rfl) (fun _ _ _ h => h) (Or.inl ⟨by kernel_rfl, ?_⟩) hHeld ?_
    rotate_left
    · intro w' hSw
      (try dsimp only at hSw)
      go_simp
      first | done | with_reducible rfl
    try simp only [Act.put, List.setIfInBounds_toArray, List.set]
    refine PhaseIn.takeD (i := 3) (v := ?_) [3, 4, 5, 10, 11, 12, 13] 37 rfl (by rfl) (by kernel_rfl) (by kernel_rfl) (by kernel_rfl) (by kernel_rfl) (by kernel_rfl) (fun _ _ _ h => h) (Or.inl ⟨by kernel_rfl, ?_⟩) hHeld ?_
    rotate_left
    · intro w' hSw
      (try dsimp only at hSw)
      go_simp
      first | done | with_reducible rfl
    try simp only [Act.put, List.setIfInBounds_toArray, List.set]
    refine PhaseIn.takeD (i := 4) (v := ?_) [4, 5, 10, 11, 12, 13] 38 rfl (by rfl) (by kernel_rfl) (by kernel_rfl) (by kernel_rfl) (by kernel_rfl) (by kernel_rfl) (fun _ _ _ h => h) (Or.inl ⟨by kernel_rfl, ?_⟩) hHeld ?_
    rotate_left
    · intro w' hSw
      (try dsimp only at hSw)
      have z0 := hSw.1.cell 0 _ rfl; have z1 := hSw.1.cell 1 _ rfl; have z2 := hSw.1.cell 2 _ rfl
      go_simp
      first | done | with_reducible rfl
    try simp only [Act.put, List.setIfInBounds_toArray, List.set]
    refine PhaseIn.takeD (i := 5) (v := ?_) [5, 10, 11, 12, 13] 39 rfl (by rfl) (by kernel_rfl) (by kernel_rfl) (by kernel_rfl) (by kernel_rfl) (by kernel_rfl) (fun _ _ _ h => h) (Or.inl ⟨by kernel_rfl, ?_⟩) hHeld ?_
    rotate_left
    · intro w' hSw
      (try dsimp only at hSw)
      go_simp
      first | done | with_reducible rfl
    try simp only [Act.put, List.setIfInBounds_toArray, List.set]
    refine PhaseIn.takeD (i := 6) (v := ?_) [6, 7, 8, 9, 10, 11, 12, 13] 40 rfl (by rfl) (by kernel_rfl) (by kernel_rfl) (by kernel_rfl) (by kernel_rfl) (by kernel_rfl) (fun _ _ _ h => h) (Or.inl ⟨by kernel_rfl, ?_⟩) hHeld ?_
    rotate_left
    · intro w' hSw
      (try dsimp only at hSw)
      go_simp
      first | done | with_reducible rfl
    try simp only [Act.put, List.setIfInBounds_toArray, List.set]
    refine PhaseIn.takeD (i := 7) (v := ?_) [7, 8, 9, 10, 11, 12, 13] 41 rfl (by rfl) (by kernel_rfl) (by kernel_rfl) (by kernel_rfl) (by kernel_rfl) (by kernel_rfl) (fun _ _ _ h => h) (Or.inl ⟨by kernel_rfl, ?_⟩) hHeld ?_
    rotate_left
    · intro w' hSw
      (try dsimp only at hSw)
      go_simp
      first | done | with_reducible rfl
    try simp only [Act.put, List.setIfInBounds_toArray, List.set]
    refine PhaseIn.takeD (i := 8) (v := ?_) [8, 9, 10, 11, 12, 13] 42 rfl (by rfl) (by kernel_rfl) (by kernel_rfl) (by kernel_rfl) (by kernel_rfl) (by kernel_rfl) (fun _ _ _ h => h) (Or.inl ⟨by kernel_rfl, ?_⟩) hHeld ?_
    rotate_left
    · intro w' hSw
      (try dsimp only at hSw)
      go_simp
      first | done | with_reducible rfl
    try simp only [Act.put, List.setIfInBounds_toArray, List.set]
    refine PhaseIn.takeD (i := 9) (v := ?_) [9, 10, 11, 12, 13] 43 rfl (by rfl) (by kernel_rfl) (by kernel_rfl) (by kernel_rfl) (by kernel_rfl) (by kernel_rfl) (fun _ _ _ h => h) (Or.inl ⟨by kernel_rfl, ?_⟩) hHeld ?_
    rotate_left
    · intro w' hSw
      (try dsimp only at hSw)
      have z0 := hSw.1.cell 0 _ rfl; have z1 := hSw.1.cell 1 _ rfl; have z2 := hSw.1.cell 2 _ rfl
      go_simp
      first | done | with_reducible rfl
    try simp only [Act.put, List.setIfInBounds_toArray, List.set]
    try simp only [wf1]
    refine PhaseIn.takeD (i := 10) (v := ?_) [10, 11, 12, 13] 44 rfl (by rfl) (by kernel_rfl) (by kernel_rfl) (by kernel_rfl) (by kernel_rfl) (by kernel_rfl) (fun _ _ _ h => h) (Or.inl ⟨by kernel_rfl, ?_⟩) hHeld ?_
    rotate_left
    · intro w' hSw
      (try dsimp only at hSw)
      go_simp
      first | done | with_reducible rfl
    try simp only [Act.put, List.setIfInBounds_toArray, List.set]
    try simp only [rm0, rm1]
    refine PhaseIn.takeD (i := 11) (v := ?_) [11, 12, 13] 45 rfl (by rfl) (by kernel_rfl) (by kernel_rfl) (by kernel_rfl) (by kernel_rfl) (by kernel_rfl) (fun _ _ _ h => h) (Or.inl ⟨by kernel_rfl, ?_⟩) hHeld ?_
    rotate_left
    · intro w' hSw
      (try dsimp only at hSw)
      go_simp
      first | done | with_reducible rfl
    try simp only [Act.put, List.setIfInBounds_toArray, List.set]
    refine PhaseIn.takeD (i := 12) (v := ?_) [12, 13] 46 rfl (by rfl) (by kernel_rfl) (by kernel_rfl) (by kernel_rfl) (by kernel_rfl) (by kernel_rfl) (fun _ _ _ h => h) (Or.inl ⟨by kernel_rfl, ?_⟩) hHeld ?_
    rotate_left
    · intro w' hSw
      (try dsimp only at hSw)
      go_simp
      first | done | with_reducible rfl
    try simp only [Act.put, List.setIfInBounds_toArray, List.set]
    have z2 := R2.out.cell 2 _ rfl
    have s2 := R2.out.soft 2
    refine PhaseIn.one (i := 13) (by kernel_rfl) rfl (by kernel_rfl) (fun K hK => ?_)
    unfold Oper.wpIn
    refine ⟨fun _ _ => trivial, ?_⟩
    go_simp
    refine hK _ _ (fun h => absurd h (by omega)) ?_
    have t1 : Turn Z d4 (d4.setCell ⟨Z, 2, none⟩ (.int .i64 (f1 : Int))) := (Turn.refl _ d4).setCell (p := ⟨Z, 2, none⟩) rfl _
    have RF := R2.out.set 2 (.int .i64 (f1 : Int)) (by simp) (show _ = ([.int .i64 (n : Nat), .slice (some ⟨G, 0, none⟩) n cap, .int .i64 (f1 : Int)] : List Value) from rfl)
    have FF2 := FSH.out.keep (Keep.of_turn t1) (fun b hb (e : b = Z) => by have := HA.out b hb; have := LZ.out; omega) (fun (e : G = Z) => GZ.out e)
    have BWF := hide (BW2.out.trans (t1.below LZ.out.1 (by have := LW.out; have := S2.out; omega)))
    have lz : (ks.set f (x0, a1, a2, x3, a4, a5, a6, a7)).length = n := by rw [List.length_set]; exact EN.out
    have FIN : Ring (seen cacR) 41 (d4.setCell ⟨Z, 2, none⟩ (.int .i64 (f1 : Int))) lo A Z n f1 (some ⟨G, 0, none⟩) cap (ks.set f (x0, a1, a2, x3, a4, a5, a6, a7)) := ⟨by rw [lz]; exact RF, LZ.out.1, by rw [lz]; exact hle, by unfold maxLen; exact hmx, Or.inr ⟨lz, lf1, G, rfl, FF2⟩, fun G2 e e2 => GZ.out (by injection e with e3; injection e3 with e4; omega), fun h => by have := HA.out _ h; have := LZ.out; omega⟩
    have LO : logic (ks.set f (x0, a1, a2, x3, a4, a5, a6, a7)) f1 = lastN n (logic ks f ++ [(x0, a1, a2, x3, a4, a5, a6, a7)]) := by
      rw [lastN_snoc (by rw [logic_len]; exact EN.out) hr]
      have := logic_put (x := (x0, a1, a2, x3, a4, a5, a6, a7)) (ks := ks) (f := f) (by rw [EN.out]; exact FF)
      rw [EN.out, EF1.out] at this
      exact this
    have FINH := hide (And.intro FIN LO)
    clear hK K z2 s2 t1 hHeld RF FF2 lz FIN LO R2 FSH BW2 S2
    try simp only [Act.put, List.setIfInBounds_toArray, List.set]
    generalize (d4.setCell ⟨Z, 2, none⟩ (.int .i64 (f1 : Int))) = d5 at FINH BWF ⊢
    refine PhaseIn.done (by kernel_rfl) ?_ _
    go_wp2
    go_end0
    exact ⟨rfl, ⟨_, _, _, _, FINH.out⟩, BWF.out⟩
end Go.Proofs.Ythlpndligadnjaa.Dt
