/-
  The registers at the beginning: the program's SymNew.
  The laws' own marks of atoms.
-/
import Derived.Test.YtnlfcocejkaieaaJ23
import Derived.Test.YtnlfcocejkaieaaJ10
import Derived.Test.YtnlfcocejkaieaaJ07
namespace Go.Proofs.Ytnlfcocejkaieaa.Sym
set_option linter.unusedVariables false
set_option linter.unusedSimpArgs false
open Go.ChangeShapes Go.WideShapes Go.ChangeAt Go.RowKit IntS Pol Tab
theorem tab_nil (w : World) (lo hi : Nat) : WTab w lo hi (.slice none 0 0) [] := ⟨none, 0, 0, fun _ => 0, fun _ => 0, fun _ => 0, fun _ => .slice none 0 0, fun _ => .slice none 0 0, rfl, Nat.le_refl _, by unfold maxLen; omega, fun _ => rfl, Or.inl rfl, fun i t hi => by simp at hi, fun i j _ hj => by simp at hj⟩
/-- What sightOf of no atoms tells. -/
def SightR (w : World) (e : Ending) (w' : World) : Prop := ∃ P q cap qi capi lo hi, e = .returned (.pointer (some ⟨P, 0, none⟩)) ∧ Rec P [.slice q 4 cap, .slice qi 4 capi, .slice none 0 0, .slice none 0 0, .int .i64 0, .int .i64 0] w' ∧ OwnI w' w.heap.size (.slice qi 4 capi) 4 ∧ WTab w' lo hi (.slice q 4 cap) (regsA 4) ∧ w.heap.size ≤ lo ∧ hi ≤ w'.heap.size ∧ Below w.heap.size w w'
theorem OwnI.low {w : World} {lo lo' k : Nat} {v : Value} (h : OwnI w lo v k) (hl : lo' ≤ lo) : OwnI w lo' v k := ⟨h.1, h.2.imp id (fun ⟨g, c, cur, e, hb, r⟩ => ⟨g, c, cur, e, Nat.le_trans hl hb, r⟩)⟩
set_option maxRecDepth 8000 in
set_option maxHeartbeats 8000000 in
theorem sightOf (w : World) : Calls Try.prog 13 #[.agg #[.slice none 0 0]] w (SightR w) := by
  have FI : Hid (∀ q cap qi capi lo hi u, Rec (w.heap.size + 1) [.slice q 4 cap, .slice qi 4 capi, .slice none 0 0, .slice none 0 0, .int .i64 0, .int .i64 0] u → OwnI u (w.heap.size + 1 + 1) (.slice qi 4 capi) 4 → WTab u lo hi (.slice q 4 cap) (regsA 4) → w.heap.size ≤ lo → hi ≤ u.heap.size → Below w.heap.size w u → SightR w (.returned (.pointer (some ⟨w.heap.size + 1, 0, none⟩))) u) := fun q cap qi capi lo hi u h1 h2 h3 h4 h5 h6 => ⟨w.heap.size + 1, q, cap, qi, capi, lo, hi, rfl, h1, h2.low (by omega), h3, h4, h5, h6⟩
  obtain ⟨R, eR⟩ : ∃ R, SightR w = R := ⟨_, rfl⟩
  rw [eR] at FI ⊢
  clear eR
  have P0 := Rec.new (w.alloc (.cells #[.slice none 0 0] 24)) [.slice none 0 0, .slice none 0 0, .slice none 0 0, .slice none 0 0, .int .i64 0, .int .i64 0] 44
  rw [show (w.alloc (.cells #[.slice none 0 0] 24)).heap.size = w.heap.size + 1 by simp] at P0
  have RP := hide P0
  have BW : Hid (Below w.heap.size w ((w.alloc (.cells #[.slice none 0 0] 24)).alloc (.cells #[.slice none 0 0, .slice none 0 0, .slice none 0 0, .slice none 0 0, .int .i64 0, .int .i64 0] 44))) := ((Below.refl _ _).alloc (Nat.le_refl _) _).alloc (by simp) _
  have OI : Hid (OwnI ((w.alloc (.cells #[.slice none 0 0] 24)).alloc (.cells #[.slice none 0 0, .slice none 0 0, .slice none 0 0, .slice none 0 0, .int .i64 0, .int .i64 0] 44)) (w.heap.size + 1 + 1) (.slice none 0 0) 0) := ⟨rfl, Or.inl ⟨rfl, rfl⟩⟩
  clear P0
  go_enter Try.func13, Try.ntmps13
  go_wp2
  go_loopw [8] (fun i wr => ∃ (k cap capi lo hi : Nat) (q qi : Option Addr), k ≤ 4 ∧ i = .int .i64 k ∧ Hid (Rec (w.heap.size + 1) [.slice q k cap, .slice qi k capi, .slice none 0 0, .slice none 0 0, .int .i64 0, .int .i64 0] wr) ∧ Hid (OwnI wr (w.heap.size + 1 + 1) (.slice qi k capi) k) ∧ Hid (WTab wr lo hi (.slice q k cap) (regsA k) ∧ w.heap.size ≤ lo ∧ hi ≤ wr.heap.size) ∧ Hid (Below w.heap.size w wr)) (fun i _ => 4 - (intOf i).toNat)
  case atStart => exact ⟨0, 0, 0, w.heap.size, w.heap.size, none, none, by omega, rfl, RP, OI, ⟨tab_nil _ _ _, Nat.le_refl _, by simp; omega⟩, BW⟩
  case round =>
    clear RP OI BW
    obtain ⟨k, cap, capi, lo, hi, q, qi, hk, rfl, RP, OI, WT, BW⟩ := hrel
    by_cases hlt : k < 4
    case neg =>
      obtain rfl : k = 4 := by omega
      have FX := hide (FI.out _ _ _ _ _ _ _ RP.out OI.out WT.out.1 WT.out.2.1 WT.out.2.2 BW.out)
      clear FI RP OI WT BW
      go_wp2
      exact FX.out
    have lk : ((k : Nat) : Int) < 4 := by omega
    go_wp2_with fail
    refine (wpIn_wide (n := 0)).1 ?_
    have D : Below wr.heap.size wr wr.drew := (Below.refl _ _).drew
    replace BW := hide (BW.out.trans (D.mono BW.out.size))
    replace WT := hide (And.intro (WT.out.1.below D) (And.intro WT.out.2.1 (Nat.le_trans WT.out.2.2 D.size)))
    replace RP := hide (RP.out.below D)
    replace OI := hide (OI.out.below D)
    clear D
    refine PhaseIn.region (S := fun D => D.cell? ⟨w.heap.size + 1, 1, none⟩ = some (.slice qi k capi)) 10 (by kernel_rfl) ?_
    generalize wr.drew = u at RP OI WT BW ⊢
    have hHeld : u.cell? ⟨w.heap.size + 1, 1, none⟩ = some (.slice qi k capi) := RP.out.cell 1 _ rfl
    obtain ⟨B, HT⟩ := WT.out.1.read
    have TR := hide HT
    clear HT
    refine PhaseIn.takeD (i := 0) (v := ?_) [0, 10, 11, 12] 11 rfl (by rfl) (by kernel_rfl) (by kernel_rfl) (by kernel_rfl) (by kernel_rfl) (by kernel_rfl) (fun _ _ _ h => h) (Or.inl ⟨by kernel_rfl, ?_⟩) hHeld ?_
    rotate_left
    · intro w' hSw
      (try dsimp only at hSw)
      go_simp
      first | done | with_reducible rfl
    try simp only [Act.put, List.setIfInBounds_toArray, List.set]
    refine PhaseIn.takeD (i := 1) (v := ?_) [1, 2, 3, 4, 9, 10, 11, 12] 12 rfl (by rfl) (by kernel_rfl) (by kernel_rfl) (by kernel_rfl) (by kernel_rfl) (by kernel_rfl) (fun _ _ _ h => h) (Or.inl ⟨by kernel_rfl, ?_⟩) hHeld ?_
    rotate_left
    · intro w' hSw
      (try dsimp only at hSw)
      go_simp
      first | done | with_reducible rfl
    try simp only [Act.put, List.setIfInBounds_toArray, List.set]
    refine PhaseIn.takeD (i := 2) (v := ?_) [2, 3, 4, 9, 10, 11, 12] 13 rfl (by rfl) (by kernel_rfl) (by kernel_rfl) (by kernel_rfl) (by kernel_rfl) (by kernel_rfl) (fun _ _ _ h => h) (Or.inl ⟨by kernel_rfl, ?_⟩) hHeld ?_
    rotate_left
    · intro w' hSw
      (try dsimp only at hSw)
      go_simp
      first | done | with_reducible rfl
    try simp only [Act.put, List.setIfInBounds_toArray, List.set]
    refine PhaseIn.takeD (i := 3) (v := ?_) [3, 4, 9, 10, 11, 12] 14 rfl (by rfl) (by kernel_rfl) (by kernel_rfl) (by kernel_rfl) (by kernel_rfl) (by kernel_rfl) (fun _ _ _ h => h) (Or.inl ⟨by kernel_rfl, ?_⟩) hHeld ?_
    rotate_left
    · intro w' hSw
      (try dsimp only at hSw)
      go_simp
      first | done | with_reducible rfl
    try simp only [Act.put, List.setIfInBounds_toArray, List.set]
    refine PhaseIn.takeD (i := 4) (v := ?_) [4, 9, 10, 11, 12] 15 rfl (by rfl) (by kernel_rfl) (by kernel_rfl) (by kernel_rfl) (by kernel_rfl) (by kernel_rfl) (fun _ _ _ h => h) (Or.inl ⟨by kernel_rfl, ?_⟩) hHeld ?_
    rotate_left
    · intro w' hSw
      (try dsimp only at hSw)
      have z1 := hSw
      go_simp
      first | done | with_reducible rfl
    try simp only [Act.put, List.setIfInBounds_toArray, List.set]
    refine PhaseIn.takeD (i := 5) (v := ?_) [5, 7, 8, 9, 10, 11, 12] 16 rfl (by rfl) (by kernel_rfl) (by kernel_rfl) (by kernel_rfl) (by kernel_rfl) (by kernel_rfl) (fun _ _ _ h => h) (Or.inl ⟨by kernel_rfl, ?_⟩) hHeld ?_
    rotate_left
    · intro w' hSw
      (try dsimp only at hSw)
      go_simp
      first | done | with_reducible rfl
    try simp only [Act.put, List.setIfInBounds_toArray, List.set]
    refine PhaseIn.takeD (i := 6) (v := ?_) [6, 7, 8, 9, 10, 11, 12] 17 rfl (by rfl) (by kernel_rfl) (by kernel_rfl) (by kernel_rfl) (by kernel_rfl) (by kernel_rfl) (fun _ _ _ h => h) (Or.inl ⟨by kernel_rfl, ?_⟩) hHeld ?_
    rotate_left
    · intro w' hSw
      (try dsimp only at hSw)
      go_simp
      first | done | with_reducible rfl
    try simp only [Act.put, List.setIfInBounds_toArray, List.set]
    refine PhaseIn.one (i := 7) (by kernel_rfl) rfl (by kernel_rfl) (fun K hK => ?_)
    unfold Oper.wpIn
    refine ⟨fun _ _ => trivial, ?_⟩
    go_simp
    refine ⟨rfl, (callsIn_wide.2 (atom k hlt (w.heap.size + 1) B q cap _ _ _ _ _ u RP.out TR.out)).mono ?_⟩
    rintro e u1 ⟨rfl, q', cap', hi', RP1, WT1, hh, tn⟩
    have hHeld1 : u1.cell? ⟨w.heap.size + 1, 1, none⟩ = some (.slice qi k capi) := RP1.cell 1 _ rfl
    refine hK _ _ (fun _ => hHeld1) ?_
    clear hK K hHeld TR
    have LU : Hid (w.heap.size + 1 < u.heap.size ∧ w.heap.size ≤ u.heap.size) := ⟨RP.out.lt, BW.out.size⟩
    have GL : Hid (∀ G, qi = some ⟨G, 0, none⟩ → G < u.heap.size) := fun G e => by
      rcases OI.out.form with e2 | ⟨G2, e2, _, h2⟩
      · rw [e] at e2; cases e2
      · rw [e] at e2
        injection e2 with e3
        injection e3 with e4
        omega
    have OI1 := OI.out.turn tn (Or.inl (by omega))
    have BW1 := BW.out.trans (tn.below (by omega) BW.out.size)
    try simp only [Act.put, List.setIfInBounds_toArray, List.set]
    refine PhaseIn.one (i := 8) (by kernel_rfl) rfl (by kernel_rfl) (fun K hK => ?_)
    unfold Oper.wpIn
    refine ⟨fun _ _ => trivial, ?_⟩
    go_simp
    have bo := alloc_below u1 (.cells #[.iface 63 (.int .i64 (k : Int))] 55)
    have CN : (u1.alloc (.cells #[.iface 63 (.int .i64 (k : Int))] 55)).cell? ((⟨u1.heap.size, 0, none⟩ : Addr).add 0) = some (.iface 63 (.int .i64 (k : Int))) := by
      rw [Go.WideShapes.add_plain]
      exact World.cell?_alloc_new u1 #[.iface 63 (.int .i64 (k : Int))] 55 0
    have hHeld2 : (u1.alloc (.cells #[.iface 63 (.int .i64 (k : Int))] 55)).cell? ⟨w.heap.size + 1, 1, none⟩ = some (.slice qi k capi) := (RP1.below bo).cell 1 _ rfl
    have LO : w.heap.size + 1 + 1 ≤ (u1.alloc (.cells #[.iface 63 (.int .i64 (k : Int))] 55)).heap.size := Nat.le_trans (Nat.le_trans LU.out.1 tn.size) bo.size
    obtain ⟨g9, c9, u9, hrun, ho9, hor9, hlt9, gr⟩ := run_pushIf (ty := 41) (OI1.below bo) (by omega) LO ⟨u1.heap.size, 0, none⟩ CN
    have fq := (OI1.below bo).form
    have BG := grown_below (lo := w.heap.size + 1 + 1) (fq.imp id (fun ⟨G, e, h1, _⟩ => ⟨G, e, h1⟩)) LO gr
    obtain ⟨T, tT, hT⟩ := Flat.grown_turn gr (fq.imp id (fun ⟨G, e, _⟩ => ⟨G, e⟩))
    have WT9 := (WT1.below bo).keep (Keep.of_turn tT) (fun b h1 h2 (h3 : b = _) => by
      rcases hT with hT | hT
      · have := GL.out T hT
        omega
      · have := bo.size
        omega)
    have RP9 := rec_low (RP1.below bo) BG (by omega)
    have hHeld9 : u9.cell? ⟨w.heap.size + 1, 1, none⟩ = some (.slice qi k capi) := RP9.cell 1 _ rfl
    have v1 := RP9.soft 1
    have tn2 : Turn (w.heap.size + 1) u9 (u9.setCell ⟨w.heap.size + 1, 1, none⟩ (.slice (some ⟨g9, 0, none⟩) (k + 1) c9)) := (Turn.refl (w.heap.size + 1) u9).setCell (p := ⟨w.heap.size + 1, 1, none⟩) rfl _
    have RPF := hide (RP9.set 1 (.slice (some ⟨g9, 0, none⟩) (k + 1) c9) (by simp) rfl)
    have OIF := hide (ho9.turn tn2 (Or.inl (by omega)))
    have LH : hi' ≤ u9.heap.size := Nat.le_trans (Nat.le_trans hh bo.size) BG.size
    have WTF := hide (And.intro (WT9.keep (Keep.of_turn tn2) (fun b h1 h2 (h3 : b = _) => by have := LU.out; omega)) (And.intro LU.out.2 (Nat.le_trans LH tn2.size)))
    have BWF := hide (((BW1.trans (bo.mono BW1.size)).trans (BG.mono (by omega))).trans (tn2.below (by omega) (Nat.le_trans (Nat.le_trans BW1.size bo.size) BG.size)))
    refine hK _ _ (fun _ => hHeld2) ?_
    clear hK K hHeld1 WT9 RP9 tn2 LH tT hT BG fq gr hlt9 hor9 ho9 LO CN WT1 RP1 OI1 BW1 RP OI WT BW tn hh bo
    try simp only [Act.put, List.setIfInBounds_toArray, List.set]
    refine PhaseIn.one (i := 9) (by kernel_rfl) rfl (by kernel_rfl) (fun K hK => ?_)
    refine Push.push_in _ _ rfl rfl rfl hrun (hK _ _ (fun _ => hHeld9) ?_)
    clear hK K hHeld2
    try simp only [Act.put, List.setIfInBounds_toArray, List.set]
    refine PhaseIn.late (i := 10) (v := ?_) (by kernel_rfl) rfl 21 (by rfl) (by omega) (Or.inl ⟨by kernel_rfl, ?_⟩) ?_
    rotate_left
    · intro w' hSw
      go_simp
      first | done | with_reducible rfl
    try simp only [Act.put, List.setIfInBounds_toArray, List.set]
    refine PhaseIn.late (i := 11) (v := ?_) (by kernel_rfl) rfl 22 (by rfl) (by omega) (Or.inl ⟨by kernel_rfl, ?_⟩) ?_
    rotate_left
    · intro w' hSw
      go_simp
      first | done | with_reducible rfl
    try simp only [Act.put, List.setIfInBounds_toArray, List.set]
    refine PhaseIn.one (i := 12) (by kernel_rfl) rfl (by kernel_rfl) (fun K hK => ?_)
    unfold Oper.wpIn
    refine ⟨fun _ _ => trivial, ?_⟩
    go_simp
    refine hK _ _ (fun h => absurd h (by omega)) ?_
    clear hK K hHeld9 v1
    try simp only [Act.put, List.setIfInBounds_toArray, List.set]
    refine PhaseIn.done (by kernel_rfl) ?_ _
    go_wp2
    exact ⟨⟨k + 1, cap', c9, u.heap.size, hi', q', some ⟨g9, 0, none⟩, by omega, by go_num, RPF, OIF, WTF, BWF⟩, by simp [intOf]; omega⟩

/-- What the program's SymNew tells. -/
def NewI (w : World) (e : Ending) (w' : World) : Prop := ∃ q cap q2 cap2 lo mid, e = .returned (.tuple #[.agg #[.slice q 4 cap], .slice q2 4 cap2]) ∧ w.heap.size ≤ lo ∧ WTab w' lo mid (.slice q 4 cap) (regsA 4) ∧ WSums w' mid w'.heap.size (.slice q2 4 cap2) (regsS 4) ∧ mid ≤ w'.heap.size ∧ w.heap.size ≤ mid ∧ Below w.heap.size w w'
set_option maxRecDepth 8000 in
set_option maxHeartbeats 8000000 in
theorem implSymNew (w : World) : Calls Try.prog 5 #[] w (NewI w) := by
  have FI : Hid (∀ q cap q2 cap2 lo mid u, w.heap.size ≤ lo → WTab u lo mid (.slice q 4 cap) (regsA 4) → WSums u mid u.heap.size (.slice q2 4 cap2) (regsS 4) → mid ≤ u.heap.size → w.heap.size ≤ mid → Below w.heap.size w u → NewI w (.returned (.tuple #[.agg #[.slice q 4 cap], .slice q2 4 cap2])) u) := fun q cap q2 cap2 lo mid u h1 h2 h3 h4 h6 h5 => ⟨q, cap, q2, cap2, lo, mid, rfl, h1, h2, h3, h4, h6, h5⟩
  obtain ⟨R, eR⟩ : ∃ R, NewI w = R := ⟨_, rfl⟩
  rw [eR] at FI ⊢
  clear eR
  have bo := alloc_below w (.cells #[.slice none 0 0] 24)
  have A0 := hide (Rec.new w [.slice none 0 0] 24)
  have S0 : Hid ((w.alloc (.cells #[.slice none 0 0] 24)).heap.size = w.heap.size + 1) := show _ = _ by simp
  have B0 := hide bo
  clear bo
  go_enter Try.func5, Try.ntmps5
  go_wp2_with fail
  refine (sightOf _).mono ?_
  rintro e u ⟨P, q, cap, qi, capi, lo, hi, rfl, RP, OI, WT, h1, h2, hb⟩
  rw [S0.out] at h1
  replace OI := OI.low (Nat.le_of_eq S0.out.symm)
  replace A0 := hide (A0.out.below hb)
  replace B0 := hide (B0.out.trans (hb.mono B0.out.size))
  replace RP := hide RP
  replace OI := hide OI
  have WH := hide (And.intro WT (And.intro h1 h2))
  clear hb S0 WT h1 h2
  go_wp2_with fail
  refine (wpIn_wide (n := 0)).1 ?_
  have D : Below u.heap.size u u.drew := (Below.refl _ _).drew
  replace A0 := hide (A0.out.below D)
  replace B0 := hide (B0.out.trans (D.mono B0.out.size))
  replace RP := hide (RP.out.below D)
  replace OI := hide (OI.out.below D)
  replace WH := hide (And.intro (WH.out.1.below D) (And.intro WH.out.2.1 (Nat.le_trans WH.out.2.2 D.size)))
  clear D
  refine PhaseIn.region (S := fun D => Rec P [.slice q 4 cap, .slice qi 4 capi, .slice none 0 0, .slice none 0 0, .int .i64 0, .int .i64 0] D) 9 (by kernel_rfl) ?_
  generalize u.drew = v at A0 B0 RP OI WH ⊢
  have hHeld : Rec P [.slice q 4 cap, .slice qi 4 capi, .slice none 0 0, .slice none 0 0, .int .i64 0, .int .i64 0] v := RP.out
  refine PhaseIn.takeD (i := 0) (v := ?_) [0, 1, 2, 3, 9, 10] 5 rfl (by rfl) (by kernel_rfl) (by kernel_rfl) (by kernel_rfl) (by kernel_rfl) (by kernel_rfl) (fun _ _ _ h => h) (Or.inl ⟨by kernel_rfl, ?_⟩) hHeld ?_
  rotate_left
  · intro w' hSw
    (try dsimp only at hSw)
    go_simp
    first | done | with_reducible rfl
  try simp only [Act.put, List.setIfInBounds_toArray, List.set]
  refine PhaseIn.takeD (i := 1) (v := ?_) [1, 2, 3, 9, 10] 6 rfl (by rfl) (by kernel_rfl) (by kernel_rfl) (by kernel_rfl) (by kernel_rfl) (by kernel_rfl) (fun _ _ _ h => h) (Or.inl ⟨by kernel_rfl, ?_⟩) hHeld ?_
  rotate_left
  · intro w' hSw
    (try dsimp only at hSw)
    go_simp
    first | done | with_reducible rfl
  try simp only [Act.put, List.setIfInBounds_toArray, List.set]
  refine PhaseIn.takeD (i := 2) (v := ?_) [2, 3, 9, 10] 7 rfl (by rfl) (by kernel_rfl) (by kernel_rfl) (by kernel_rfl) (by kernel_rfl) (by kernel_rfl) (fun _ _ _ h => h) (Or.inl ⟨by kernel_rfl, ?_⟩) hHeld ?_
  rotate_left
  · intro w' hSw
    (try dsimp only at hSw)
    go_simp
    first | done | with_reducible rfl
  try simp only [Act.put, List.setIfInBounds_toArray, List.set]
  refine PhaseIn.takeD (i := 3) (v := ?_) [3, 9, 10] 8 rfl (by rfl) (by kernel_rfl) (by kernel_rfl) (by kernel_rfl) (by kernel_rfl) (by kernel_rfl) (fun _ _ _ h => h) (Or.inl ⟨by kernel_rfl, ?_⟩) hHeld ?_
  rotate_left
  · intro w' hSw
    (try dsimp only at hSw)
    have z0 := hSw.cell 0 _ rfl
    go_simp
    first | done | with_reducible rfl
  try simp only [Act.put, List.setIfInBounds_toArray, List.set]
  refine PhaseIn.takeD (i := 4) (v := ?_) [4, 5, 6, 7, 8, 9, 10] 9 rfl (by rfl) (by kernel_rfl) (by kernel_rfl) (by kernel_rfl) (by kernel_rfl) (by kernel_rfl) (fun _ _ _ h => h) (Or.inl ⟨by kernel_rfl, ?_⟩) hHeld ?_
  rotate_left
  · intro w' hSw
    (try dsimp only at hSw)
    go_simp
    first | done | with_reducible rfl
  try simp only [Act.put, List.setIfInBounds_toArray, List.set]
  refine PhaseIn.takeD (i := 5) (v := ?_) [5, 6, 7, 8, 9, 10] 10 rfl (by rfl) (by kernel_rfl) (by kernel_rfl) (by kernel_rfl) (by kernel_rfl) (by kernel_rfl) (fun _ _ _ h => h) (Or.inl ⟨by kernel_rfl, ?_⟩) hHeld ?_
  rotate_left
  · intro w' hSw
    (try dsimp only at hSw)
    go_simp
    first | done | with_reducible rfl
  try simp only [Act.put, List.setIfInBounds_toArray, List.set]
  refine PhaseIn.takeD (i := 6) (v := ?_) [6, 7, 8, 9, 10] 11 rfl (by rfl) (by kernel_rfl) (by kernel_rfl) (by kernel_rfl) (by kernel_rfl) (by kernel_rfl) (fun _ _ _ h => h) (Or.inl ⟨by kernel_rfl, ?_⟩) hHeld ?_
  rotate_left
  · intro w' hSw
    (try dsimp only at hSw)
    go_simp
    first | done | with_reducible rfl
  try simp only [Act.put, List.setIfInBounds_toArray, List.set]
  refine PhaseIn.takeD (i := 7) (v := ?_) [7, 8, 9, 10] 12 rfl (by rfl) (by kernel_rfl) (by kernel_rfl) (by kernel_rfl) (by kernel_rfl) (by kernel_rfl) (fun _ _ _ h => h) (Or.inl ⟨by kernel_rfl, ?_⟩) hHeld ?_
  rotate_left
  · intro w' hSw
    (try dsimp only at hSw)
    have z1 := hSw.cell 1 _ rfl
    go_simp
    first | done | with_reducible rfl
  try simp only [Act.put, List.setIfInBounds_toArray, List.set]
  refine PhaseIn.one (i := 8) (by kernel_rfl) rfl (by kernel_rfl) (fun K hK => ?_)
  unfold Oper.wpIn
  refine ⟨fun _ _ => trivial, ?_⟩
  go_simp
  refine ⟨rfl, (callsIn_wide.2 (toldSums _ _ _ v OI.out)).mono ?_⟩
  rintro e v1 ⟨q2, cap2, ss, l, h, rfl, OS, hb⟩
  refine hK _ _ (fun _ => hHeld.below hb) ?_
  clear hK K hHeld
  have A1 := A0.out.below hb
  have c0 := A1.cell 0 _ rfl
  have s0 := A1.soft 0
  have LV : Hid (w.heap.size < v.heap.size) := A0.out.lt
  have WS := OS.whole
  rw [regsS_len] at WS
  have tn : Turn w.heap.size v1 (v1.setCell ⟨w.heap.size, 0, none⟩ (.slice q 4 cap)) := (Turn.refl w.heap.size v1).setCell (p := ⟨w.heap.size, 0, none⟩) rfl _
  have WS1 := (WS.keep (Keep.of_turn tn) (fun b h1 h2 (h3 : b = _) => by have := LV.out; omega)).wide (lo' := v.heap.size) (hi' := (v1.setCell ⟨w.heap.size, 0, none⟩ (.slice q 4 cap)).heap.size) (Nat.le_refl _) tn.size
  have WT1 := ((WH.out.1.below hb).keep (Keep.of_turn tn) (fun b h1 h2 (h3 : b = _) => by have := WH.out.2.1; omega)).wide (lo' := lo) (hi' := v.heap.size) (Nat.le_refl _) WH.out.2.2
  have FX := hide (FI.out q cap q2 cap2 lo v.heap.size _ (by have := WH.out.2.1; omega) WT1 WS1 (Nat.le_trans hb.size tn.size) B0.out.size ((B0.out.trans (hb.mono B0.out.size)).trans (tn.below (Nat.le_refl _) (Nat.le_trans B0.out.size hb.size))))
  have z0 := (A1.set 0 (.slice q 4 cap) (by simp) rfl).cell 0 _ rfl
  clear A0 B0 RP OI WH OS hb A1 LV WS tn WS1 WT1 FI
  try simp only [Act.put, List.setIfInBounds_toArray, List.set]
  refine PhaseIn.one (i := 9) (by kernel_rfl) rfl (by kernel_rfl) (fun K hK => ?_)
  unfold Oper.wpIn
  refine ⟨fun _ _ => trivial, ?_⟩
  go_simp
  refine hK _ _ (fun h => absurd h (by omega)) ?_
  clear hK K
  try simp only [Act.put, List.setIfInBounds_toArray, List.set]
  refine PhaseIn.late (i := 10) (v := ?_) (by kernel_rfl) rfl 1 (by rfl) (by omega) (Or.inl ⟨by kernel_rfl, ?_⟩) ?_
  rotate_left
  · intro w' hSw
    go_simp
    first | done | with_reducible rfl
  try simp only [Act.put, List.setIfInBounds_toArray, List.set]
  refine PhaseIn.done (by kernel_rfl) ?_ _
  go_wp2
  exact bodyPost_ret (v := .tuple #[.agg #[.slice q 4 cap], .slice q2 4 cap2]) (by simp [results, Try.results5, go_sem, z0]) rfl FX.out

end Go.Proofs.Ytnlfcocejkaieaa.Sym
namespace Go.Proofs.Ytnlfcocejkaieaa.Tab
set_option linter.unusedVariables false
open Go.ChangeShapes Go.WideShapes Go.ChangeAt Go.RowKit IntS Pol
def offT (ts : List At) (j : Nat) : Int := 2 * (j : Int) + (totT (ts.take j) : Int)
theorem offs_full (ps : List Mono) : offs ps ps.length = (ps.length : Int) + (tot ps : Int) := by unfold offs; rw [List.take_length]
theorem offT_next {ts : List At} {j : Nat} {t : At} (h : ts[j]? = some t) : offT ts (j + 1) = offT ts j + 2 + offs t.x t.x.length + offs t.y t.y.length := by
  rw [offs_full, offs_full]
  unfold offT
  rw [totT_next h]
  unfold szA
  omega
def markT1 (ts : List At) (k : Int) (j : Nat) (t : At) : At := ⟨k + offT ts j, k + offT ts j + 1, markP t.x (k + offT ts j + 2), markP t.y (k + offT ts j + 2 + offs t.x t.x.length)⟩
def mixT (ts : List At) (k : Int) (n : Nat) : List At := ts.mapIdx fun j x => if j < n then markT1 ts k j x else x
def markT (ts : List At) (k : Int) : List At := ts.mapIdx fun j x => markT1 ts k j x
theorem markT_at {ts : List At} {k : Int} {j : Nat} {x : At} (h : ts[j]? = some x) : (markT ts k)[j]? = some (markT1 ts k j x) := by unfold markT; rw [List.getElem?_mapIdx, h]; rfl
theorem mixT_at {ts : List At} {k : Int} {n j : Nat} {x : At} (h : ts[j]? = some x) : (mixT ts k n)[j]? = some (if j < n then markT1 ts k j x else x) := by unfold mixT; rw [List.getElem?_mapIdx, h]; rfl
theorem mixT_len (ts : List At) (k : Int) (n : Nat) : (mixT ts k n).length = ts.length := by unfold mixT; rw [List.length_mapIdx]
theorem markT_len (ts : List At) (k : Int) : (markT ts k).length = ts.length := by unfold markT; rw [List.length_mapIdx]
theorem mixT_none {ts : List At} {k : Int} {n j : Nat} (h : ts[j]? = none) : (mixT ts k n)[j]? = none := by unfold mixT; rw [List.getElem?_mapIdx, h]; rfl
theorem mixT_zero (ts : List At) (k : Int) : mixT ts k 0 = ts := by
  apply List.ext_getElem?
  intro i
  cases h : ts[i]? with
  | none => rw [mixT_none h]
  | some x => rw [mixT_at h, if_neg (by omega)]
theorem mixT_whole (ts : List At) (k : Int) : mixT ts k ts.length = markT ts k := by
  apply List.ext_getElem?
  intro i
  cases h : ts[i]? with
  | none => rw [mixT_none h]; unfold markT; rw [List.getElem?_mapIdx, h]; rfl
  | some x => rw [mixT_at h, markT_at h, if_pos (List.getElem?_eq_some_iff.1 h).1]
theorem mixT_next {ts : List At} {k : Int} {n : Nat} {x : At} (h : ts[n]? = some x) : (mixT ts k n).set n (markT1 ts k n x) = mixT ts k (n + 1) := by
  apply List.ext_getElem?
  intro i
  by_cases e : n = i
  · subst e
    rw [List.getElem?_set_self (by rw [mixT_len]; exact (List.getElem?_eq_some_iff.1 h).1), mixT_at h, if_pos (by omega)]
  · rw [List.getElem?_set_ne e]
    cases g : ts[i]? with
    | none => rw [mixT_none g, mixT_none g]
    | some y =>
      rw [mixT_at g, mixT_at g]
      by_cases e2 : i < n
      · rw [if_pos e2, if_pos (by omega)]
      · rw [if_neg e2, if_neg (by omega)]
theorem WT.mark {w w' : World} {lo hi : Nat} {a : Option Addr} {G cap : Nat} {l m hh : Nat → Nat} {sx sy : Nat → Value} {ts : List At} (h : WT w lo hi a G cap l m hh sx sy ts) {j : Nat} {t : At} (ht : ts[j]? = some t) {kd k : Int} {xs ys : List Mono}
    (hk : Keep (fun b => b = G ∨ (l j ≤ b ∧ b < hh j)) w w') (c0 : w'.cell? ⟨G, j * 4, none⟩ = some (.int .i64 kd)) (c1 : w'.cell? ⟨G, j * 4 + 1, none⟩ = some (.int .i64 k)) (far : ∀ o, o ≠ j * 4 → o ≠ j * 4 + 1 → w'.cell? ⟨G, o, none⟩ = w.cell? ⟨G, o, none⟩) (fr : ∀ o, w'.frozen? ⟨G, o, none⟩ = w.frozen? ⟨G, o, none⟩)
    (hx : WPoly w' (l j) (m j) (sx j) xs) (hy : WPoly w' (m j) (hh j) (sy j) ys) : WT w' lo hi a G cap l m hh sx sy (ts.set j ⟨kd, k, xs, ys⟩) := by
  have hj := (List.getElem?_eq_some_iff.1 ht).1
  have hG := h.at_.resolve_left (fun e => by rw [e] at ht; simp at ht)
  refine ⟨by rw [List.length_set]; exact h.le, h.mx, h.nl, Or.inr ⟨hG.1, hG.2.1, hG.2.2.1, Nat.lt_of_lt_of_le hG.2.2.2 hk.size⟩, fun i x hi => ?_, fun i i' e e' => h.apart i i' e (by rw [List.length_set] at e'; exact e')⟩
  by_cases e : j = i
  · subst e
    rw [List.getElem?_set_self hj] at hi
    obtain rfl := Option.some.inj hi
    obtain ⟨⟨k1, k2, k3, k4, k5, k6⟩, _, _, k9⟩ := h.cells j t ht
    exact ⟨⟨c0, (fr _).trans k2, c1, (fr _).trans k4, (far _ (by omega) (by omega)).trans k5, (far _ (by omega) (by omega)).trans k6⟩, hx, hy, k9⟩
  · rw [List.getElem?_set_ne e] at hi
    have hil := (List.getElem?_eq_some_iff.1 hi).1
    obtain ⟨⟨k1, k2, k3, k4, k5, k6⟩, k7, k8, k9, k10, k11, k12, k13⟩ := h.cells i x hi
    have hap : hh i ≤ l j ∨ hh j ≤ l i := by
      by_cases e2 : i < j
      · exact Or.inl (h.apart i j e2 hj)
      · exact Or.inr (h.apart j i (by omega) hil)
    obtain ⟨_, _, _, q1, q2, q3, _, q4⟩ := h.cells j t ht
    refine ⟨⟨(far _ (by omega) (by omega)).trans k1, (fr _).trans k2, (far _ (by omega) (by omega)).trans k3, (fr _).trans k4, (far _ (by omega) (by omega)).trans k5, (far _ (by omega) (by omega)).trans k6⟩, k7.keep hk (fun b h1 h2 h3 => ?_), k8.keep hk (fun b h1 h2 h3 => ?_), k9, k10, k11, k12, k13⟩
    · rcases h3 with h3 | h3 <;> omega
    · rcases h3 with h3 | h3 <;> omega
end Go.Proofs.Ytnlfcocejkaieaa.Tab
