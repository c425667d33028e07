/-
  Bytes: the program's more; a list of operations that a call makes.
-/
import Derived.Test.YtkeelacobknfbaaDoorWrF
import Derived.Test.YtkeelacobknfbaaDoorIrMk
namespace Go.Proofs.YtkeelacobknfbaaDoor.Wr
set_option linter.unusedVariables false
set_option linter.unusedSimpArgs false
open Go.ChangeShapes Go.WideShapes Go.ChangeAt Go.RowKit IntS Flat
open Ir Push
open Mch (Rec)
open Irk (flatO flatO_app)
abbrev OwnO (w : World) (lo : Nat) (v : Value) (os : List Opn) : Prop := OwnF 51 5 w lo v os.length (flatO os)
theorem infoOp : ∃ i, Tryd.prog.info? 51 = some i ∧ i.zero = some (.agg #[.int .i64 0, .int .i64 0, .int .i64 0, .int .i64 0, .int .i64 0]) ∧ i.size = 5 ∧ i.bytes = 40 := by
  have hinfo : (Tryd.prog.info? 51).map (fun i => (i.zero, i.size, i.bytes)) = some (some (.agg #[.int .i64 0, .int .i64 0, .int .i64 0, .int .i64 0, .int .i64 0]), 5, 40) := by kernel_rfl
  obtain ⟨i, hi, h⟩ := Option.map_eq_some_iff.1 hinfo
  simp only [Prod.mk.injEq] at h
  exact ⟨i, hi, h.1, h.2.1, h.2.2⟩
theorem run_pushOp {w : World} {ty : TypeId} {lo cap n : Nat} {q : Option Addr} {os : List Opn} (hown : OwnO w lo (.slice q n cap) os) (hl : os.length = n) (hn : n ≤ 1000000) (hlo : lo ≤ w.heap.size) (Z : Nat) (o : Opn) (hr : Rec Z [.int .i64 o.kd, .int .i64 o.x, .int .i64 o.y, .int .i64 o.k, .int .i64 o.t] w) :
    ∃ g' cap' w' T, (Builtin.append_ #[23, 23] ty #[.slice q n cap, .slice (some ⟨Z, 0, none⟩) 1 1]).run Tryd.prog w = .ok (.slice (some ⟨g', 0, none⟩) (n + 1) cap') w' ∧ OwnO w' lo (.slice (some ⟨g', 0, none⟩) (n + 1) cap') (os ++ [o]) ∧ Turn T w w' ∧ (q = some ⟨T, 0, none⟩ ∨ w.heap.size ≤ T) ∧ lo ≤ T ∧ (q = some ⟨g', 0, none⟩ ∨ w.heap.size ≤ g') := by
  subst hl
  obtain ⟨j, hi, hz, hsz, hby⟩ := infoOp
  obtain ⟨g', cap', w', h1, h2, h3, h4, h5⟩ := run_flat (P := Tryd.prog) 23 ty 51 j _ 5 40 Tryd.underlying23 hi hz hsz hby rfl (by decide) (by decide) hown (by omega) hlo ⟨Z, 0, none⟩ [o.kd, o.x, o.y, o.k, o.t] rfl (fun j x hx => by
    rw [Addr.add_lit, Nat.zero_add]
    match j, hx with
    | 0, hx => cases hx; exact hr.cell 0 _ rfl
    | 1, hx => cases hx; exact hr.cell 1 _ rfl
    | 2, hx => cases hx; exact hr.cell 2 _ rfl
    | 3, hx => cases hx; exact hr.cell 3 _ rfl
    | 4, hx => cases hx; exact hr.cell 4 _ rfl
    | j + 5, hx => simp at hx)
  obtain ⟨T, t1, t2⟩ := grown_turn h5 (hown.q_form.imp (fun e => e.1) id)
  refine ⟨g', cap', w', T, h1, ?_, t1, t2.imp id (fun e => by omega), ?_, ?_⟩
  · unfold OwnO
    rw [flatO_app, List.length_append]
    exact h2
  · rcases t2 with t2 | t2
    · exact (hown.q_lt t2).1
    · omega
  · rcases h3 with h3 | h3
    · left
      rcases hown.q_form with ⟨e, _⟩ | ⟨G, e⟩
      · rw [e] at h3; simp [Value.ownBlock] at h3
      · rw [e] at h3 ⊢
        simp [Value.ownBlock] at h3
        rw [h3]
    · exact Or.inr h3
set_option maxRecDepth 8000 in
set_option maxHeartbeats 4000000 in
theorem moreE (Z B : Nat) (q : Option Addr) (n c : Nat) (ys : List Int) (s : Rs) (w : World) (h : Rr w Z B q n c ys s) :
    Calls Tryd.prog 65 #[.pointer (some ⟨Z, 0, none⟩)] w fun r w' => r = .returned (.bool (s.e.isNone && decide (s.p < n))) ∧ Below w.heap.size w w' := by
  obtain ⟨p, e⟩ := s
  have HB := hide h.box
  have hn := h.le
  have hp := h.few
  have BW : Hid (Below w.heap.size w w.drew) := (Below.refl _ _).drew
  simp only [] at HB hp ⊢
  clear h
  cases e with
  | some b =>
    simp only [evv, Option.isNone] at HB ⊢
    go_enter Tryd.func65, Tryd.ntmps65
    go_wp2_with fail
    refine (wpIn_wide (n := 0)).1 ?_
    refine PhaseIn.region (S := fun v => Rec Z [.slice q n c, .int .i64 (p : Int), .iface 121 (.pointer (some b))] v) 18 (by kernel_rfl) ?_
    have hHeld : Rec Z [.slice q n c, .int .i64 (p : Int), .iface 121 (.pointer (some b))] w.drew := HB.out.below (Below.refl _ _).drew
    generalize w.drew = d1 at hHeld BW ⊢
    refine PhaseIn.takeD (i := 0) (v := ?_) [0, 1, 2, 3, 4, 5, 6, 7, 8, 9, 10, 11, 12, 13, 14, 15, 16, 17] 3 rfl (by rfl) (by kernel_rfl) (by kernel_rfl) (by kernel_rfl) (by kernel_rfl) (by kernel_rfl) (fun _ _ _ h => h) (Or.inl ⟨by kernel_rfl, ?_⟩) hHeld ?_
    rotate_left
    · intro w' hSw
      (try dsimp only at hSw)
      go_simp
      first | done | with_reducible rfl
    try simp only [Act.put, List.setIfInBounds_toArray, List.set]
    refine PhaseIn.takeD (i := 1) (v := ?_) [1, 2, 3, 4, 5, 6, 7, 8, 9, 10, 11, 12, 13, 14, 15, 16, 17] 4 rfl (by rfl) (by kernel_rfl) (by kernel_rfl) (by kernel_rfl) (by kernel_rfl) (by kernel_rfl) (fun _ _ _ h => h) (Or.inl ⟨by kernel_rfl, ?_⟩) hHeld ?_
    rotate_left
    · intro w' hSw
      (try dsimp only at hSw)
      go_simp
      first | done | with_reducible rfl
    try simp only [Act.put, List.setIfInBounds_toArray, List.set]
    refine PhaseIn.takeD (i := 2) (v := ?_) [2, 3, 4, 5, 6, 7, 8, 9, 10, 11, 12, 13, 14, 15, 16, 17] 5 rfl (by rfl) (by kernel_rfl) (by kernel_rfl) (by kernel_rfl) (by kernel_rfl) (by kernel_rfl) (fun _ _ _ h => h) (Or.inl ⟨by kernel_rfl, ?_⟩) hHeld ?_
    rotate_left
    · intro w' hSw
      (try dsimp only at hSw)
      go_simp
      first | done | with_reducible rfl
    try simp only [Act.put, List.setIfInBounds_toArray, List.set]
    refine PhaseIn.takeD (i := 3) (v := ?_) [3, 4, 5, 6, 7, 8, 9, 10, 11, 12, 13, 14, 15, 16, 17] 6 rfl (by rfl) (by kernel_rfl) (by kernel_rfl) (by kernel_rfl) (by kernel_rfl) (by kernel_rfl) (fun _ _ _ h => h) (Or.inl ⟨by kernel_rfl, ?_⟩) hHeld ?_
    rotate_left
    · intro w' hSw
      (try dsimp only at hSw)
      have z2 := hSw.cell 2 _ rfl
      go_simp
      first | done | with_reducible rfl
    try simp only [Act.put, List.setIfInBounds_toArray, List.set]
    refine PhaseIn.takeD (i := 4) (v := ?_) [4, 5, 6, 7, 8, 9, 10, 11, 12, 13, 14, 15, 16, 17] 7 rfl (by rfl) (by kernel_rfl) (by kernel_rfl) (by kernel_rfl) (by kernel_rfl) (by kernel_rfl) (fun _ _ _ h => h) (Or.inl ⟨by kernel_rfl, ?_⟩) hHeld ?_
    rotate_left
    · intro w' hSw
      (try dsimp only at hSw)
      go_simp
      first | done | with_reducible rfl
    try simp only [Act.put, List.setIfInBounds_toArray, List.set]
    refine PhaseIn.takeD (i := 5) (v := ?_) [5, 6, 7, 8, 9, 10, 11, 12, 13, 14, 15, 16, 17] 8 rfl (by rfl) (by kernel_rfl) (by kernel_rfl) (by kernel_rfl) (by kernel_rfl) (by kernel_rfl) (fun _ _ _ h => h) (Or.inl ⟨by kernel_rfl, ?_⟩) hHeld ?_
    rotate_left
    · intro w' hSw
      (try dsimp only at hSw)
      go_simp
      first | done | with_reducible rfl
    try simp only [Act.put, List.setIfInBounds_toArray, List.set]
    refine PhaseIn.takeD (i := 6) (v := undef) [6, 7, 8, 9, 15, 16, 17] 9 rfl (by rfl) (by kernel_rfl) (by kernel_rfl) (by kernel_rfl) (by kernel_rfl) (by kernel_rfl) (fun _ _ _ h => h) (Or.inr ⟨by kernel_rfl, rfl⟩) hHeld ?_
    try simp only [Act.put, List.setIfInBounds_toArray, List.set]
    refine PhaseIn.takeD (i := 7) (v := undef) [7, 8, 9, 15, 16, 17] 10 rfl (by rfl) (by kernel_rfl) (by kernel_rfl) (by kernel_rfl) (by kernel_rfl) (by kernel_rfl) (fun _ _ _ h => h) (Or.inr ⟨by kernel_rfl, rfl⟩) hHeld ?_
    try simp only [Act.put, List.setIfInBounds_toArray, List.set]
    refine PhaseIn.takeD (i := 8) (v := undef) [8, 9, 15, 16, 17] 11 rfl (by rfl) (by kernel_rfl) (by kernel_rfl) (by kernel_rfl) (by kernel_rfl) (by kernel_rfl) (fun _ _ _ h => h) (Or.inr ⟨by kernel_rfl, rfl⟩) hHeld ?_
    try simp only [Act.put, List.setIfInBounds_toArray, List.set]
    refine PhaseIn.takeD (i := 9) (v := undef) [9, 15, 16, 17] 12 rfl (by rfl) (by kernel_rfl) (by kernel_rfl) (by kernel_rfl) (by kernel_rfl) (by kernel_rfl) (fun _ _ _ h => h) (Or.inr ⟨by kernel_rfl, rfl⟩) hHeld ?_
    try simp only [Act.put, List.setIfInBounds_toArray, List.set]
    refine PhaseIn.takeD (i := 10) (v := undef) [10, 11, 12, 13, 14, 15, 16, 17] 13 rfl (by rfl) (by kernel_rfl) (by kernel_rfl) (by kernel_rfl) (by kernel_rfl) (by kernel_rfl) (fun _ _ _ h => h) (Or.inr ⟨by kernel_rfl, rfl⟩) hHeld ?_
    try simp only [Act.put, List.setIfInBounds_toArray, List.set]
    refine PhaseIn.takeD (i := 11) (v := undef) [11, 12, 13, 14, 15, 16, 17] 14 rfl (by rfl) (by kernel_rfl) (by kernel_rfl) (by kernel_rfl) (by kernel_rfl) (by kernel_rfl) (fun _ _ _ h => h) (Or.inr ⟨by kernel_rfl, rfl⟩) hHeld ?_
    try simp only [Act.put, List.setIfInBounds_toArray, List.set]
    refine PhaseIn.takeD (i := 12) (v := undef) [12, 13, 14, 15, 16, 17] 15 rfl (by rfl) (by kernel_rfl) (by kernel_rfl) (by kernel_rfl) (by kernel_rfl) (by kernel_rfl) (fun _ _ _ h => h) (Or.inr ⟨by kernel_rfl, rfl⟩) hHeld ?_
    try simp only [Act.put, List.setIfInBounds_toArray, List.set]
    refine PhaseIn.takeD (i := 13) (v := undef) [13, 14, 15, 16, 17] 16 rfl (by rfl) (by kernel_rfl) (by kernel_rfl) (by kernel_rfl) (by kernel_rfl) (by kernel_rfl) (fun _ _ _ h => h) (Or.inr ⟨by kernel_rfl, rfl⟩) hHeld ?_
    try simp only [Act.put, List.setIfInBounds_toArray, List.set]
    refine PhaseIn.takeD (i := 14) (v := undef) [14, 15, 16, 17] 17 rfl (by rfl) (by kernel_rfl) (by kernel_rfl) (by kernel_rfl) (by kernel_rfl) (by kernel_rfl) (fun _ _ _ h => h) (Or.inr ⟨by kernel_rfl, rfl⟩) hHeld ?_
    try simp only [Act.put, List.setIfInBounds_toArray, List.set]
    refine PhaseIn.takeD (i := 15) (v := undef) [15, 16, 17] 18 rfl (by rfl) (by kernel_rfl) (by kernel_rfl) (by kernel_rfl) (by kernel_rfl) (by kernel_rfl) (fun _ _ _ h => h) (Or.inr ⟨by kernel_rfl, rfl⟩) hHeld ?_
    try simp only [Act.put, List.setIfInBounds_toArray, List.set]
    refine PhaseIn.takeD (i := 16) (v := ?_) [16, 17] 19 rfl (by rfl) (by kernel_rfl) (by kernel_rfl) (by kernel_rfl) (by kernel_rfl) (by kernel_rfl) (fun _ _ _ h => h) (Or.inl ⟨by kernel_rfl, ?_⟩) hHeld ?_
    rotate_left
    · intro w' hSw
      (try dsimp only at hSw)
      go_simp
      first | done | with_reducible rfl
    try simp only [Act.put, List.setIfInBounds_toArray, List.set]
    refine PhaseIn.takeD (i := 17) (v := ?_) [17] 2 rfl (by rfl) (by kernel_rfl) (by kernel_rfl) (by kernel_rfl) (by kernel_rfl) (by kernel_rfl) (fun _ _ _ h => h) (Or.inl ⟨by kernel_rfl, ?_⟩) hHeld ?_
    rotate_left
    · intro w' hSw
      (try dsimp only at hSw)
      go_simp
      first | done | with_reducible rfl
    try simp only [Act.put, List.setIfInBounds_toArray, List.set]
    refine PhaseIn.done (by kernel_rfl) ?_ _
    go_wp2
    go_ret
    exact ⟨rfl, BW.out⟩
  | none =>
    simp only [evv, Option.isNone] at HB ⊢
    by_cases hlt : p < n
    · have lk : ((p : Nat) : Int) < (n : Nat) := by omega
      rw [decide_eq_true hlt]
      go_enter Tryd.func65, Tryd.ntmps65
      go_wp2_with fail
      refine (wpIn_wide (n := 0)).1 ?_
      refine PhaseIn.region (S := fun v => Rec Z [.slice q n c, .int .i64 (p : Int), .nilIface] v) 18 (by kernel_rfl) ?_
      have hHeld : Rec Z [.slice q n c, .int .i64 (p : Int), .nilIface] w.drew := HB.out.below (Below.refl _ _).drew
      generalize w.drew = d1 at hHeld BW ⊢
      refine PhaseIn.takeD (i := 0) (v := ?_) [0, 1, 2, 3, 4, 5, 6, 7, 8, 9, 10, 11, 12, 13, 14, 15, 16, 17] 3 rfl (by rfl) (by kernel_rfl) (by kernel_rfl) (by kernel_rfl) (by kernel_rfl) (by kernel_rfl) (fun _ _ _ h => h) (Or.inl ⟨by kernel_rfl, ?_⟩) hHeld ?_
      rotate_left
      · intro w' hSw
        (try dsimp only at hSw)
        go_simp
        first | done | with_reducible rfl
      try simp only [Act.put, List.setIfInBounds_toArray, List.set]
      refine PhaseIn.takeD (i := 1) (v := ?_) [1, 2, 3, 4, 5, 6, 7, 8, 9, 10, 11, 12, 13, 14, 15, 16, 17] 4 rfl (by rfl) (by kernel_rfl) (by kernel_rfl) (by kernel_rfl) (by kernel_rfl) (by kernel_rfl) (fun _ _ _ h => h) (Or.inl ⟨by kernel_rfl, ?_⟩) hHeld ?_
      rotate_left
      · intro w' hSw
        (try dsimp only at hSw)
        go_simp
        first | done | with_reducible rfl
      try simp only [Act.put, List.setIfInBounds_toArray, List.set]
      refine PhaseIn.takeD (i := 2) (v := ?_) [2, 3, 4, 5, 6, 7, 8, 9, 10, 11, 12, 13, 14, 15, 16, 17] 5 rfl (by rfl) (by kernel_rfl) (by kernel_rfl) (by kernel_rfl) (by kernel_rfl) (by kernel_rfl) (fun _ _ _ h => h) (Or.inl ⟨by kernel_rfl, ?_⟩) hHeld ?_
      rotate_left
      · intro w' hSw
        (try dsimp only at hSw)
        go_simp
        first | done | with_reducible rfl
      try simp only [Act.put, List.setIfInBounds_toArray, List.set]
      refine PhaseIn.takeD (i := 3) (v := ?_) [3, 4, 5, 6, 7, 8, 9, 10, 11, 12, 13, 14, 15, 16, 17] 6 rfl (by rfl) (by kernel_rfl) (by kernel_rfl) (by kernel_rfl) (by kernel_rfl) (by kernel_rfl) (fun _ _ _ h => h) (Or.inl ⟨by kernel_rfl, ?_⟩) hHeld ?_
      rotate_left
      · intro w' hSw
        (try dsimp only at hSw)
        have z2 := hSw.cell 2 _ rfl
        go_simp
        first | done | with_reducible rfl
      try simp only [Act.put, List.setIfInBounds_toArray, List.set]
      refine PhaseIn.takeD (i := 4) (v := ?_) [4, 5, 6, 7, 8, 9, 10, 11, 12, 13, 14, 15, 16, 17] 7 rfl (by rfl) (by kernel_rfl) (by kernel_rfl) (by kernel_rfl) (by kernel_rfl) (by kernel_rfl) (fun _ _ _ h => h) (Or.inl ⟨by kernel_rfl, ?_⟩) hHeld ?_
      rotate_left
      · intro w' hSw
        (try dsimp only at hSw)
        go_simp
        first | done | with_reducible rfl
      try simp only [Act.put, List.setIfInBounds_toArray, List.set]
      refine PhaseIn.takeD (i := 5) (v := ?_) [5, 6, 7, 8, 9, 10, 11, 12, 13, 14, 15, 16, 17] 8 rfl (by rfl) (by kernel_rfl) (by kernel_rfl) (by kernel_rfl) (by kernel_rfl) (by kernel_rfl) (fun _ _ _ h => h) (Or.inl ⟨by kernel_rfl, ?_⟩) hHeld ?_
      rotate_left
      · intro w' hSw
        (try dsimp only at hSw)
        go_simp
        first | done | with_reducible rfl
      try simp only [Act.put, List.setIfInBounds_toArray, List.set]
      refine PhaseIn.takeD (i := 6) (v := ?_) [6, 7, 8, 9, 15, 16, 17] 9 rfl (by rfl) (by kernel_rfl) (by kernel_rfl) (by kernel_rfl) (by kernel_rfl) (by kernel_rfl) (fun _ _ _ h => h) (Or.inl ⟨by kernel_rfl, ?_⟩) hHeld ?_
      rotate_left
      · intro w' hSw
        (try dsimp only at hSw)
        go_simp
        first | done | with_reducible rfl
      try simp only [Act.put, List.setIfInBounds_toArray, List.set]
      refine PhaseIn.takeD (i := 7) (v := ?_) [7, 8, 9, 15, 16, 17] 10 rfl (by rfl) (by kernel_rfl) (by kernel_rfl) (by kernel_rfl) (by kernel_rfl) (by kernel_rfl) (fun _ _ _ h => h) (Or.inl ⟨by kernel_rfl, ?_⟩) hHeld ?_
      rotate_left
      · intro w' hSw
        (try dsimp only at hSw)
        go_simp
        first | done | with_reducible rfl
      try simp only [Act.put, List.setIfInBounds_toArray, List.set]
      refine PhaseIn.takeD (i := 8) (v := ?_) [8, 9, 15, 16, 17] 11 rfl (by rfl) (by kernel_rfl) (by kernel_rfl) (by kernel_rfl) (by kernel_rfl) (by kernel_rfl) (fun _ _ _ h => h) (Or.inl ⟨by kernel_rfl, ?_⟩) hHeld ?_
      rotate_left
      · intro w' hSw
        (try dsimp only at hSw)
        go_simp
        first | done | with_reducible rfl
      try simp only [Act.put, List.setIfInBounds_toArray, List.set]
      refine PhaseIn.takeD (i := 9) (v := ?_) [9, 15, 16, 17] 12 rfl (by rfl) (by kernel_rfl) (by kernel_rfl) (by kernel_rfl) (by kernel_rfl) (by kernel_rfl) (fun _ _ _ h => h) (Or.inl ⟨by kernel_rfl, ?_⟩) hHeld ?_
      rotate_left
      · intro w' hSw
        (try dsimp only at hSw)
        have z1 := hSw.cell 1 _ rfl
        go_simp
        first | done | with_reducible rfl
      try simp only [Act.put, List.setIfInBounds_toArray, List.set]
      refine PhaseIn.takeD (i := 10) (v := ?_) [10, 11, 12, 13, 14, 15, 16, 17] 13 rfl (by rfl) (by kernel_rfl) (by kernel_rfl) (by kernel_rfl) (by kernel_rfl) (by kernel_rfl) (fun _ _ _ h => h) (Or.inl ⟨by kernel_rfl, ?_⟩) hHeld ?_
      rotate_left
      · intro w' hSw
        (try dsimp only at hSw)
        go_simp
        first | done | with_reducible rfl
      try simp only [Act.put, List.setIfInBounds_toArray, List.set]
      refine PhaseIn.takeD (i := 11) (v := ?_) [11, 12, 13, 14, 15, 16, 17] 14 rfl (by rfl) (by kernel_rfl) (by kernel_rfl) (by kernel_rfl) (by kernel_rfl) (by kernel_rfl) (fun _ _ _ h => h) (Or.inl ⟨by kernel_rfl, ?_⟩) hHeld ?_
      rotate_left
      · intro w' hSw
        (try dsimp only at hSw)
        go_simp
        first | done | with_reducible rfl
      try simp only [Act.put, List.setIfInBounds_toArray, List.set]
      refine PhaseIn.takeD (i := 12) (v := ?_) [12, 13, 14, 15, 16, 17] 15 rfl (by rfl) (by kernel_rfl) (by kernel_rfl) (by kernel_rfl) (by kernel_rfl) (by kernel_rfl) (fun _ _ _ h => h) (Or.inl ⟨by kernel_rfl, ?_⟩) hHeld ?_
      rotate_left
      · intro w' hSw
        (try dsimp only at hSw)
        go_simp
        first | done | with_reducible rfl
      try simp only [Act.put, List.setIfInBounds_toArray, List.set]
      refine PhaseIn.takeD (i := 13) (v := ?_) [13, 14, 15, 16, 17] 16 rfl (by rfl) (by kernel_rfl) (by kernel_rfl) (by kernel_rfl) (by kernel_rfl) (by kernel_rfl) (fun _ _ _ h => h) (Or.inl ⟨by kernel_rfl, ?_⟩) hHeld ?_
      rotate_left
      · intro w' hSw
        (try dsimp only at hSw)
        have z0 := hSw.cell 0 _ rfl
        go_simp
        first | done | with_reducible rfl
      try simp only [Act.put, List.setIfInBounds_toArray, List.set]
      refine PhaseIn.takeD (i := 14) (v := ?_) [14, 15, 16, 17] 17 rfl (by rfl) (by kernel_rfl) (by kernel_rfl) (by kernel_rfl) (by kernel_rfl) (by kernel_rfl) (fun _ _ _ h => h) (Or.inl ⟨by kernel_rfl, ?_⟩) hHeld ?_
      rotate_left
      · intro w' hSw
        (try dsimp only at hSw)
        go_simp
        first | done | with_reducible rfl
      try simp only [Act.put, List.setIfInBounds_toArray, List.set]
      refine PhaseIn.takeD (i := 15) (v := ?_) [15, 16, 17] 18 rfl (by rfl) (by kernel_rfl) (by kernel_rfl) (by kernel_rfl) (by kernel_rfl) (by kernel_rfl) (fun _ _ _ h => h) (Or.inl ⟨by kernel_rfl, ?_⟩) hHeld ?_
      rotate_left
      · intro w' hSw
        (try dsimp only at hSw)
        go_simp
        first | done | with_reducible rfl
      try simp only [Act.put, List.setIfInBounds_toArray, List.set]
      refine PhaseIn.takeD (i := 16) (v := ?_) [16, 17] 19 rfl (by rfl) (by kernel_rfl) (by kernel_rfl) (by kernel_rfl) (by kernel_rfl) (by kernel_rfl) (fun _ _ _ h => h) (Or.inl ⟨by kernel_rfl, ?_⟩) hHeld ?_
      rotate_left
      · intro w' hSw
        (try dsimp only at hSw)
        go_simp
        first | done | with_reducible rfl
      try simp only [Act.put, List.setIfInBounds_toArray, List.set]
      refine PhaseIn.takeD (i := 17) (v := ?_) [17] 2 rfl (by rfl) (by kernel_rfl) (by kernel_rfl) (by kernel_rfl) (by kernel_rfl) (by kernel_rfl) (fun _ _ _ h => h) (Or.inl ⟨by kernel_rfl, ?_⟩) hHeld ?_
      rotate_left
      · intro w' hSw
        (try dsimp only at hSw)
        go_simp
        first | done | with_reducible rfl
      try simp only [Act.put, List.setIfInBounds_toArray, List.set]
      refine PhaseIn.done (by kernel_rfl) ?_ _
      go_wp2
      go_ret
      exact ⟨rfl, BW.out⟩
    · have lk : ¬ ((p : Nat) : Int) < (n : Nat) := by omega
      rw [decide_eq_false hlt]
      go_enter Tryd.func65, Tryd.ntmps65
      go_wp2_with fail
      refine (wpIn_wide (n := 0)).1 ?_
      refine PhaseIn.region (S := fun v => Rec Z [.slice q n c, .int .i64 (p : Int), .nilIface] v) 18 (by kernel_rfl) ?_
      have hHeld : Rec Z [.slice q n c, .int .i64 (p : Int), .nilIface] w.drew := HB.out.below (Below.refl _ _).drew
      generalize w.drew = d1 at hHeld BW ⊢
      refine PhaseIn.takeD (i := 0) (v := ?_) [0, 1, 2, 3, 4, 5, 6, 7, 8, 9, 10, 11, 12, 13, 14, 15, 16, 17] 3 rfl (by rfl) (by kernel_rfl) (by kernel_rfl) (by kernel_rfl) (by kernel_rfl) (by kernel_rfl) (fun _ _ _ h => h) (Or.inl ⟨by kernel_rfl, ?_⟩) hHeld ?_
      rotate_left
      · intro w' hSw
        (try dsimp only at hSw)
        go_simp
        first | done | with_reducible rfl
      try simp only [Act.put, List.setIfInBounds_toArray, List.set]
      refine PhaseIn.takeD (i := 1) (v := ?_) [1, 2, 3, 4, 5, 6, 7, 8, 9, 10, 11, 12, 13, 14, 15, 16, 17] 4 rfl (by rfl) (by kernel_rfl) (by kernel_rfl) (by kernel_rfl) (by kernel_rfl) (by kernel_rfl) (fun _ _ _ h => h) (Or.inl ⟨by kernel_rfl, ?_⟩) hHeld ?_
      rotate_left
      · intro w' hSw
        (try dsimp only at hSw)
        go_simp
        first | done | with_reducible rfl
      try simp only [Act.put, List.setIfInBounds_toArray, List.set]
      refine PhaseIn.takeD (i := 2) (v := ?_) [2, 3, 4, 5, 6, 7, 8, 9, 10, 11, 12, 13, 14, 15, 16, 17] 5 rfl (by rfl) (by kernel_rfl) (by kernel_rfl) (by kernel_rfl) (by kernel_rfl) (by kernel_rfl) (fun _ _ _ h => h) (Or.inl ⟨by kernel_rfl, ?_⟩) hHeld ?_
      rotate_left
      · intro w' hSw
        (try dsimp only at hSw)
        go_simp
        first | done | with_reducible rfl
      try simp only [Act.put, List.setIfInBounds_toArray, List.set]
      refine PhaseIn.takeD (i := 3) (v := ?_) [3, 4, 5, 6, 7, 8, 9, 10, 11, 12, 13, 14, 15, 16, 17] 6 rfl (by rfl) (by kernel_rfl) (by kernel_rfl) (by kernel_rfl) (by kernel_rfl) (by kernel_rfl) (fun _ _ _ h => h) (Or.inl ⟨by kernel_rfl, ?_⟩) hHeld ?_
      rotate_left
      · intro w' hSw
        (try dsimp only at hSw)
        have z2 := hSw.cell 2 _ rfl
        go_simp
        first | done | with_reducible rfl
      try simp only [Act.put, List.setIfInBounds_toArray, List.set]
      refine PhaseIn.takeD (i := 4) (v := ?_) [4, 5, 6, 7, 8, 9, 10, 11, 12, 13, 14, 15, 16, 17] 7 rfl (by rfl) (by kernel_rfl) (by kernel_rfl) (by kernel_rfl) (by kernel_rfl) (by kernel_rfl) (fun _ _ _ h => h) (Or.inl ⟨by kernel_rfl, ?_⟩) hHeld ?_
      rotate_left
      · intro w' hSw
        (try dsimp only at hSw)
        go_simp
        first | done | with_reducible rfl
      try simp only [Act.put, List.setIfInBounds_toArray, List.set]
      refine PhaseIn.takeD (i := 5) (v := ?_) [5, 6, 7, 8, 9, 10, 11, 12, 13, 14, 15, 16, 17] 8 rfl (by rfl) (by kernel_rfl) (by kernel_rfl) (by kernel_rfl) (by kernel_rfl) (by kernel_rfl) (fun _ _ _ h => h) (Or.inl ⟨by kernel_rfl, ?_⟩) hHeld ?_
      rotate_left
      · intro w' hSw
        (try dsimp only at hSw)
        go_simp
        first | done | with_reducible rfl
      try simp only [Act.put, List.setIfInBounds_toArray, List.set]
      refine PhaseIn.takeD (i := 6) (v := ?_) [6, 7, 8, 9, 15, 16, 17] 9 rfl (by rfl) (by kernel_rfl) (by kernel_rfl) (by kernel_rfl) (by kernel_rfl) (by kernel_rfl) (fun _ _ _ h => h) (Or.inl ⟨by kernel_rfl, ?_⟩) hHeld ?_
      rotate_left
      · intro w' hSw
        (try dsimp only at hSw)
        go_simp
        first | done | with_reducible rfl
      try simp only [Act.put, List.setIfInBounds_toArray, List.set]
      refine PhaseIn.takeD (i := 7) (v := ?_) [7, 8, 9, 15, 16, 17] 10 rfl (by rfl) (by kernel_rfl) (by kernel_rfl) (by kernel_rfl) (by kernel_rfl) (by kernel_rfl) (fun _ _ _ h => h) (Or.inl ⟨by kernel_rfl, ?_⟩) hHeld ?_
      rotate_left
      · intro w' hSw
        (try dsimp only at hSw)
        go_simp
        first | done | with_reducible rfl
      try simp only [Act.put, List.setIfInBounds_toArray, List.set]
      refine PhaseIn.takeD (i := 8) (v := ?_) [8, 9, 15, 16, 17] 11 rfl (by rfl) (by kernel_rfl) (by kernel_rfl) (by kernel_rfl) (by kernel_rfl) (by kernel_rfl) (fun _ _ _ h => h) (Or.inl ⟨by kernel_rfl, ?_⟩) hHeld ?_
      rotate_left
      · intro w' hSw
        (try dsimp only at hSw)
        go_simp
        first | done | with_reducible rfl
      try simp only [Act.put, List.setIfInBounds_toArray, List.set]
      refine PhaseIn.takeD (i := 9) (v := ?_) [9, 15, 16, 17] 12 rfl (by rfl) (by kernel_rfl) (by kernel_rfl) (by kernel_rfl) (by kernel_rfl) (by kernel_rfl) (fun _ _ _ h => h) (Or.inl ⟨by kernel_rfl, ?_⟩) hHeld ?_
      rotate_left
      · intro w' hSw
        (try dsimp only at hSw)
        have z1 := hSw.cell 1 _ rfl
        go_simp
        first | done | with_reducible rfl
      try simp only [Act.put, List.setIfInBounds_toArray, List.set]
      refine PhaseIn.takeD (i := 10) (v := ?_) [10, 11, 12, 13, 14, 15, 16, 17] 13 rfl (by rfl) (by kernel_rfl) (by kernel_rfl) (by kernel_rfl) (by kernel_rfl) (by kernel_rfl) (fun _ _ _ h => h) (Or.inl ⟨by kernel_rfl, ?_⟩) hHeld ?_
      rotate_left
      · intro w' hSw
        (try dsimp only at hSw)
        go_simp
        first | done | with_reducible rfl
      try simp only [Act.put, List.setIfInBounds_toArray, List.set]
      refine PhaseIn.takeD (i := 11) (v := ?_) [11, 12, 13, 14, 15, 16, 17] 14 rfl (by rfl) (by kernel_rfl) (by kernel_rfl) (by kernel_rfl) (by kernel_rfl) (by kernel_rfl) (fun _ _ _ h => h) (Or.inl ⟨by kernel_rfl, ?_⟩) hHeld ?_
      rotate_left
      · intro w' hSw
        (try dsimp only at hSw)
        go_simp
        first | done | with_reducible rfl
      try simp only [Act.put, List.setIfInBounds_toArray, List.set]
      refine PhaseIn.takeD (i := 12) (v := ?_) [12, 13, 14, 15, 16, 17] 15 rfl (by rfl) (by kernel_rfl) (by kernel_rfl) (by kernel_rfl) (by kernel_rfl) (by kernel_rfl) (fun _ _ _ h => h) (Or.inl ⟨by kernel_rfl, ?_⟩) hHeld ?_
      rotate_left
      · intro w' hSw
        (try dsimp only at hSw)
        go_simp
        first | done | with_reducible rfl
      try simp only [Act.put, List.setIfInBounds_toArray, List.set]
      refine PhaseIn.takeD (i := 13) (v := ?_) [13, 14, 15, 16, 17] 16 rfl (by rfl) (by kernel_rfl) (by kernel_rfl) (by kernel_rfl) (by kernel_rfl) (by kernel_rfl) (fun _ _ _ h => h) (Or.inl ⟨by kernel_rfl, ?_⟩) hHeld ?_
      rotate_left
      · intro w' hSw
        (try dsimp only at hSw)
        have z0 := hSw.cell 0 _ rfl
        go_simp
        first | done | with_reducible rfl
      try simp only [Act.put, List.setIfInBounds_toArray, List.set]
      refine PhaseIn.takeD (i := 14) (v := ?_) [14, 15, 16, 17] 17 rfl (by rfl) (by kernel_rfl) (by kernel_rfl) (by kernel_rfl) (by kernel_rfl) (by kernel_rfl) (fun _ _ _ h => h) (Or.inl ⟨by kernel_rfl, ?_⟩) hHeld ?_
      rotate_left
      · intro w' hSw
        (try dsimp only at hSw)
        go_simp
        first | done | with_reducible rfl
      try simp only [Act.put, List.setIfInBounds_toArray, List.set]
      refine PhaseIn.takeD (i := 15) (v := ?_) [15, 16, 17] 18 rfl (by rfl) (by kernel_rfl) (by kernel_rfl) (by kernel_rfl) (by kernel_rfl) (by kernel_rfl) (fun _ _ _ h => h) (Or.inl ⟨by kernel_rfl, ?_⟩) hHeld ?_
      rotate_left
      · intro w' hSw
        (try dsimp only at hSw)
        go_simp
        first | done | with_reducible rfl
      try simp only [Act.put, List.setIfInBounds_toArray, List.set]
      refine PhaseIn.takeD (i := 16) (v := ?_) [16, 17] 19 rfl (by rfl) (by kernel_rfl) (by kernel_rfl) (by kernel_rfl) (by kernel_rfl) (by kernel_rfl) (fun _ _ _ h => h) (Or.inl ⟨by kernel_rfl, ?_⟩) hHeld ?_
      rotate_left
      · intro w' hSw
        (try dsimp only at hSw)
        go_simp
        first | done | with_reducible rfl
      try simp only [Act.put, List.setIfInBounds_toArray, List.set]
      refine PhaseIn.takeD (i := 17) (v := ?_) [17] 2 rfl (by rfl) (by kernel_rfl) (by kernel_rfl) (by kernel_rfl) (by kernel_rfl) (by kernel_rfl) (fun _ _ _ h => h) (Or.inl ⟨by kernel_rfl, ?_⟩) hHeld ?_
      rotate_left
      · intro w' hSw
        (try dsimp only at hSw)
        go_simp
        first | done | with_reducible rfl
      try simp only [Act.put, List.setIfInBounds_toArray, List.set]
      refine PhaseIn.done (by kernel_rfl) ?_ _
      go_wp2
      go_ret
      exact ⟨rfl, BW.out⟩
end Go.Proofs.YtkeelacobknfbaaDoor.Wr
