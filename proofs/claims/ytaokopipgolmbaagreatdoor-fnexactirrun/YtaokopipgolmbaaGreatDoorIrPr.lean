/-
  How the program runs a piece of code: where it goes on, and how it is left.
  How the program runs a piece of code: how it is left by an error.
-/
import Derived.Test.YtaokopipgolmbaaGreatDoorIrPp
import Derived.Test.YtaokopipgolmbaaGreatDoorIrAt
import Derived.Test.YtaokopipgolmbaaGreatDoorIrK
namespace Go.Proofs.YtaokopipgolmbaaGreatDoor.Ir
set_option linter.unusedVariables false
set_option linter.unusedSimpArgs false
open Go.ChangeShapes Go.WideShapes Go.ChangeAt Go.RowKit IntS Mch
theorem at_ofI {vs : List Int} {k : Int} (h0 : 0 ≤ k) (h1 : k < (vs.length : Int)) : ∃ (i : Nat) (x : Int), k = (i : Int) ∧ vs[i]? = some x ∧ atI vs k = x := by
  obtain ⟨i, rfl⟩ := Int.eq_ofNat_of_zero_le h0
  have hi : i < vs.length := by omega
  exact ⟨i, vs[i], rfl, List.getElem?_eq_getElem hi, at_yes (List.getElem?_eq_getElem hi)⟩

set_option maxRecDepth 8000 in
set_option maxHeartbeats 8000000 in
theorem onward_1 (lo P Z cap : Nat) (b : Bk) (q : Option Addr) (wv : Value) (c : List Value) (m : M) (vs : List Int) (u : World) (h : Psg u lo P Z b q cap wv c m vs) (he : b.en = 1) : Calls Tryz.prog 51 #[.pointer (some ⟨P, 0, none⟩)] u fun e w' => e = .returned (.int .i64 (b.k)) ∧ Below u.heap.size u w' := by
  obtain ⟨bp, ln, ops, en, bx, by_, bk⟩ := b
  simp only [] at he
  subst he
  have p3 := h.p.cell 3 _ rfl
  have p6 := h.p.cell 6 _ rfl
  clear h
  go_enter Tryz.func51, Tryz.ntmps51
  go_wp2
  go_ret
  exact ⟨rfl, Below.refl _ _⟩
set_option maxRecDepth 8000 in
set_option maxHeartbeats 8000000 in
theorem onward_2 (lo P Z cap : Nat) (b : Bk) (q : Option Addr) (wv : Value) (c : List Value) (m : M) (vs : List Int) (u : World) (h : Psg u lo P Z b q cap wv c m vs) (he : b.en = 2) (i : Nat) (x : Int) (hi : b.x = (i : Int)) (hx : vs[i]? = some x) : Calls Tryz.prog 51 #[.pointer (some ⟨P, 0, none⟩)] u fun e w' => e = .returned (.int .i64 (x)) ∧ Below u.heap.size u w' := by
  obtain ⟨bp, ln, ops, en, bx, by_, bk⟩ := b
  simp only [] at he hi
  subst he
  subst hi
  obtain ⟨g, cp, rfl, cx⟩ := h.word hx
  have li : i < vs.length := (List.getElem?_eq_some_iff.1 hx).1
  have li' : ((i : Nat) : Int) < (vs.length : Int) := by omega
  have p3 := h.p.cell 3 _ rfl
  have p4 := h.p.cell 4 _ rfl
  have p8 := h.p.cell 8 _ rfl
  clear h hx
  go_enter Tryz.func51, Tryz.ntmps51
  go_wp2_with fail
  refine region_tail 11 (by kernel_rfl) (by kernel_rfl) ?_
  simp only [List.take_succ_cons, List.take_zero, List.drop_succ_cons, List.drop_zero]
  repeat still_step
  refine wpStill_nil ?_
  go_wp2
  go_ret
  exact ⟨rfl, (Below.refl _ _).drew⟩

set_option maxRecDepth 8000 in
set_option maxHeartbeats 8000000 in
theorem onward_3 (lo P Z cap : Nat) (b : Bk) (q : Option Addr) (wv : Value) (c : List Value) (m : M) (vs : List Int) (u : World) (h : Psg u lo P Z b q cap wv c m vs) (he : b.en = 3) (i j : Nat) (x y : Int) (hi : b.x = (i : Int)) (hj : b.y = (j : Int)) (hx : vs[i]? = some x) (hy : vs[j]? = some y) (wx : isW x) (wy : isW y) (p0 : 0 ≤ b.pc) (p1 : b.pc ≤ 64) (l0 : 0 ≤ b.ln) (l1 : b.ln ≤ 8) : Calls Tryz.prog 51 #[.pointer (some ⟨P, 0, none⟩)] u fun e w' => e = .returned (.int .i64 (if x = y then b.k else b.pc + b.ln)) ∧ Below u.heap.size u w' := by
  have CA := hide (asked_same lo P Z cap b q wv c m vs u h i j x y hi hj hx hy wx wy p0 p1 l0 l1)
  obtain ⟨V, eV⟩ : ∃ V, (if x = y then b.k else b.pc + b.ln) = V := ⟨_, rfl⟩
  rw [eV] at CA ⊢
  have p3 := h.p.cell 3 _ rfl
  rw [he] at p3
  clear h eV hx hy wx wy
  go_enter Tryz.func51, Tryz.ntmps51
  go_wp2_with fail
  refine (CA.out).mono ?_
  rintro e u1 ⟨rfl, hb⟩
  go_wp2
  go_ret
  exact ⟨rfl, hb⟩

set_option maxRecDepth 8000 in
set_option maxHeartbeats 8000000 in
theorem onward_4 (lo P Z cap : Nat) (b : Bk) (q : Option Addr) (wv : Value) (c : List Value) (m : M) (vs : List Int) (u : World) (h : Psg u lo P Z b q cap wv c m vs) (he : b.en = 4) (i j : Nat) (x y : Int) (hi : b.x = (i : Int)) (hj : b.y = (j : Int)) (hx : vs[i]? = some x) (hy : vs[j]? = some y) (wx : isW x) (wy : isW y) (p0 : 0 ≤ b.pc) (p1 : b.pc ≤ 64) (l0 : 0 ≤ b.ln) (l1 : b.ln ≤ 8) : Calls Tryz.prog 51 #[.pointer (some ⟨P, 0, none⟩)] u fun e w' => e = .returned (.int .i64 (if x < y then b.k else b.pc + b.ln)) ∧ Below u.heap.size u w' := by
  have CA := hide (asked_less lo P Z cap b q wv c m vs u h i j x y hi hj hx hy wx wy p0 p1 l0 l1)
  obtain ⟨V, eV⟩ : ∃ V, (if x < y then b.k else b.pc + b.ln) = V := ⟨_, rfl⟩
  rw [eV] at CA ⊢
  have p3 := h.p.cell 3 _ rfl
  rw [he] at p3
  clear h eV hx hy wx wy
  go_enter Tryz.func51, Tryz.ntmps51
  go_wp2_with fail
  refine (CA.out).mono ?_
  rintro e u1 ⟨rfl, hb⟩
  go_wp2
  go_ret
  exact ⟨rfl, hb⟩

theorem onward (lo P Z cap : Nat) (b : Bk) (q : Option Addr) (wv : Value) (c : List Value) (m : M) (vs : List Int) (u : World) (h : Psg u lo P Z b q cap wv c m vs) (he : endB b.ops b.en b.x b.y b.k = true) (hl : vs.length = b.ops.length) (hw : ∀ x ∈ vs, isW x) (p0 : 0 ≤ b.pc) (p1 : b.pc ≤ 64) (l0 : 0 ≤ b.ln) (l1 : b.ln ≤ 8) : Calls Tryz.prog 51 #[.pointer (some ⟨P, 0, none⟩)] u fun e w' => e = .returned (.int .i64 (goM b vs)) ∧ Below u.heap.size u w' := by
  unfold endB at he
  split at he
  · rename_i e
    have hg : goM b vs = b.k := by unfold goM; rw [if_pos e]
    rw [hg]
    exact onward_1 lo P Z cap b q wv c m vs u h e
  rename_i n1
  split at he
  · rename_i e
    simp only [Bool.and_eq_true, decide_eq_true_eq] at he
    have hv := val_lt he.1.1
    obtain ⟨i, x, hi, hx, ex⟩ := at_ofI (vs := vs) hv.1 (by rw [hl]; exact hv.2)
    have hg : goM b vs = x := by unfold goM; rw [if_neg n1, if_pos e, ex]
    rw [hg]
    exact onward_2 lo P Z cap b q wv c m vs u h e i x hi hx
  rename_i n2
  split at he
  · rename_i e
    simp only [Bool.and_eq_true, decide_eq_true_eq] at he
    have hv := val_lt he.1.1
    have hv2 := val_lt he.1.2
    obtain ⟨i, x, hi, hx, ex⟩ := at_ofI (vs := vs) hv.1 (by rw [hl]; exact hv.2)
    obtain ⟨j, y, hj, hy, ey⟩ := at_ofI (vs := vs) hv2.1 (by rw [hl]; exact hv2.2)
    have wx := hw x (List.mem_of_getElem? hx)
    have wy := hw y (List.mem_of_getElem? hy)
    rcases e with e | e
    · have hg : goM b vs = if x = y then b.k else b.pc + b.ln := by unfold goM; rw [if_neg n1, if_neg n2, if_pos e, ex, ey]
      rw [hg]
      exact onward_3 lo P Z cap b q wv c m vs u h e i j x y hi hj hx hy wx wy p0 p1 l0 l1
    · have hg : goM b vs = if x < y then b.k else b.pc + b.ln := by unfold goM; rw [if_neg n1, if_neg n2, if_neg (by omega), ex, ey]
      rw [hg]
      exact onward_4 lo P Z cap b q wv c m vs u h e i j x y hi hj hx hy wx wy p0 p1 l0 l1
  · cases he

set_option maxRecDepth 8000 in
set_option maxHeartbeats 8000000 in
theorem leave_nil (lo P Z cap : Nat) (b : Bk) (q : Option Addr) (wv : Value) (c : List Value) (m : M) (vs : List Int) (u : World) (h : Psg u lo P Z b q cap wv c m vs) (he : endB b.ops b.en b.x b.y b.k = true) (hl : vs.length = b.ops.length) (hw : ∀ x ∈ vs, isW x) (p0 : 0 ≤ b.pc) (p1 : b.pc ≤ 64) (l0 : 0 ≤ b.ln) (l1 : b.ln ≤ 8) (c0 : 0 ≤ m.count) (c1 : m.count ≤ 1000000) :
    Calls Tryz.prog 29 #[.pointer (some ⟨P, 0, none⟩), .nilIface] u fun e w' => e = .returned (.tuple #[]) ∧ (∃ c', Psg w' lo P Z b q cap wv c' ({ m with pc := goM b vs, count := m.count + b.ln }) vs) ∧ Below lo u w' := by
  have BB : Below u.heap.size u ((u.alloc (.cells #[.int .i64 0] 81)).alloc (.cells #[.int .i64 0] 82)) := ((Below.refl _ _).alloc (Nat.le_refl _) _).alloc (by simp) _
  have H := hide (h.below BB)
  have BW := hide (BB.mono h.lu)
  have RA := (Rec.new u [.int .i64 0] 81).alloc (.cells #[.int .i64 0] 82)
  have RO0 := Rec.new (u.alloc (.cells #[.int .i64 0] 81)) [.int .i64 0] 82
  rw [show (u.alloc (.cells #[.int .i64 0] 81)).heap.size = u.heap.size + 1 by simp] at RO0
  clear BB RA RO0
  have ON := hide (fun v hv => onward lo P Z cap b q wv c m vs v hv he hl hw p0 p1 l0 l1)
  have ST := hide (fun v hv place => stand lo P Z cap b q wv c m vs v place b.ln hv c0 c1 l0 (by omega))
  clear h he hl hw c0 c1
  obtain ⟨G, eG⟩ : ∃ G, goM b vs = G := ⟨_, rfl⟩
  rw [eG] at ON ⊢
  clear eG
  obtain ⟨bp, ln, ops, en, bx, by_, bk⟩ := b
  simp only [] at *
  go_enter Tryz.func29, Tryz.ntmps29
  go_wp2_with fail
  refine (As.as_nil _ _).mono ?_
  rintro e u1 ⟨rfl, rfl⟩
  go_wp2_with fail
  refine (As.as_nil _ _).mono ?_
  rintro e u2 ⟨rfl, rfl⟩
  go_wp2_with fail
  generalize ((u.alloc (.cells #[.int .i64 0] 81)).alloc (.cells #[.int .i64 0] 82)) = v at H BW ⊢
  have D : Below v.heap.size v v.drew := (Below.refl _ _).drew
  replace BW := hide (BW.out.trans (D.mono H.out.lu))
  replace H := hide (H.out.below D)
  clear D
  refine (wpIn_wide (n := 0)).1 ?_
  refine PhaseIn.region (S := fun D => Rec P [.int .i64 bp, .int .i64 ln, .slice q ops.length cap, .int .i64 en, .int .i64 bx, .int .i64 by_, .int .i64 bk, .pointer (some ⟨Z, 0, none⟩), wv] D) 8 (by kernel_rfl) ?_
  generalize v.drew = v1 at H BW ⊢
  have hHeld : Rec P [.int .i64 bp, .int .i64 ln, .slice q ops.length cap, .int .i64 en, .int .i64 bx, .int .i64 by_, .int .i64 bk, .pointer (some ⟨Z, 0, none⟩), wv] v1 := H.out.p
  refine PhaseIn.takeD (i := 0) (v := ?_) [0, 8] 6 rfl (by rfl) (by kernel_rfl) (by kernel_rfl) (by kernel_rfl) (by kernel_rfl) (by kernel_rfl) (fun _ _ _ h => h) (Or.inl ⟨by kernel_rfl, ?_⟩) hHeld ?_
  rotate_left
  · intro w' hSw
    (try dsimp only at hSw)
    go_simp
    first | done | with_reducible rfl
  try simp only [Act.put, List.setIfInBounds_toArray, List.set]
  refine PhaseIn.takeD (i := 1) (v := ?_) [1, 2, 8] 7 rfl (by rfl) (by kernel_rfl) (by kernel_rfl) (by kernel_rfl) (by kernel_rfl) (by kernel_rfl) (fun _ _ _ h => h) (Or.inl ⟨by kernel_rfl, ?_⟩) hHeld ?_
  rotate_left
  · intro w' hSw
    (try dsimp only at hSw)
    go_simp
    first | done | with_reducible rfl
  try simp only [Act.put, List.setIfInBounds_toArray, List.set]
  refine PhaseIn.takeD (i := 3) (v := ?_) [3, 4, 5, 6, 7, 8] 9 rfl (by rfl) (by kernel_rfl) (by kernel_rfl) (by kernel_rfl) (by kernel_rfl) (by kernel_rfl) (fun _ _ _ h => h) (Or.inl ⟨by kernel_rfl, ?_⟩) hHeld ?_
  rotate_left
  · intro w' hSw
    (try dsimp only at hSw)
    go_simp
    first | done | with_reducible rfl
  try simp only [Act.put, List.setIfInBounds_toArray, List.set]
  refine PhaseIn.takeD (i := 4) (v := ?_) [4, 5, 6, 7, 8] 10 rfl (by rfl) (by kernel_rfl) (by kernel_rfl) (by kernel_rfl) (by kernel_rfl) (by kernel_rfl) (fun _ _ _ h => h) (Or.inl ⟨by kernel_rfl, ?_⟩) hHeld ?_
  rotate_left
  · intro w' hSw
    (try dsimp only at hSw)
    go_simp
    first | done | with_reducible rfl
  try simp only [Act.put, List.setIfInBounds_toArray, List.set]
  refine PhaseIn.takeD (i := 5) (v := ?_) [5, 6, 7, 8] 11 rfl (by rfl) (by kernel_rfl) (by kernel_rfl) (by kernel_rfl) (by kernel_rfl) (by kernel_rfl) (fun _ _ _ h => h) (Or.inl ⟨by kernel_rfl, ?_⟩) hHeld ?_
  rotate_left
  · intro w' hSw
    (try dsimp only at hSw)
    go_simp
    first | done | with_reducible rfl
  try simp only [Act.put, List.setIfInBounds_toArray, List.set]
  refine PhaseIn.takeD (i := 6) (v := ?_) [6, 7, 8] 12 rfl (by rfl) (by kernel_rfl) (by kernel_rfl) (by kernel_rfl) (by kernel_rfl) (by kernel_rfl) (fun _ _ _ h => h) (Or.inl ⟨by kernel_rfl, ?_⟩) hHeld ?_
  rotate_left
  · intro w' hSw
    (try dsimp only at hSw)
    go_simp
    first | done | with_reducible rfl
  try simp only [Act.put, List.setIfInBounds_toArray, List.set]
  refine PhaseIn.takeD (i := 7) (v := ?_) [7, 8] 13 rfl (by rfl) (by kernel_rfl) (by kernel_rfl) (by kernel_rfl) (by kernel_rfl) (by kernel_rfl) (fun _ _ _ h => h) (Or.inl ⟨by kernel_rfl, ?_⟩) hHeld ?_
  rotate_left
  · intro w' hSw
    (try dsimp only at hSw)
    have z1 := hSw.cell 1 _ rfl
    go_simp
    first | done | with_reducible rfl
  try simp only [Act.put, List.setIfInBounds_toArray, List.set]
  refine PhaseIn.one (i := 2) (by kernel_rfl) rfl (by kernel_rfl) (fun K hK => ?_)
  unfold Oper.wpIn
  refine ⟨fun _ _ => trivial, ?_⟩
  go_simp
  refine ⟨rfl, (callsIn_wide.2 (ON.out _ H.out)).mono ?_⟩
  rintro e v2 ⟨rfl, hb⟩
  refine hK _ _ (fun _ => hHeld.below hb) ?_
  clear hK K hHeld
  replace BW := hide (BW.out.trans (hb.mono H.out.lu))
  replace H := hide (H.out.below hb)
  clear hb
  try simp only [Act.put, List.setIfInBounds_toArray, List.set]
  refine PhaseIn.one (i := 8) (by kernel_rfl) rfl (by kernel_rfl) (fun K hK => ?_)
  unfold Oper.wpIn
  refine ⟨fun _ _ => trivial, ?_⟩
  go_simp
  refine ⟨rfl, (callsIn_wide.2 (ST.out _ H.out G)).mono ?_⟩
  rintro e v3 ⟨rfl, ⟨c', H3⟩, hb⟩
  refine hK _ _ (fun h => absurd h (by omega)) ?_
  clear hK K
  have BW3 := hide (BW.out.trans hb)
  have H3' := hide H3
  clear hb H3 H BW
  try simp only [Act.put, List.setIfInBounds_toArray, List.set]
  refine PhaseIn.done (by kernel_rfl) ?_ _
  go_wp2
  go_end0
  exact ⟨rfl, ⟨c', H3'.out⟩, BW3.out⟩

end Go.Proofs.YtaokopipgolmbaaGreatDoor.Ir
namespace Go.Proofs.YtaokopipgolmbaaGreatDoor.Ir
set_option linter.unusedVariables false
set_option linter.unusedSimpArgs false
open Go.ChangeShapes Go.WideShapes Go.ChangeAt Go.RowKit IntS Mch

set_option maxRecDepth 8000 in
set_option maxHeartbeats 8000000 in
theorem leave_missed (lo P Z cap : Nat) (b : Bk) (q : Option Addr) (wv : Value) (c : List Value) (m : M) (vs : List Int) (u : World) (h : Psg u lo P Z b q cap wv c m vs) (t : Int) (t0 : 0 ≤ t) (t7 : t ≤ 7) (hg : u.cell? ⟨2, 0, none⟩ = some (.iface 118 (.agg #[.pointer (some ⟨3, 61, none⟩)]))) (p0 : 0 ≤ b.pc) (p1 : b.pc ≤ 64) (c0 : 0 ≤ m.count) (c1 : m.count ≤ 1000000) :
    Calls Tryz.prog 29 #[.pointer (some ⟨P, 0, none⟩), .iface 81 (.agg #[.int .i64 t])] u fun e w' => e = .returned (.tuple #[]) ∧ (∃ c', Psg w' lo P Z b q cap wv c' (leaveM m b.pc t 3) vs) ∧ Below lo u w' := by
  have BB : Below u.heap.size u ((u.alloc (.cells #[.int .i64 0] 81)).alloc (.cells #[.int .i64 0] 82)) := ((Below.refl _ _).alloc (Nat.le_refl _) _).alloc (by simp) _
  have H := hide (h.below BB)
  have BW := hide (BB.mono h.lu)
  have RA := (Rec.new u [.int .i64 0] 81).alloc (.cells #[.int .i64 0] 82)
  have RO0 := Rec.new (u.alloc (.cells #[.int .i64 0] 81)) [.int .i64 0] 82
  rw [show (u.alloc (.cells #[.int .i64 0] 81)).heap.size = u.heap.size + 1 by simp] at RO0
  have hgl : 2 < u.heap.size := by
    rcases Nat.lt_or_ge 2 u.heap.size with h | h
    · exact h
    · simp [World.cell?, Array.getElem?_eq_none h] at hg
  have hg2 : ((u.alloc (.cells #[.int .i64 0] 81)).alloc (.cells #[.int .i64 0] 82)).cell? ⟨2, 0, none⟩ = some (.iface 118 (.agg #[.pointer (some ⟨3, 61, none⟩)])) := (World.cell?_of_block (w := u) (BB.block _ hgl)).trans hg
  have a0 := RA.cell 0 _ rfl
  have s0 := RA.soft 0
  obtain ⟨WE, eW⟩ : ∃ WE, ((((((u.alloc (.cells #[.int .i64 0] 81)).alloc (.cells #[.int .i64 0] 82)).alloc (.cells #[.pointer (some ⟨u.heap.size, 0, none⟩)] 84)).alloc (.cells #[.pointer (some ⟨3, 84, none⟩), .pointer (some ⟨((u.alloc (.cells #[.int .i64 0] 81)).alloc (.cells #[.int .i64 0] 82)).heap.size, 0, none⟩), .int .u64 150] 99)).alloc (.cells #[.pointer (some ⟨3, 84, none⟩), .pointer (some ⟨((u.alloc (.cells #[.int .i64 0] 81)).alloc (.cells #[.int .i64 0] 82)).heap.size, 0, none⟩), .int .u64 150] 99)).alloc (.cells #[.int .i64 t] 81)).setCell ⟨u.heap.size, 0, none⟩ (.int .i64 t) = WE := ⟨_, rfl⟩
  have RA9 : Rec u.heap.size [.int .i64 t] WE := by
    rw [← eW]
    exact ((((RA.alloc _).alloc _).alloc _).alloc _).set 0 _ (by simp) rfl
  have B9 : Below u.heap.size u WE := by
    rw [← eW]
    exact ((((((((((BB).alloc (by first | omega | (simp; omega)) _)).alloc (by first | omega | (simp; omega)) _)).alloc (by first | omega | (simp; omega)) _)).alloc (by first | omega | (simp; omega)) _))).setCell (p := ⟨u.heap.size, 0, none⟩) (Nat.le_refl _) _
  have H9 := hide (h.below B9)
  have BW9 := hide (B9.mono h.lu)
  have ZU : Hid (Z ≠ u.heap.size) := Nat.ne_of_lt h.z.lt
  have AS := As.hit_missed t 0 ⟨u.heap.size, 0, none⟩ ((u.alloc (.cells #[.int .i64 0] 81)).alloc (.cells #[.int .i64 0] 82)) hg2 a0 s0
  rw [eW] at AS
  have ASH := hide AS
  clear AS eW BB H BW RO0 RA hg2 a0 s0 B9 h hg hgl
  obtain ⟨bp, ln, ops, en, bx, by_, bk⟩ := b
  obtain ⟨b1, o1, k1, b2, o2, k2, b3, o3, k3, b4, k4, rfl⟩ := forms H9.out.mach
  obtain ⟨regs, pc, mem, save, lets, waits, halt, ins, outs, count⟩ := m
  simp only [mv] at *
  go_enter Tryz.func29, Tryz.ntmps29
  go_wp2_with fail
  refine (ASH.out).mono ?_
  rintro e WE ⟨rfl, rfl⟩
  clear ASH
  have p7 := H9.out.p.cell 7 _ rfl
  have z6 := H9.out.z.cell 6 _ rfl
  have s6 := H9.out.z.soft 6
  have hB := (Box.mk H9.out.z H9.out.zt).set 6 (.int .i64 3) (by simp) rfl
  have F := H9.out.far (Ints.self _ _) (Onl.self _ _) (CMach.plain (pc' := pc) (save' := save) (halt' := 3) (count' := count) (lets' := lets) (waits' := waits) H9.out.mach) (fun j hj => Or.inl hj) ((Turn.refl Z WE).setCell (p := ⟨Z, 6, none⟩) rfl (.int .i64 3)) hB
  have HF := hide F.1
  have BF := hide (BW9.out.trans F.2)
  have RF := hide (RA9.other ⟨Z, 6, none⟩ (.int .i64 3) ZU.out)
  clear F hB RA9
  go_wp2_with fail
  clear p7 z6 s6 H9 BW9
  generalize WE.setCell ⟨Z, 6, none⟩ (.int .i64 3) = v at HF BF RF ⊢
  have p0 := HF.out.p.cell 0 _ rfl
  have w0 := RF.out.cell 0 _ rfl
  have D : Below v.heap.size v v.drew := (Below.refl _ _).drew
  replace BF := hide (BF.out.trans (D.mono HF.out.lu))
  have HD := hide (HF.out.below D)
  refine region_tail 11 (by kernel_rfl) (by kernel_rfl) ?_
  simp only [List.take_succ_cons, List.take_zero, List.drop_succ_cons, List.drop_zero]
  repeat still_step
  refine wpStill_nil ?_
  clear D HF RF w0
  generalize v.drew = v1 at HD BF ⊢
  go_wp2_with fail
  refine (stand _ _ _ _ _ _ _ _ _ _ v1 (bp + t) t HD.out c0 c1 t0 (by omega)).mono ?_
  rintro e v2 ⟨rfl, ⟨c', H3⟩, hb⟩
  have BW3 := hide (BF.out.trans hb)
  have H3' := hide H3
  clear hb H3 HD BF
  go_wp2
  go_end0
  exact ⟨rfl, ⟨c', H3'.out⟩, BW3.out⟩

set_option maxRecDepth 8000 in
set_option maxHeartbeats 8000000 in
theorem leave_over (lo P Z cap : Nat) (b : Bk) (q : Option Addr) (wv : Value) (c : List Value) (m : M) (vs : List Int) (u : World) (h : Psg u lo P Z b q cap wv c m vs) (t : Int) (t0 : 0 ≤ t) (t7 : t ≤ 7) (hg : u.cell? ⟨2, 0, none⟩ = some (.iface 118 (.agg #[.pointer (some ⟨3, 61, none⟩)]))) (hh : m.halt = 0) (p0 : 0 ≤ b.pc) (p1 : b.pc ≤ 64) (c0 : 0 ≤ m.count) (c1 : m.count ≤ 1000000) :
    Calls Tryz.prog 29 #[.pointer (some ⟨P, 0, none⟩), .iface 82 (.agg #[.int .i64 t])] u fun e w' => e = .returned (.tuple #[]) ∧ (∃ c', Psg w' lo P Z b q cap wv c' (leaveM m b.pc (t + 1) 0) vs) ∧ Below lo u w' := by
  have BB : Below u.heap.size u ((u.alloc (.cells #[.int .i64 0] 81)).alloc (.cells #[.int .i64 0] 82)) := ((Below.refl _ _).alloc (Nat.le_refl _) _).alloc (by simp) _
  have H := hide (h.below BB)
  have BW := hide (BB.mono h.lu)
  have RA := (Rec.new u [.int .i64 0] 81).alloc (.cells #[.int .i64 0] 82)
  have RO0 := Rec.new (u.alloc (.cells #[.int .i64 0] 81)) [.int .i64 0] 82
  rw [show (u.alloc (.cells #[.int .i64 0] 81)).heap.size = u.heap.size + 1 by simp] at RO0
  have hgl : 2 < u.heap.size := by
    rcases Nat.lt_or_ge 2 u.heap.size with h | h
    · exact h
    · simp [World.cell?, Array.getElem?_eq_none h] at hg
  have hg2 : ((u.alloc (.cells #[.int .i64 0] 81)).alloc (.cells #[.int .i64 0] 82)).cell? ⟨2, 0, none⟩ = some (.iface 118 (.agg #[.pointer (some ⟨3, 61, none⟩)])) := (World.cell?_of_block (w := u) (BB.block _ hgl)).trans hg
  have a0 := RA.cell 0 _ rfl
  have s0 := RA.soft 0
  obtain ⟨WE, eW⟩ : ∃ WE, (((((u.alloc (.cells #[.int .i64 0] 81)).alloc (.cells #[.int .i64 0] 82)).alloc (.cells #[.pointer (some ⟨u.heap.size, 0, none⟩)] 84)).alloc (.cells #[.pointer (some ⟨3, 84, none⟩), .pointer (some ⟨((u.alloc (.cells #[.int .i64 0] 81)).alloc (.cells #[.int .i64 0] 82)).heap.size, 0, none⟩), .int .u64 150] 99)).alloc (.cells #[.pointer (some ⟨3, 84, none⟩), .pointer (some ⟨((u.alloc (.cells #[.int .i64 0] 81)).alloc (.cells #[.int .i64 0] 82)).heap.size, 0, none⟩), .int .u64 150] 99)) = WE := ⟨_, rfl⟩
  have RO1 : Rec (u.heap.size + 1) [.int .i64 0] WE := by
    rw [← eW]
    exact ((RO0.alloc _).alloc _).alloc _
  have B9 : Below u.heap.size u WE := by
    rw [← eW]
    exact ((((((BB).alloc (by first | omega | (simp; omega)) _)).alloc (by first | omega | (simp; omega)) _)).alloc (by first | omega | (simp; omega)) _)
  have AS := As.other t 0 ⟨u.heap.size, 0, none⟩ ((u.alloc (.cells #[.int .i64 0] 81)).alloc (.cells #[.int .i64 0] 82)) hg2 a0 s0
  rw [eW] at AS
  have ASH := hide AS
  clear AS eW
  have hg3 : WE.cell? ⟨2, 0, none⟩ = some (.iface 118 (.agg #[.pointer (some ⟨3, 61, none⟩)])) := (World.cell?_of_block (w := u) (B9.block _ hgl)).trans hg
  have b0 := RO1.cell 0 _ rfl
  have r0 := RO1.soft 0
  obtain ⟨WF, eF⟩ : ∃ WF, ((((WE.alloc (.cells #[.pointer (some ⟨u.heap.size + 1, 0, none⟩)] 86)).alloc (.cells #[.pointer (some ⟨3, 86, none⟩), .pointer (some ⟨WE.heap.size, 0, none⟩), .int .u64 150] 99)).alloc (.cells #[.pointer (some ⟨3, 86, none⟩), .pointer (some ⟨WE.heap.size, 0, none⟩), .int .u64 150] 99)).alloc (.cells #[.int .i64 t] 82)).setCell ⟨u.heap.size + 1, 0, none⟩ (.int .i64 t) = WF := ⟨_, rfl⟩
  have RO9 : Rec (u.heap.size + 1) [.int .i64 t] WF := by
    rw [← eF]
    exact ((((RO1.alloc _).alloc _).alloc _).alloc _).set 0 _ (by simp) rfl
  have E9 : u.heap.size ≤ WE.heap.size := B9.size
  have B8 : Below u.heap.size u WF := by
    rw [← eF]
    exact ((((((((((B9).alloc (by first | omega | (simp; omega)) _)).alloc (by first | omega | (simp; omega)) _)).alloc (by first | omega | (simp; omega)) _)).alloc (by first | omega | (simp; omega)) _))).setCell (p := ⟨u.heap.size + 1, 0, none⟩) (Nat.le_succ _) _
  have AS2 := As.hit_over t 0 ⟨u.heap.size + 1, 0, none⟩ WE hg3 b0 r0
  rw [eF] at AS2
  have ASH2 := hide AS2
  have HF := hide (h.below B8)
  have BF := hide (B8.mono h.lu)
  have RF := hide RO9
  clear AS2 eF BB H BW RO0 RA hg2 a0 s0 B9 B8 h hg hgl hg3 b0 r0 RO1 RO9 E9
  obtain ⟨bp, ln, ops, en, bx, by_, bk⟩ := b
  obtain ⟨regs, pc, mem, save, lets, waits, halt, ins, outs, count⟩ := m
  simp only [] at *
  subst hh
  go_enter Tryz.func29, Tryz.ntmps29
  go_wp2_with fail
  refine (ASH.out).mono ?_
  rintro e WE ⟨rfl, rfl⟩
  go_wp2_with fail
  refine (ASH2.out).mono ?_
  rintro e WF ⟨rfl, rfl⟩
  clear ASH ASH2
  go_wp2_with fail
  have p0 := HF.out.p.cell 0 _ rfl
  have w0 := RF.out.cell 0 _ rfl
  have D : Below WF.heap.size WF WF.drew := (Below.refl _ _).drew
  replace BF := hide (BF.out.trans (D.mono HF.out.lu))
  have HD := hide (HF.out.below D)
  refine region_tail 13 (by kernel_rfl) (by kernel_rfl) ?_
  simp only [List.take_succ_cons, List.take_zero, List.drop_succ_cons, List.drop_zero]
  repeat still_step
  refine wpStill_nil ?_
  clear D HF RF w0
  generalize WF.drew = v1 at HD BF ⊢
  go_wp2_with fail
  refine (stand _ _ _ _ _ _ _ _ _ _ v1 (bp + t + 1) (t + 1) HD.out c0 c1 (by omega) (by omega)).mono ?_
  rintro e v2 ⟨rfl, ⟨c', H3⟩, hb⟩
  have BW3 := hide (BF.out.trans hb)
  have H3' := hide H3
  clear hb H3 HD BF
  go_wp2
  go_end0
  have e1 : bp + (t + 1) = bp + t + 1 := by omega
  refine ⟨rfl, ⟨c', ?_⟩, BW3.out⟩
  unfold leaveM
  rw [e1]
  exact H3'.out

end Go.Proofs.YtaokopipgolmbaaGreatDoor.Ir
