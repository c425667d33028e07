/-
  The word that a sum is: the program's PolNum and the specification's.
-/
import Derived.Test.YtckhfpaicnjknaaPolF
namespace Go.Proofs.Ytckhfpaicnjknaa.Pol
open Go.ChangeShapes Go.WideShapes Go.ChangeAt Go.RowKit IntS
theorem num_no {ps : List Mono} (h : okP ps = false) : numP ps = (0, false) := by unfold numP; rw [if_pos h]
theorem num_nil {ps : List Mono} (h : okP ps = true) (h2 : ps.length = 0) : numP ps = (0, true) := by
  obtain rfl := List.length_eq_zero_iff.1 h2
  unfold numP
  rw [if_neg (by rw [h]; decide)]
theorem num_one {c : Int} (h : okP [(c, [])] = true) : numP [(c, [])] = (c, true) := by unfold numP; rw [if_neg (by rw [h]; decide)]
theorem num_atoms {c a : Int} {r : List Int} (h : okP [(c, a :: r)] = true) : numP [(c, a :: r)] = (0, false) := by unfold numP; rw [if_neg (by rw [h]; decide)]
theorem num_more {ps : List Mono} (h : okP ps = true) (h2 : 1 < ps.length) : numP ps = (0, false) := by
  unfold numP
  rw [if_neg (by rw [h]; decide)]
  match ps, h2 with
  | (x, []) :: y :: r, _ => rfl
  | (x, a :: b) :: y :: r, _ => rfl
set_option maxHeartbeats 4000000 in
theorem specNum (ps : List Mono) (B : Nat) (v : Value) (w : World) (h : PRow w B v ps) :
    Calls Try.prog 18 #[.agg #[v]] w fun e w' => e = .returned (.tuple #[.int .i64 (numP ps).1, .bool (numP ps).2]) ∧ Below w.heap.size w w' := by
  have bV : Below w.heap.size w (w.alloc (.cells #[v] 25)) := (Below.refl _ _).alloc (Nat.le_refl _) _
  have z0 : (w.alloc (.cells #[v] 25)).cell? ⟨w.heap.size, 0, none⟩ = some v := by rw [World.cell?_alloc_new]; rfl
  have H := hide (h.below bV)
  have BW := hide bV
  obtain ⟨a, cap, off, rfl, h2, h3, _, h4⟩ := h
  unfold maxLen at h3
  obtain ⟨⟨rn, rb⟩, eR⟩ : ∃ r, numP ps = r := ⟨_, rfl⟩
  rw [eR]
  have ER := hide eR
  clear bV eR
  go_enter Try.func18, Try.ntmps18
  go_wp2_with fail
  generalize w.alloc (.cells #[.slice a ps.length cap] 25) = V at z0 H BW ⊢
  go_wp2_with fail
  refine (specOk ps B _ _ H.out).mono ?_
  rintro e u ⟨rfl, hb⟩
  have y0 := cell_below hb z0
  have H2 := hide (H.out.below hb)
  replace BW := hide (BW.out.trans (hb.mono BW.out.size))
  clear hb z0 H h4
  cases ok : okP ps with
  | false =>
    have HD := hide (ER.out.symm.trans (num_no ok))
    clear ok H2
    obtain ⟨rfl, rfl⟩ := Prod.mk.inj HD.out
    go_wp2
    exact bodyPost_ret (v := .tuple #[.int .i64 0, .bool false]) (by simp [results, Try.results18, go_sem]) rfl ⟨rfl, BW.out⟩
  | true =>
    have OK := hide ok
    clear ok
    by_cases n0 : ps.length = 0
    · have HD := hide (ER.out.symm.trans (num_nil OK.out n0))
      obtain ⟨rfl, rfl⟩ := Prod.mk.inj HD.out
      rw [n0] at y0 ⊢
      clear H2 h2
      go_wp2
      exact bodyPost_ret (v := .tuple #[.int .i64 0, .bool true]) (by simp [results, Try.results18, go_sem]) rfl ⟨rfl, BW.out⟩
    · by_cases n1 : 1 < ps.length
      · have HD := hide (ER.out.symm.trans (num_more OK.out n1))
        obtain ⟨rfl, rfl⟩ := Prod.mk.inj HD.out
        have q0 : ((ps.length : Int) == 0) = false := beq_eq_false_iff_ne.2 (by omega)
        have q1 : ((ps.length : Int) == 1) = false := beq_eq_false_iff_ne.2 (by omega)
        have q2 : (1 : Int) < ps.length := by omega
        clear H2 n0 n1
        go_wp2
        exact bodyPost_ret (v := .tuple #[.int .i64 0, .bool false]) (by simp [results, Try.results18, go_sem]) rfl ⟨rfl, BW.out⟩
      · obtain ⟨x, rfl⟩ : ∃ x, ps = [x] := List.length_eq_one_iff.1 (by omega)
        obtain ⟨c, at_⟩ := x
        obtain ⟨_, _, _, e, _, _, _, h4⟩ := H2.out
        obtain ⟨rfl, hc⟩ := h4.resolve_left (by simp)
        cases e
        obtain ⟨g1, s, b, g2, g3⟩ := hc 0 _ rfl
        obtain ⟨qa, ca, _, rfl, l2, l3, _⟩ := g3
        simp only [Nat.zero_mul, Nat.add_zero] at g1 g2
        clear hc h4 n0 n1
        cases at_ with
        | nil =>
          have HD := hide (ER.out.symm.trans (num_one OK.out))
          obtain ⟨rfl, rfl⟩ := Prod.mk.inj HD.out
          clear H2 ER OK HD
          simp only [List.length_cons, List.length_nil] at *
          go_wp2
          exact bodyPost_ret (v := .tuple #[.int .i64 rn, .bool true]) (by simp [results, Try.results18, go_sem]) rfl ⟨rfl, BW.out⟩
        | cons a0 r =>
          have HD := hide (ER.out.symm.trans (num_atoms OK.out))
          obtain ⟨rfl, rfl⟩ := Prod.mk.inj HD.out
          have q0 : (((r.length + 1 : Nat) : Int) == 0) = false := beq_eq_false_iff_ne.2 (by omega)
          have q1 : (0 : Int) < ((r.length + 1 : Nat) : Int) := by omega
          clear H2 ER OK HD
          simp only [List.length_cons, List.length_nil] at *
          go_wp2
          exact bodyPost_ret (v := .tuple #[.int .i64 0, .bool false]) (by simp [results, Try.results18, go_sem]) rfl ⟨rfl, BW.out⟩
set_option maxHeartbeats 4000000 in
theorem implNum (ps : List Mono) (B : Nat) (v : Value) (w : World) (h : PRow w B v ps) :
    Calls Try.prog 17 #[.agg #[v]] w fun e w' => e = .returned (.tuple #[.int .i64 (numP ps).1, .bool (numP ps).2]) ∧ Below w.heap.size w w' := by
  have bV : Below w.heap.size w (w.alloc (.cells #[v] 25)) := (Below.refl _ _).alloc (Nat.le_refl _) _
  have z0 : (w.alloc (.cells #[v] 25)).cell? ⟨w.heap.size, 0, none⟩ = some v := by rw [World.cell?_alloc_new]; rfl
  have H := hide (h.below bV)
  have BW := hide bV
  obtain ⟨a, cap, off, rfl, h2, h3, _, h4⟩ := h
  unfold maxLen at h3
  obtain ⟨⟨rn, rb⟩, eR⟩ : ∃ r, numP ps = r := ⟨_, rfl⟩
  rw [eR]
  have ER := hide eR
  clear bV eR
  go_enter Try.func17, Try.ntmps17
  go_wp2_with fail
  generalize w.alloc (.cells #[.slice a ps.length cap] 25) = V at z0 H BW ⊢
  go_wp2_with fail
  refine (implOk ps B _ _ H.out).mono ?_
  rintro e u ⟨rfl, hb⟩
  have y0 := cell_below hb z0
  have H2 := hide (H.out.below hb)
  replace BW := hide (BW.out.trans (hb.mono BW.out.size))
  clear hb z0 H h4
  cases ok : okP ps with
  | false =>
    have HD := hide (ER.out.symm.trans (num_no ok))
    clear ok H2
    obtain ⟨rfl, rfl⟩ := Prod.mk.inj HD.out
    go_wp2
    exact bodyPost_ret (v := .tuple #[.int .i64 0, .bool false]) (by simp [results, Try.results17, go_sem]) rfl ⟨rfl, BW.out⟩
  | true =>
    have OK := hide ok
    clear ok
    by_cases n0 : ps.length = 0
    · have HD := hide (ER.out.symm.trans (num_nil OK.out n0))
      obtain ⟨rfl, rfl⟩ := Prod.mk.inj HD.out
      rw [n0] at y0 ⊢
      clear H2 h2
      go_wp2
      exact bodyPost_ret (v := .tuple #[.int .i64 0, .bool true]) (by simp [results, Try.results17, go_sem]) rfl ⟨rfl, BW.out⟩
    · by_cases n1 : 1 < ps.length
      · have HD := hide (ER.out.symm.trans (num_more OK.out n1))
        obtain ⟨rfl, rfl⟩ := Prod.mk.inj HD.out
        have q0 : ((ps.length : Int) == 0) = false := beq_eq_false_iff_ne.2 (by omega)
        have q1 : ((ps.length : Int) == 1) = false := beq_eq_false_iff_ne.2 (by omega)
        have q2 : (1 : Int) < ps.length := by omega
        clear H2 n0 n1
        go_wp2
        exact bodyPost_ret (v := .tuple #[.int .i64 0, .bool false]) (by simp [results, Try.results17, go_sem]) rfl ⟨rfl, BW.out⟩
      · obtain ⟨x, rfl⟩ : ∃ x, ps = [x] := List.length_eq_one_iff.1 (by omega)
        obtain ⟨c, at_⟩ := x
        obtain ⟨_, _, _, e, _, _, _, h4⟩ := H2.out
        obtain ⟨rfl, hc⟩ := h4.resolve_left (by simp)
        cases e
        obtain ⟨g1, s, b, g2, g3⟩ := hc 0 _ rfl
        obtain ⟨qa, ca, _, rfl, l2, l3, _⟩ := g3
        simp only [Nat.zero_mul, Nat.add_zero] at g1 g2
        clear hc h4 n0 n1
        cases at_ with
        | nil =>
          have HD := hide (ER.out.symm.trans (num_one OK.out))
          obtain ⟨rfl, rfl⟩ := Prod.mk.inj HD.out
          clear H2 ER OK HD
          simp only [List.length_cons, List.length_nil] at *
          go_wp2
          exact bodyPost_ret (v := .tuple #[.int .i64 rn, .bool true]) (by simp [results, Try.results17, go_sem]) rfl ⟨rfl, BW.out⟩
        | cons a0 r =>
          have HD := hide (ER.out.symm.trans (num_atoms OK.out))
          obtain ⟨rfl, rfl⟩ := Prod.mk.inj HD.out
          have q0 : (((r.length + 1 : Nat) : Int) == 0) = false := beq_eq_false_iff_ne.2 (by omega)
          have q1 : (0 : Int) < ((r.length + 1 : Nat) : Int) := by omega
          clear H2 ER OK HD
          simp only [List.length_cons, List.length_nil] at *
          go_wp2
          exact bodyPost_ret (v := .tuple #[.int .i64 0, .bool false]) (by simp [results, Try.results17, go_sem]) rfl ⟨rfl, BW.out⟩
end Go.Proofs.Ytckhfpaicnjknaa.Pol
