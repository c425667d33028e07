/-
  The program's builder of a piece of code: what it is that a pointer holds one, and its methods put, makes, use, useTwo, end, instruction.
-/
import Derived.Test.YtfjlnocikldhjaaLwA
import Derived.Test.YtfjlnocikldhjaaPhaseIn
namespace Go.Proofs.Ytfjlnocikldhjaa.Lw
set_option linter.unusedVariables false
set_option linter.unusedSimpArgs false
open Go.ChangeShapes Go.WideShapes Go.ChangeAt Go.RowKit IntS Flat
open InsS (In4)
open Blk (OwnN run_pushN)
open Ir (Opn Bk)
open Mch (Rec)
/-- The cells of a builder. -/
def bc (b : Bk) (t : Int) (un : List Int) (q1 : Option Addr) (c1 : Nat) (q2 : Option Addr) (c2 : Nat) : List Value := [.int .i64 b.pc, .int .i64 b.ln, .slice q1 b.ops.length c1, .int .i64 b.en, .int .i64 b.x, .int .i64 b.y, .int .i64 b.k, .int .i64 t, .slice q2 un.length c2]
/-- A builder in block p, its operations and the words that no operation has used in slices that the call made. -/
structure Bd (w : World) (lo p : Nat) (q1 : Option Addr) (c1 : Nat) (q2 : Option Addr) (c2 : Nat) (b : Bk) (t : Int) (un : List Int) : Prop where
  r : Rec p (bc b t un q1 c1 q2 c2) w
  o1 : OwnO w lo (.slice q1 b.ops.length c1) b.ops
  o2 : OwnN w lo (.slice q2 un.length c2) un
  n1 : q1 ≠ some ⟨p, 0, none⟩
  n2 : q2 ≠ some ⟨p, 0, none⟩
  n3 : ∀ G, q1 = some ⟨G, 0, none⟩ → q2 ≠ some ⟨G, 0, none⟩
  lp : lo ≤ p
/-- Of the blocks that were there only the builder's may have turned; where its slices lie now were its blocks, or is new. -/
structure Mb (w : World) (p : Nat) (q1 q2 : Option Addr) (w' : World) (q1' q2' : Option Addr) : Prop where
  os : w'.os = w.os
  tape : w'.tape = w.tape
  output : w'.output = w.output
  size : w.heap.size ≤ w'.heap.size
  block : ∀ k, k < w.heap.size → k ≠ p → q1 ≠ some ⟨k, 0, none⟩ → q2 ≠ some ⟨k, 0, none⟩ → w'.heap[k]? = w.heap[k]?
  f1 : q1' = q1 ∨ ∀ G, q1' = some ⟨G, 0, none⟩ → w.heap.size ≤ G
  f2 : q2' = q2 ∨ ∀ G, q2' = some ⟨G, 0, none⟩ → w.heap.size ≤ G
theorem Mb.of_below {w w' : World} (p : Nat) (q1 q2 : Option Addr) (h : Below w.heap.size w w') : Mb w p q1 q2 w' q1 q2 := ⟨h.os, h.tape, h.output, h.size, fun k hk _ _ _ => h.block k hk, Or.inl rfl, Or.inl rfl⟩
theorem ne_fr {w : World} {q q' : Option Addr} (h : q' = q ∨ ∀ G, q' = some ⟨G, 0, none⟩ → w.heap.size ≤ G) {k : Nat} (hk : k < w.heap.size) (hq : q ≠ some ⟨k, 0, none⟩) : q' ≠ some ⟨k, 0, none⟩ := by
  rcases h with e | e
  · rw [e]; exact hq
  · intro e2
    have := e _ e2
    omega
theorem fr_trans {a b : World} {q q' q'' : Option Addr} (hs : a.heap.size ≤ b.heap.size) (h : q' = q ∨ ∀ G, q' = some ⟨G, 0, none⟩ → a.heap.size ≤ G) (k : q'' = q' ∨ ∀ G, q'' = some ⟨G, 0, none⟩ → b.heap.size ≤ G) : q'' = q ∨ ∀ G, q'' = some ⟨G, 0, none⟩ → a.heap.size ≤ G := by
  rcases k with e | e
  · rw [e]; exact h
  · exact Or.inr (fun G eG => Nat.le_trans hs (e G eG))
theorem Mb.trans {a b c : World} {p : Nat} {q1 q2 r1 r2 s1 s2 : Option Addr} (h : Mb a p q1 q2 b r1 r2) (k : Mb b p r1 r2 c s1 s2) : Mb a p q1 q2 c s1 s2 :=
  ⟨k.os.trans h.os, k.tape.trans h.tape, k.output.trans h.output, Nat.le_trans h.size k.size, fun j hj hp h1 h2 => (k.block j (Nat.lt_of_lt_of_le hj h.size) hp (ne_fr h.f1 hj h1) (ne_fr h.f2 hj h2)).trans (h.block j hj hp h1 h2), fr_trans h.size h.f1 k.f1, fr_trans h.size h.f2 k.f2⟩
theorem Mb.turn {a b c : World} {p : Nat} {q1 q2 r1 r2 : Option Addr} (h : Mb a p q1 q2 b r1 r2) (ht : Turn p b c) : Mb a p q1 q2 c r1 r2 :=
  ⟨ht.os.trans h.os, ht.tape.trans h.tape, ht.output.trans h.output, Nat.le_trans h.size ht.size, fun j hj hp h1 h2 => (ht.block j (Nat.lt_of_lt_of_le hj h.size) hp).trans (h.block j hj hp h1 h2), h.f1, h.f2⟩
theorem Mb.of_mv1 {a b c : World} {p : Nat} {q1 q2 r1 r2 s1 : Option Addr} (h : Mb a p q1 q2 b r1 r2) (k : Mv b r1 c s1) : Mb a p q1 q2 c s1 r2 :=
  ⟨k.os.trans h.os, k.tape.trans h.tape, k.output.trans h.output, Nat.le_trans h.size k.size, fun j hj hp h1 h2 => (k.block j (Nat.lt_of_lt_of_le hj h.size) (ne_fr h.f1 hj h1)).trans (h.block j hj hp h1 h2), fr_trans h.size h.f1 k.fr, h.f2⟩
theorem Mb.of_mv2 {a b c : World} {p : Nat} {q1 q2 r1 r2 s2 : Option Addr} (h : Mb a p q1 q2 b r1 r2) (k : Mv b r2 c s2) : Mb a p q1 q2 c r1 s2 :=
  ⟨k.os.trans h.os, k.tape.trans h.tape, k.output.trans h.output, Nat.le_trans h.size k.size, fun j hj hp h1 h2 => (k.block j (Nat.lt_of_lt_of_le hj h.size) (ne_fr h.f2 hj h2)).trans (h.block j hj hp h1 h2), h.f1, fr_trans h.size h.f2 k.fr⟩
theorem Mb.box {w w' : World} {p : Nat} {q1 q2 r1 r2 : Option Addr} {Z : Nat} {cs : List Value} (h : Mb w p q1 q2 w' r1 r2) (r : Rec Z cs w) (hp : Z ≠ p) (h1 : q1 ≠ some ⟨Z, 0, none⟩) (h2 : q2 ≠ some ⟨Z, 0, none⟩) : Rec Z cs w' ∧ r1 ≠ some ⟨Z, 0, none⟩ ∧ r2 ≠ some ⟨Z, 0, none⟩ := by
  have e := h.block Z r.lt hp h1 h2
  exact ⟨⟨Nat.lt_of_lt_of_le r.lt h.size, fun j v hv => (World.cell?_of_block (w := w) (a := ⟨Z, j, none⟩) e).trans (r.cell j v hv), fun j => (World.frozen?_of_block (w := w) (a := ⟨Z, j, none⟩) e).trans (r.soft j)⟩, ne_fr h.f1 r.lt h1, ne_fr h.f2 r.lt h2⟩
theorem Bd.below {w w' : World} {lo p : Nat} {q1 : Option Addr} {c1 : Nat} {q2 : Option Addr} {c2 : Nat} {b : Bk} {t : Int} {un : List Int} (h : Bd w lo p q1 c1 q2 c2 b t un) (hb : Below w.heap.size w w') : Bd w' lo p q1 c1 q2 c2 b t un := ⟨h.r.below hb, h.o1.below hb, h.o2.below hb, h.n1, h.n2, h.n3, h.lp⟩
/-- What a method of the builder tells. -/
structure Bo (w : World) (lo p : Nat) (q1 q2 : Option Addr) (e : Ending) (w' : World) (b : Bk) (t : Int) (un : List Int) : Prop where
  e : e = .returned (.pointer (some ⟨p, 0, none⟩))
  ex : ∃ r1 c1 r2 c2, Bd w' lo p r1 c1 r2 c2 b t un ∧ Mb w p q1 q2 w' r1 r2
theorem far_n {w : World} {lo c : Nat} {q : Option Addr} {xs : List Int} (H : OwnN w lo (.slice q xs.length c) xs) (Z : Nat) (hZ : w.heap.size ≤ Z) : q ≠ some ⟨Z, 0, none⟩ := fun e => by have := (H.q_lt e).2; omega
theorem far_o {w : World} {lo c : Nat} {q : Option Addr} {xs : List Opn} (H : OwnO w lo (.slice q xs.length c) xs) (Z : Nat) (hZ : w.heap.size ≤ Z) : q ≠ some ⟨Z, 0, none⟩ := fun e => by have := (H.q_lt e).2; omega
theorem own_cut {w : World} {lo c : Nat} {q : Option Addr} {us : List Int} {u : Int} (h : OwnN w lo (.slice q (us ++ [u]).length c) (us ++ [u])) : ∃ G, q = some ⟨G, 0, none⟩ ∧ OwnN w lo (.slice q us.length c) us ∧ w.cell? ⟨G, us.length, none⟩ = some (.int .i64 u) ∧ us.length + 1 ≤ c ∧ c ≤ maxLen := by
  rcases h.form with ⟨e, _, e2⟩ | ⟨g, cap, e, h1, h2, h3⟩
  · simp at e2
  · cases e
    obtain ⟨a, cap', off, e1, l1, l2, _, hl, h4⟩ := h3
    obtain ⟨rfl, rfl⟩ : a = some ⟨g, 0, none⟩ ∧ c = cap' := by cases e1; exact ⟨rfl, rfl⟩
    rw [List.length_append] at l1
    obtain ⟨e5, _, h5⟩ := h4.resolve_left (by simp)
    obtain rfl : off = 0 := by injection e5 with e6; injection e6 with _ e7; exact e7.symm
    refine ⟨g, rfl, ?_, by have := (h5 us.length u (by simp)).1; rwa [Nat.zero_add] at this, l1, l2⟩
    obtain ⟨k1, k0 | ⟨g', cap', cur, hv, hb, hh, hle, hm, hc, ht⟩⟩ := h
    · cases k0.1
    · cases hv
      refine ⟨by simp [vals], Or.inr ⟨g, c, cur, rfl, hb, hh, by omega, hm, hc, ?_⟩⟩
      rw [List.length_append, List.length_singleton, Nat.mul_one] at ht
      have := congrArg (List.take us.length) ht
      rw [List.take_take, show min us.length (us.length + 1) = us.length by omega] at this
      rw [Nat.mul_one, this]
      simp [vals]
set_option maxRecDepth 8000 in
set_option maxHeartbeats 8000000 in
theorem put (b : Bk) (t : Int) (un : List Int) (o : Opn) (q1 : Option Addr) (c1 : Nat) (q2 : Option Addr) (c2 lo p : Nat) (w : World) (H : Bd w lo p q1 c1 q2 c2 b t un) (hlo : lo ≤ w.heap.size) (hl : b.ops.length ≤ 1000) (hu : un.length ≤ 2000) :
    Calls Try.prog 82 #[.pointer (some ⟨p, 0, none⟩), .agg #[.int .i64 o.kd, .int .i64 o.x, .int .i64 o.y, .int .i64 o.k, .int .i64 o.t]] w fun e w' => Bo w lo p q1 q2 e w' ⟨b.pc, b.ln, b.ops ++ [o], b.en, b.x, b.y, b.k⟩ t un := by
  obtain ⟨kd, ox, oy, ok, ot⟩ := o
  obtain ⟨pc, ln, ops, en, x, y, k⟩ := b
  obtain ⟨RB0, O10, O20, n1, n2, n3, lp⟩ := H
  simp only [bc] at RB0 O10 O20 hl ⊢
  have bo : Below w.heap.size w (w.alloc (.cells #[.int .i64 kd, .int .i64 ox, .int .i64 oy, .int .i64 ok, .int .i64 ot] 82)) := (Below.refl _ _).alloc (Nat.le_refl _) _
  have FO := far_o O10 w.heap.size (Nat.le_refl _)
  have FN := far_n O20 w.heap.size (Nat.le_refl _)
  have pl := RB0.lt
  have RO := hide (Rec.new w [.int .i64 kd, .int .i64 ox, .int .i64 oy, .int .i64 ok, .int .i64 ot] 82)
  have RB := hide (RB0.below bo)
  have O1 := hide (O10.below bo)
  have O2 := hide (O20.below bo)
  have MB := hide (Mb.of_below p q1 q2 bo)
  have LO : Hid (lo ≤ (w.alloc (.cells #[.int .i64 kd, .int .i64 ox, .int .i64 oy, .int .i64 ok, .int .i64 ot] 82)).heap.size) := Nat.le_trans hlo bo.size
  have NN := hide (And.intro n1 (And.intro n2 n3))
  have PL := hide pl
  clear bo RB0 O10 O20 n1 n2 n3 pl
  go_enter Try.func82, Try.ntmps82
  go_wp2_with fail
  generalize (w.alloc (.cells #[.int .i64 kd, .int .i64 ox, .int .i64 oy, .int .i64 ok, .int .i64 ot] 82)) = v1 at RO RB O1 O2 MB LO ⊢
  refine (wpIn_wide (n := 0)).1 ?_
  have bA : Below v1.heap.size v1 v1.drew := (Below.refl _ _).drew
  replace RO := hide (RO.out.below bA)
  replace RB := hide (RB.out.below bA)
  replace O1 := hide (O1.out.below bA)
  replace O2 := hide (O2.out.below bA)
  replace MB := hide (MB.out.trans (Mb.of_below _ _ _ bA))
  replace LO := hide (Nat.le_trans LO.out bA.size)
  clear bA
  refine PhaseIn.region (S := fun w' => Rec p [.int .i64 pc, .int .i64 ln, .slice q1 ops.length c1, .int .i64 en, .int .i64 x, .int .i64 y, .int .i64 k, .int .i64 t, .slice q2 un.length c2] w' ∧ Rec (w.heap.size) [.int .i64 kd, .int .i64 ox, .int .i64 oy, .int .i64 ok, .int .i64 ot] w') 12 (by kernel_rfl) ?_
  generalize v1.drew = d1 at RO RB O1 O2 MB LO ⊢
  have hHeld := And.intro RB.out RO.out
  refine PhaseIn.takeD (i := 0) (v := ?_) [0, 9, 10, 11, 12] 5 rfl (by rfl) (by kernel_rfl) (by kernel_rfl) (by kernel_rfl) (by kernel_rfl) (by kernel_rfl) (fun _ _ _ h => h) (Or.inl ⟨by kernel_rfl, ?_⟩) hHeld ?_
  rotate_left
  · intro w' hSw
    (try dsimp only at hSw)
    go_simp
    first | done | with_reducible rfl
  try simp only [Act.put, List.setIfInBounds_toArray, List.set]
  refine PhaseIn.takeD (i := 1) (v := ?_) [1, 2, 3, 4, 5, 8, 9, 10, 11, 12] 6 rfl (by rfl) (by kernel_rfl) (by kernel_rfl) (by kernel_rfl) (by kernel_rfl) (by kernel_rfl) (fun _ _ _ h => h) (Or.inl ⟨by kernel_rfl, ?_⟩) hHeld ?_
  rotate_left
  · intro w' hSw
    (try dsimp only at hSw)
    go_simp
    first | done | with_reducible rfl
  try simp only [Act.put, List.setIfInBounds_toArray, List.set]
  refine PhaseIn.takeD (i := 2) (v := ?_) [2, 3, 4, 5, 8, 9, 10, 11, 12] 7 rfl (by rfl) (by kernel_rfl) (by kernel_rfl) (by kernel_rfl) (by kernel_rfl) (by kernel_rfl) (fun _ _ _ h => h) (Or.inl ⟨by kernel_rfl, ?_⟩) hHeld ?_
  rotate_left
  · intro w' hSw
    (try dsimp only at hSw)
    go_simp
    first | done | with_reducible rfl
  try simp only [Act.put, List.setIfInBounds_toArray, List.set]
  refine PhaseIn.takeD (i := 3) (v := ?_) [3, 4, 5, 8, 9, 10, 11, 12] 8 rfl (by rfl) (by kernel_rfl) (by kernel_rfl) (by kernel_rfl) (by kernel_rfl) (by kernel_rfl) (fun _ _ _ h => h) (Or.inl ⟨by kernel_rfl, ?_⟩) hHeld ?_
  rotate_left
  · intro w' hSw
    (try dsimp only at hSw)
    go_simp
    first | done | with_reducible rfl
  try simp only [Act.put, List.setIfInBounds_toArray, List.set]
  refine PhaseIn.takeD (i := 4) (v := ?_) [4, 5, 8, 9, 10, 11, 12] 9 rfl (by rfl) (by kernel_rfl) (by kernel_rfl) (by kernel_rfl) (by kernel_rfl) (by kernel_rfl) (fun _ _ _ h => h) (Or.inl ⟨by kernel_rfl, ?_⟩) hHeld ?_
  rotate_left
  · intro w' hSw
    (try dsimp only at hSw)
    go_simp
    first | done | with_reducible rfl
  try simp only [Act.put, List.setIfInBounds_toArray, List.set]
  refine PhaseIn.takeD (i := 5) (v := ?_) [5, 8, 9, 10, 11, 12] 10 rfl (by rfl) (by kernel_rfl) (by kernel_rfl) (by kernel_rfl) (by kernel_rfl) (by kernel_rfl) (fun _ _ _ h => h) (Or.inl ⟨by kernel_rfl, ?_⟩) hHeld ?_
  rotate_left
  · intro w' hSw
    (try dsimp only at hSw)
    have z0 := hSw.1.cell 2 _ rfl
    go_simp
    first | done | with_reducible rfl
  try simp only [Act.put, List.setIfInBounds_toArray, List.set]
  refine PhaseIn.takeD (i := 6) (v := ?_) [6, 7, 8, 9, 10, 11, 12] 11 rfl (by rfl) (by kernel_rfl) (by kernel_rfl) (by kernel_rfl) (by kernel_rfl) (by kernel_rfl) (fun _ _ _ h => h) (Or.inl ⟨by kernel_rfl, ?_⟩) hHeld ?_
  rotate_left
  · intro w' hSw
    (try dsimp only at hSw)
    have z0 := hSw.2.cell 0 _ rfl; have z1 := hSw.2.cell 1 _ rfl; have z2 := hSw.2.cell 2 _ rfl; have z3 := hSw.2.cell 3 _ rfl; have z4 := hSw.2.cell 4 _ rfl
    go_simp
    first | done | with_reducible rfl
  try simp only [Act.put, List.setIfInBounds_toArray, List.set]
  refine PhaseIn.one (i := 7) (by kernel_rfl) rfl (by kernel_rfl) (fun K hK => ?_)
  unfold Oper.wpIn
  refine ⟨fun _ _ => trivial, ?_⟩
  go_simp
  have hb : Below d1.heap.size d1 (d1.alloc (.cells #[.int .i64 kd, .int .i64 ox, .int .i64 oy, .int .i64 ok, .int .i64 ot] 82)) := (Below.refl _ _).alloc (Nat.le_refl _) _
  replace hHeld := And.intro (hHeld.1.below hb) (hHeld.2.below hb)
  refine hK _ _ (fun _ => hHeld) ?_
  have NO := Rec.new d1 [.int .i64 kd, .int .i64 ox, .int .i64 oy, .int .i64 ok, .int .i64 ot] 82
  have OA := O1.out.below hb
  have LA := Nat.le_trans LO.out hb.size
  obtain ⟨g', c', u3, hrun, ho, hg, hgl, gr⟩ := run_pushO (ty := 40) (w := (d1.alloc (.cells #[.int .i64 kd, .int .i64 ox, .int .i64 oy, .int .i64 ok, .int .i64 ot] 82))) OA (by omega) LA d1.heap.size ⟨kd, ox, oy, ok, ot⟩ NO
  have M3 := Mv.push gr (OA.q_form.imp (fun e => e.1) id) hg
  obtain ⟨RB3, nb⟩ := M3.box hHeld.1 NN.out.1
  obtain ⟨RO3, nz⟩ := M3.box hHeld.2 FO
  have MB3 := hide ((MB.out.trans (Mb.of_below _ _ _ hb)).of_mv1 M3)
  have OO : Hid (OwnF 82 5 u3 lo (.slice (some ⟨g', 0, none⟩) (ops.length + 1) c') (ops.length + 1) (flatO (ops ++ [⟨kd, ox, oy, ok, ot⟩]))) := by have h9 := ho; unfold OwnO at h9; rw [List.length_append] at h9; exact h9
  obtain ⟨T9, ht9, hT9⟩ := grown_turn gr (OA.q_form.imp (fun e => e.1) id)
  have OU := hide ((O2.out.below hb).apart ht9 (fun G e h => by
    rcases hT9 with h9 | h9
    · exact NN.out.2.2 T9 h9 (by rw [e, h])
    · have := ((O2.out.below hb).q_lt e).2
      omega))
  have NQ : Hid (∀ G, (some ⟨g', 0, none⟩ : Option Addr) = some ⟨G, 0, none⟩ → q2 ≠ some ⟨G, 0, none⟩) := fun G e => by
    rcases M3.fr with e1 | e1
    · exact NN.out.2.2 G (by rw [← e1]; exact e)
    · intro e2
      have := e1 G e
      have := ((O2.out.below hb).q_lt e2).2
      omega
  replace hHeld := And.intro RB3 RO3
  have RB4 := hide RB3
  have NB := hide nb
  clear hK K hb NO OA LA ho hg hgl gr M3 RB3 RO3 nb nz ht9 hT9 RB RO O1 O2 MB LO
  try simp only [Act.put, List.setIfInBounds_toArray, List.set]
  refine PhaseIn.one (i := 8) (by kernel_rfl) rfl (by kernel_rfl) (fun K hK => ?_)
  refine Push.push_in _ _ rfl rfl rfl hrun (hK _ _ (fun _ => hHeld) ?_)
  clear hK K hrun
  try simp only [Act.put, List.setIfInBounds_toArray, List.set]
  refine PhaseIn.takeD (i := 9) (v := ?_) [9, 10, 11, 12] 14 rfl (by rfl) (by kernel_rfl) (by kernel_rfl) (by kernel_rfl) (by kernel_rfl) (by kernel_rfl) (fun _ _ _ h => h) (Or.inl ⟨by kernel_rfl, ?_⟩) hHeld ?_
  rotate_left
  · intro w' hSw
    (try dsimp only at hSw)
    go_simp
    first | done | with_reducible rfl
  try simp only [Act.put, List.setIfInBounds_toArray, List.set]
  refine PhaseIn.takeD (i := 10) (v := ?_) [10, 11, 12] 15 rfl (by rfl) (by kernel_rfl) (by kernel_rfl) (by kernel_rfl) (by kernel_rfl) (by kernel_rfl) (fun _ _ _ h => h) (Or.inl ⟨by kernel_rfl, ?_⟩) hHeld ?_
  rotate_left
  · intro w' hSw
    (try dsimp only at hSw)
    go_simp
    first | done | with_reducible rfl
  try simp only [Act.put, List.setIfInBounds_toArray, List.set]
  refine PhaseIn.takeD (i := 11) (v := ?_) [11, 12] 16 rfl (by rfl) (by kernel_rfl) (by kernel_rfl) (by kernel_rfl) (by kernel_rfl) (by kernel_rfl) (fun _ _ _ h => h) (Or.inl ⟨by kernel_rfl, ?_⟩) hHeld ?_
  rotate_left
  · intro w' hSw
    (try dsimp only at hSw)
    go_simp
    first | done | with_reducible rfl
  try simp only [Act.put, List.setIfInBounds_toArray, List.set]
  have z2 := RB4.out.cell 2 _ rfl
  have s2 := RB4.out.soft 2
  refine PhaseIn.one (i := 12) (by kernel_rfl) rfl (by kernel_rfl) (fun K hK => ?_)
  unfold Oper.wpIn
  refine ⟨fun _ _ => trivial, ?_⟩
  go_simp
  refine hK _ _ (fun h => absurd h (by omega)) ?_
  have t1 : Turn p u3 (u3.setCell ⟨p, 2, none⟩ (.slice (some ⟨g', 0, none⟩) (ops.length + 1) c')) := (Turn.refl _ u3).setCell (p := ⟨p, 2, none⟩) rfl _
  have RF := hide (RB4.out.set 2 (.slice (some ⟨g', 0, none⟩) (ops.length + 1) c') (by simp) rfl)
  replace OO := hide (OO.out.apart t1 (fun G e h => NB.out (by rw [e, h])))
  replace OU := hide (OU.out.apart t1 (fun G e h => NN.out.2.1 (by rw [e, h])))
  replace MB3 := hide (MB3.out.turn t1)
  clear hK K z2 s2 t1 hHeld RB4
  try simp only [Act.put, List.setIfInBounds_toArray, List.set]
  generalize (u3.setCell ⟨p, 2, none⟩ (.slice (some ⟨g', 0, none⟩) (ops.length + 1) c')) = u4 at RF OO OU MB3 ⊢
  refine PhaseIn.done (by kernel_rfl) ?_ _
  have BF : Hid (Bd u4 lo p (some ⟨g', 0, none⟩) c' q2 c2 ⟨pc, ln, ops ++ [⟨kd, ox, oy, ok, ot⟩], en, x, y, k⟩ t un) := ⟨by simp only [bc, List.length_append, List.length_singleton]; exact RF.out, by unfold OwnO; rw [List.length_append]; exact OO.out, OU.out, NB.out, NN.out.2.1, NQ.out, lp⟩
  go_wp2
  go_ret
  exact ⟨rfl, _, _, _, _, BF.out, MB3.out⟩
set_option maxRecDepth 8000 in
set_option maxHeartbeats 8000000 in
theorem makes (b : Bk) (t : Int) (un : List Int) (o : Opn) (q1 : Option Addr) (c1 : Nat) (q2 : Option Addr) (c2 lo p : Nat) (w : World) (H : Bd w lo p q1 c1 q2 c2 b t un) (hlo : lo ≤ w.heap.size) (hl : b.ops.length ≤ 1000) (hu : un.length ≤ 1000) :
    Calls Try.prog 81 #[.pointer (some ⟨p, 0, none⟩), .agg #[.int .i64 o.kd, .int .i64 o.x, .int .i64 o.y, .int .i64 o.k, .int .i64 o.t]] w fun e w' => Bo w lo p q1 q2 e w' ⟨b.pc, b.ln, b.ops ++ [o], b.en, b.x, b.y, b.k⟩ t (un ++ [(b.ops.length : Int)]) := by
  obtain ⟨kd, ox, oy, ok, ot⟩ := o
  obtain ⟨pc, ln, ops, en, x, y, k⟩ := b
  obtain ⟨RB0, O10, O20, n1, n2, n3, lp⟩ := H
  simp only [bc] at RB0 O10 O20 hl ⊢
  have bo : Below w.heap.size w (w.alloc (.cells #[.int .i64 kd, .int .i64 ox, .int .i64 oy, .int .i64 ok, .int .i64 ot] 82)) := (Below.refl _ _).alloc (Nat.le_refl _) _
  have FO := far_o O10 w.heap.size (Nat.le_refl _)
  have FN := far_n O20 w.heap.size (Nat.le_refl _)
  have pl := RB0.lt
  have RO := hide (Rec.new w [.int .i64 kd, .int .i64 ox, .int .i64 oy, .int .i64 ok, .int .i64 ot] 82)
  have RB := hide (RB0.below bo)
  have O1 := hide (O10.below bo)
  have O2 := hide (O20.below bo)
  have MB := hide (Mb.of_below p q1 q2 bo)
  have LO : Hid (lo ≤ (w.alloc (.cells #[.int .i64 kd, .int .i64 ox, .int .i64 oy, .int .i64 ok, .int .i64 ot] 82)).heap.size) := Nat.le_trans hlo bo.size
  have NN := hide (And.intro n1 (And.intro n2 n3))
  have PL := hide pl
  clear bo RB0 O10 O20 n1 n2 n3 pl
  go_enter Try.func81, Try.ntmps81
  go_wp2_with fail
  generalize (w.alloc (.cells #[.int .i64 kd, .int .i64 ox, .int .i64 oy, .int .i64 ok, .int .i64 ot] 82)) = v1 at RO RB O1 O2 MB LO ⊢
  refine (wpIn_wide (n := 0)).1 ?_
  have bA : Below v1.heap.size v1 v1.drew := (Below.refl _ _).drew
  replace RO := hide (RO.out.below bA)
  replace RB := hide (RB.out.below bA)
  replace O1 := hide (O1.out.below bA)
  replace O2 := hide (O2.out.below bA)
  replace MB := hide (MB.out.trans (Mb.of_below _ _ _ bA))
  replace LO := hide (Nat.le_trans LO.out bA.size)
  clear bA
  refine PhaseIn.region (S := fun w' => Rec p [.int .i64 pc, .int .i64 ln, .slice q1 ops.length c1, .int .i64 en, .int .i64 x, .int .i64 y, .int .i64 k, .int .i64 t, .slice q2 un.length c2] w' ∧ True) 15 (by kernel_rfl) ?_
  generalize v1.drew = d1 at RO RB O1 O2 MB LO ⊢
  have hHeld : Rec p [.int .i64 pc, .int .i64 ln, .slice q1 ops.length c1, .int .i64 en, .int .i64 x, .int .i64 y, .int .i64 k, .int .i64 t, .slice q2 un.length c2] d1 ∧ True := ⟨RB.out, trivial⟩
  refine PhaseIn.takeD (i := 0) (v := ?_) [0, 13, 14, 15] 5 rfl (by rfl) (by kernel_rfl) (by kernel_rfl) (by kernel_rfl) (by kernel_rfl) (by kernel_rfl) (fun _ _ _ h => h) (Or.inl ⟨by kernel_rfl, ?_⟩) hHeld ?_
  rotate_left
  · intro w' hSw
    (try dsimp only at hSw)
    go_simp
    first | done | with_reducible rfl
  try simp only [Act.put, List.setIfInBounds_toArray, List.set]
  refine PhaseIn.takeD (i := 1) (v := ?_) [1, 2, 3, 4, 12, 13, 14, 15] 6 rfl (by rfl) (by kernel_rfl) (by kernel_rfl) (by kernel_rfl) (by kernel_rfl) (by kernel_rfl) (fun _ _ _ h => h) (Or.inl ⟨by kernel_rfl, ?_⟩) hHeld ?_
  rotate_left
  · intro w' hSw
    (try dsimp only at hSw)
    go_simp
    first | done | with_reducible rfl
  try simp only [Act.put, List.setIfInBounds_toArray, List.set]
  refine PhaseIn.takeD (i := 2) (v := ?_) [2, 3, 4, 12, 13, 14, 15] 7 rfl (by rfl) (by kernel_rfl) (by kernel_rfl) (by kernel_rfl) (by kernel_rfl) (by kernel_rfl) (fun _ _ _ h => h) (Or.inl ⟨by kernel_rfl, ?_⟩) hHeld ?_
  rotate_left
  · intro w' hSw
    (try dsimp only at hSw)
    go_simp
    first | done | with_reducible rfl
  try simp only [Act.put, List.setIfInBounds_toArray, List.set]
  refine PhaseIn.takeD (i := 3) (v := ?_) [3, 4, 12, 13, 14, 15] 8 rfl (by rfl) (by kernel_rfl) (by kernel_rfl) (by kernel_rfl) (by kernel_rfl) (by kernel_rfl) (fun _ _ _ h => h) (Or.inl ⟨by kernel_rfl, ?_⟩) hHeld ?_
  rotate_left
  · intro w' hSw
    (try dsimp only at hSw)
    go_simp
    first | done | with_reducible rfl
  try simp only [Act.put, List.setIfInBounds_toArray, List.set]
  refine PhaseIn.takeD (i := 4) (v := ?_) [4, 12, 13, 14, 15] 9 rfl (by rfl) (by kernel_rfl) (by kernel_rfl) (by kernel_rfl) (by kernel_rfl) (by kernel_rfl) (fun _ _ _ h => h) (Or.inl ⟨by kernel_rfl, ?_⟩) hHeld ?_
  rotate_left
  · intro w' hSw
    (try dsimp only at hSw)
    have z0 := hSw.1.cell 8 _ rfl
    go_simp
    first | done | with_reducible rfl
  try simp only [Act.put, List.setIfInBounds_toArray, List.set]
  refine PhaseIn.takeD (i := 5) (v := ?_) [5, 6, 7, 8, 9, 10, 11, 12, 13, 14, 15] 10 rfl (by rfl) (by kernel_rfl) (by kernel_rfl) (by kernel_rfl) (by kernel_rfl) (by kernel_rfl) (fun _ _ _ h => h) (Or.inl ⟨by kernel_rfl, ?_⟩) hHeld ?_
  rotate_left
  · intro w' hSw
    (try dsimp only at hSw)
    go_simp
    first | done | with_reducible rfl
  try simp only [Act.put, List.setIfInBounds_toArray, List.set]
  refine PhaseIn.takeD (i := 6) (v := ?_) [6, 7, 8, 9, 10, 11, 12, 13, 14, 15] 11 rfl (by rfl) (by kernel_rfl) (by kernel_rfl) (by kernel_rfl) (by kernel_rfl) (by kernel_rfl) (fun _ _ _ h => h) (Or.inl ⟨by kernel_rfl, ?_⟩) hHeld ?_
  rotate_left
  · intro w' hSw
    (try dsimp only at hSw)
    go_simp
    first | done | with_reducible rfl
  try simp only [Act.put, List.setIfInBounds_toArray, List.set]
  refine PhaseIn.takeD (i := 7) (v := ?_) [7, 8, 9, 10, 11, 12, 13, 14, 15] 12 rfl (by rfl) (by kernel_rfl) (by kernel_rfl) (by kernel_rfl) (by kernel_rfl) (by kernel_rfl) (fun _ _ _ h => h) (Or.inl ⟨by kernel_rfl, ?_⟩) hHeld ?_
  rotate_left
  · intro w' hSw
    (try dsimp only at hSw)
    go_simp
    first | done | with_reducible rfl
  try simp only [Act.put, List.setIfInBounds_toArray, List.set]
  refine PhaseIn.takeD (i := 8) (v := ?_) [8, 9, 10, 11, 12, 13, 14, 15] 13 rfl (by rfl) (by kernel_rfl) (by kernel_rfl) (by kernel_rfl) (by kernel_rfl) (by kernel_rfl) (fun _ _ _ h => h) (Or.inl ⟨by kernel_rfl, ?_⟩) hHeld ?_
  rotate_left
  · intro w' hSw
    (try dsimp only at hSw)
    go_simp
    first | done | with_reducible rfl
  try simp only [Act.put, List.setIfInBounds_toArray, List.set]
  refine PhaseIn.takeD (i := 9) (v := ?_) [9, 10, 11, 12, 13, 14, 15] 14 rfl (by rfl) (by kernel_rfl) (by kernel_rfl) (by kernel_rfl) (by kernel_rfl) (by kernel_rfl) (fun _ _ _ h => h) (Or.inl ⟨by kernel_rfl, ?_⟩) hHeld ?_
  rotate_left
  · intro w' hSw
    (try dsimp only at hSw)
    have z0 := hSw.1.cell 2 _ rfl
    go_simp
    first | done | with_reducible rfl
  try simp only [Act.put, List.setIfInBounds_toArray, List.set]
  refine PhaseIn.takeD (i := 10) (v := ?_) [10, 11, 12, 13, 14, 15] 15 rfl (by rfl) (by kernel_rfl) (by kernel_rfl) (by kernel_rfl) (by kernel_rfl) (by kernel_rfl) (fun _ _ _ h => h) (Or.inl ⟨by kernel_rfl, ?_⟩) hHeld ?_
  rotate_left
  · intro w' hSw
    (try dsimp only at hSw)
    go_simp
    first | done | with_reducible rfl
  try simp only [Act.put, List.setIfInBounds_toArray, List.set]
  refine PhaseIn.one (i := 11) (by kernel_rfl) rfl (by kernel_rfl) (fun K hK => ?_)
  unfold Oper.wpIn
  refine ⟨fun _ _ => trivial, ?_⟩
  go_simp
  have hb : Below d1.heap.size d1 (d1.alloc (.cells #[.int .i64 (ops.length : Nat)] 3)) := (Below.refl _ _).alloc (Nat.le_refl _) _
  replace hHeld : Rec p [.int .i64 pc, .int .i64 ln, .slice q1 ops.length c1, .int .i64 en, .int .i64 x, .int .i64 y, .int .i64 k, .int .i64 t, .slice q2 un.length c2] (d1.alloc (.cells #[.int .i64 (ops.length : Nat)] 3)) ∧ True := ⟨hHeld.1.below hb, trivial⟩
  refine hK _ _ (fun _ => hHeld) ?_
  have OA := O2.out.below hb
  have LA := Nat.le_trans LO.out hb.size
  obtain ⟨g', c', u3, hrun, ho, hg, hgl, gr⟩ := run_pushN (ty := 22) (w := (d1.alloc (.cells #[.int .i64 (ops.length : Nat)] 3))) OA (by omega) LA ⟨d1.heap.size, 0, none⟩ (ops.length : Int) (by rw [Addr.add_lit]; simp)
  have M3 := Mv.push gr (OA.q_form.imp (fun e => e.1) id) hg
  obtain ⟨RB3, nb⟩ := M3.box hHeld.1 NN.out.2.1
  obtain ⟨RO3, nz⟩ := M3.box (RO.out.below hb) FN
  have MB3 := hide ((MB.out.trans (Mb.of_below _ _ _ hb)).of_mv2 M3)
  have OO : Hid (OwnF 3 1 u3 lo (.slice (some ⟨g', 0, none⟩) (un.length + 1) c') (un.length + 1) (un ++ [(ops.length : Int)])) := by have h9 := ho; unfold OwnN at h9; rw [List.length_append] at h9; exact h9
  obtain ⟨T9, ht9, hT9⟩ := grown_turn gr (OA.q_form.imp (fun e => e.1) id)
  have OU := hide ((O1.out.below hb).apart ht9 (fun G e h => by
    rcases hT9 with h9 | h9
    · exact NN.out.2.2 G e (by rw [h9, h])
    · have := ((O1.out.below hb).q_lt e).2
      omega))
  have NQ : Hid (∀ G, q1 = some ⟨G, 0, none⟩ → (some ⟨g', 0, none⟩ : Option Addr) ≠ some ⟨G, 0, none⟩) := fun G e => by
    rcases M3.fr with e1 | e1
    · rw [e1]; exact NN.out.2.2 G e
    · intro e2
      have := e1 G e2
      have := ((O1.out.below hb).q_lt e).2
      omega
  replace hHeld : Rec p [.int .i64 pc, .int .i64 ln, .slice q1 ops.length c1, .int .i64 en, .int .i64 x, .int .i64 y, .int .i64 k, .int .i64 t, .slice q2 un.length c2] u3 ∧ True := ⟨RB3, trivial⟩
  have RB4 := hide RB3
  have NB := hide nb
  have RO4 := hide RO3
  have LA3 : Hid (lo ≤ u3.heap.size) := Nat.le_trans LA gr.size
  clear hK K hb OA LA ho hg hgl gr M3 RB3 RO3 nb nz ht9 hT9 RB RO O1 O2 MB LO
  try simp only [Act.put, List.setIfInBounds_toArray, List.set]
  refine PhaseIn.one (i := 12) (by kernel_rfl) rfl (by kernel_rfl) (fun K hK => ?_)
  refine Push.push_in _ _ rfl rfl rfl hrun (hK _ _ (fun _ => hHeld) ?_)
  clear hK K hrun
  try simp only [Act.put, List.setIfInBounds_toArray, List.set]
  refine PhaseIn.takeD (i := 13) (v := ?_) [13, 14, 15] 18 rfl (by rfl) (by kernel_rfl) (by kernel_rfl) (by kernel_rfl) (by kernel_rfl) (by kernel_rfl) (fun _ _ _ h => h) (Or.inl ⟨by kernel_rfl, ?_⟩) hHeld ?_
  rotate_left
  · intro w' hSw
    (try dsimp only at hSw)
    go_simp
    first | done | with_reducible rfl
  try simp only [Act.put, List.setIfInBounds_toArray, List.set]
  refine PhaseIn.takeD (i := 14) (v := ?_) [14, 15] 19 rfl (by rfl) (by kernel_rfl) (by kernel_rfl) (by kernel_rfl) (by kernel_rfl) (by kernel_rfl) (fun _ _ _ h => h) (Or.inl ⟨by kernel_rfl, ?_⟩) hHeld ?_
  rotate_left
  · intro w' hSw
    (try dsimp only at hSw)
    go_simp
    first | done | with_reducible rfl
  try simp only [Act.put, List.setIfInBounds_toArray, List.set]
  have z2 := RB4.out.cell 8 _ rfl
  have s2 := RB4.out.soft 8
  refine PhaseIn.one (i := 15) (by kernel_rfl) rfl (by kernel_rfl) (fun K hK => ?_)
  unfold Oper.wpIn
  refine ⟨fun _ _ => trivial, ?_⟩
  go_simp
  refine hK _ _ (fun h => absurd h (by omega)) ?_
  have t1 : Turn p u3 (u3.setCell ⟨p, 8, none⟩ (.slice (some ⟨g', 0, none⟩) (un.length + 1) c')) := (Turn.refl _ u3).setCell (p := ⟨p, 8, none⟩) rfl _
  have RF := hide (RB4.out.set 8 (.slice (some ⟨g', 0, none⟩) (un.length + 1) c') (by simp) rfl)
  replace OO := hide (OO.out.apart t1 (fun G e h => NB.out (by rw [e, h])))
  replace OU := hide (OU.out.apart t1 (fun G e h => NN.out.1 (by rw [e, h])))
  replace MB3 := hide (MB3.out.turn t1)
  replace RO4 := hide (RO4.out.turn t1 (by have := PL.out; omega))
  replace LA3 := hide (Nat.le_trans LA3.out t1.size)
  clear hK K z2 s2 t1 hHeld RB4
  try simp only [Act.put, List.setIfInBounds_toArray, List.set]
  generalize (u3.setCell ⟨p, 8, none⟩ (.slice (some ⟨g', 0, none⟩) (un.length + 1) c')) = u4 at RF OO OU MB3 RO4 LA3 ⊢
  refine PhaseIn.done (by kernel_rfl) ?_ _
  have BF : Hid (Bd u4 lo p q1 c1 (some ⟨g', 0, none⟩) c' ⟨pc, ln, ops, en, x, y, k⟩ t (un ++ [(ops.length : Int)])) := ⟨by simp only [bc, List.length_append, List.length_singleton]; exact RF.out, OU.out, by unfold OwnN; rw [List.length_append]; exact OO.out, NN.out.1, NB.out, NQ.out, lp⟩
  have r0 := RO4.out.cell 0 _ rfl
  have r1 := RO4.out.cell 1 _ rfl
  have r2 := RO4.out.cell 2 _ rfl
  have r3 := RO4.out.cell 3 _ rfl
  have r4 := RO4.out.cell 4 _ rfl
  go_wp2_with fail
  refine (put ⟨pc, ln, ops, en, x, y, k⟩ t (un ++ [(ops.length : Int)]) ⟨kd, ox, oy, ok, ot⟩ _ _ _ _ lo p _ BF.out LA3.out hl (by simp; omega)).mono ?_
  rintro e u5 BO
  obtain ⟨rfl, r1, k1, r2, k2, hB, hM⟩ := BO
  have MF := hide (MB3.out.trans hM)
  have BG := hide hB
  clear hB hM
  go_wp2
  go_ret
  exact ⟨rfl, _, _, _, _, BG.out, MF.out⟩
set_option maxRecDepth 8000 in
set_option maxHeartbeats 8000000 in
theorem use (b : Bk) (t : Int) (us : List Int) (u : Int) (q1 : Option Addr) (c1 : Nat) (q2 : Option Addr) (c2 lo p : Nat) (w : World) (H : Bd w lo p q1 c1 q2 c2 b t (us ++ [u])) (hu : us.length ≤ 1000) :
    Calls Try.prog 83 #[.pointer (some ⟨p, 0, none⟩)] w fun e w' => e = .returned (.int .i64 u) ∧ Bd w' lo p q1 c1 q2 c2 b t us ∧ Mb w p q1 q2 w' q1 q2 := by
  obtain ⟨pc, ln, ops, en, x, y, k⟩ := b
  obtain ⟨RB0, O10, O20, n1, n2, n3, lp⟩ := H
  obtain ⟨G, rfl, O21, cu, cl, cm⟩ := own_cut O20
  simp only [bc, List.length_append, List.length_singleton] at RB0 O10 ⊢
  unfold maxLen at cm
  have z8 := RB0.cell 8 _ rfl
  have s8 := RB0.soft 8
  have t1 : Turn p w (w.setCell ⟨p, 8, none⟩ (.slice (some ⟨G, 0, none⟩) us.length c2)) := (Turn.refl _ w).setCell (p := ⟨p, 8, none⟩) rfl _
  have RF := RB0.set 8 (.slice (some ⟨G, 0, none⟩) us.length c2) (by simp) rfl
  have BF : Hid (Bd (w.setCell ⟨p, 8, none⟩ (.slice (some ⟨G, 0, none⟩) us.length c2)) lo p q1 c1 (some ⟨G, 0, none⟩) c2 ⟨pc, ln, ops, en, x, y, k⟩ t us) := ⟨RF, O10.apart t1 (fun G e h => n1 (by rw [e, h])), O21.apart t1 (fun G e h => n2 (by rw [e, h])), n1, n2, n3, lp⟩
  have MF : Hid (Mb w p q1 (some ⟨G, 0, none⟩) (w.setCell ⟨p, 8, none⟩ (.slice (some ⟨G, 0, none⟩) us.length c2)) q1 (some ⟨G, 0, none⟩)) := (Mb.of_below _ _ _ (Below.refl _ _)).turn t1
  clear RB0 O10 O20 O21 n1 n2 n3 t1 RF
  go_enter Try.func83, Try.ntmps83
  go_wp2
  go_ret
  exact ⟨rfl, BF.out, MF.out⟩
set_option maxRecDepth 8000 in
theorem useTwo (b : Bk) (t : Int) (us : List Int) (u v : Int) (q1 : Option Addr) (c1 : Nat) (q2 : Option Addr) (c2 lo p : Nat) (w : World) (H : Bd w lo p q1 c1 q2 c2 b t (us ++ [u, v])) (hu : us.length ≤ 900) :
    Calls Try.prog 84 #[.pointer (some ⟨p, 0, none⟩)] w fun e w' => e = .returned (.tuple #[.int .i64 u, .int .i64 v]) ∧ Bd w' lo p q1 c1 q2 c2 b t us ∧ Mb w p q1 q2 w' q1 q2 := by
  have H1 : Bd w lo p q1 c1 q2 c2 b t ((us ++ [u]) ++ [v]) := by rw [List.append_assoc]; exact H
  clear H
  go_enter Try.func84, Try.ntmps84
  go_wp2_with fail
  refine (use b t (us ++ [u]) v q1 c1 q2 c2 lo p _ H1 (by simp; omega)).mono ?_
  rintro e u1 ⟨rfl, B1, M1⟩
  have HB1 := hide B1
  have HM1 := hide M1
  clear B1 M1 H1
  go_wp2_with fail
  refine (use b t us u q1 c1 q2 c2 lo p _ HB1.out (by omega)).mono ?_
  rintro e u2 ⟨rfl, B2, M2⟩
  have HB2 := hide B2
  have HM2 := hide (HM1.out.trans M2)
  clear B2 M2
  go_wp2
  exact bodyPost_ret (v := .tuple #[.int .i64 u, .int .i64 v]) (by simp [results, Try.results84, go_sem]) rfl ⟨rfl, HB2.out, HM2.out⟩
set_option maxRecDepth 8000 in
set_option maxHeartbeats 8000000 in
theorem endB (b : Bk) (t : Int) (un : List Int) (e9 x9 y9 k9 : Int) (q1 : Option Addr) (c1 : Nat) (q2 : Option Addr) (c2 lo p : Nat) (w : World) (H : Bd w lo p q1 c1 q2 c2 b t un) :
    Calls Try.prog 69 #[.pointer (some ⟨p, 0, none⟩), .int .i64 e9, .int .i64 x9, .int .i64 y9, .int .i64 k9] w fun e w' => Bo w lo p q1 q2 e w' ⟨b.pc, b.ln, b.ops, e9, x9, y9, k9⟩ t un := by
  obtain ⟨pc, ln, ops, en, x, y, k⟩ := b
  obtain ⟨RB0, O10, O20, n1, n2, n3, lp⟩ := H
  simp only [bc] at RB0 O10 O20 ⊢
  have z3 := RB0.cell 3 _ rfl
  have s3 := RB0.soft 3
  have z4 := RB0.cell 4 _ rfl
  have s4 := RB0.soft 4
  have z5 := RB0.cell 5 _ rfl
  have s5 := RB0.soft 5
  have z6 := RB0.cell 6 _ rfl
  have s6 := RB0.soft 6
  have t1 : Turn p w ((((w.setCell ⟨p, 3, none⟩ (.int .i64 e9)).setCell ⟨p, 4, none⟩ (.int .i64 x9)).setCell ⟨p, 5, none⟩ (.int .i64 y9)).setCell ⟨p, 6, none⟩ (.int .i64 k9)) := (((((Turn.refl p w).setCell (p := ⟨p, 3, none⟩) rfl (.int .i64 e9)).setCell (p := ⟨p, 4, none⟩) rfl (.int .i64 x9)).setCell (p := ⟨p, 5, none⟩) rfl (.int .i64 y9)).setCell (p := ⟨p, 6, none⟩) rfl (.int .i64 k9))
  have RF := ((((RB0.set 3 (.int .i64 e9) (by simp) (show _ = ([.int .i64 pc, .int .i64 ln, .slice q1 ops.length c1, .int .i64 e9, .int .i64 x, .int .i64 y, .int .i64 k, .int .i64 t, .slice q2 un.length c2] : List Value) from rfl)).set 4 (.int .i64 x9) (by simp) (show _ = ([.int .i64 pc, .int .i64 ln, .slice q1 ops.length c1, .int .i64 e9, .int .i64 x9, .int .i64 y, .int .i64 k, .int .i64 t, .slice q2 un.length c2] : List Value) from rfl)).set 5 (.int .i64 y9) (by simp) (show _ = ([.int .i64 pc, .int .i64 ln, .slice q1 ops.length c1, .int .i64 e9, .int .i64 x9, .int .i64 y9, .int .i64 k, .int .i64 t, .slice q2 un.length c2] : List Value) from rfl)).set 6 (.int .i64 k9) (by simp) (show _ = ([.int .i64 pc, .int .i64 ln, .slice q1 ops.length c1, .int .i64 e9, .int .i64 x9, .int .i64 y9, .int .i64 k9, .int .i64 t, .slice q2 un.length c2] : List Value) from rfl))
  have BF : Hid (Bd ((((w.setCell ⟨p, 3, none⟩ (.int .i64 e9)).setCell ⟨p, 4, none⟩ (.int .i64 x9)).setCell ⟨p, 5, none⟩ (.int .i64 y9)).setCell ⟨p, 6, none⟩ (.int .i64 k9)) lo p q1 c1 q2 c2 ⟨pc, ln, ops, e9, x9, y9, k9⟩ t un) := ⟨RF, O10.apart t1 (fun G e h => n1 (by rw [e, h])), O20.apart t1 (fun G e h => n2 (by rw [e, h])), n1, n2, n3, lp⟩
  have MF : Hid (Mb w p q1 q2 ((((w.setCell ⟨p, 3, none⟩ (.int .i64 e9)).setCell ⟨p, 4, none⟩ (.int .i64 x9)).setCell ⟨p, 5, none⟩ (.int .i64 y9)).setCell ⟨p, 6, none⟩ (.int .i64 k9)) q1 q2) := (Mb.of_below _ _ _ (Below.refl _ _)).turn t1
  clear RB0 O10 O20 n1 n2 n3 t1 RF
  go_enter Try.func69, Try.ntmps69
  go_wp2
  go_ret
  exact ⟨rfl, _, _, _, _, BF.out, MF.out⟩
set_option maxRecDepth 8000 in
theorem instruction (b : Bk) (t : Int) (un : List Int) (t9 : Int) (q1 : Option Addr) (c1 : Nat) (q2 : Option Addr) (c2 lo p : Nat) (w : World) (H : Bd w lo p q1 c1 q2 c2 b t un) :
    Calls Try.prog 48 #[.pointer (some ⟨p, 0, none⟩), .int .i64 t9] w fun e w' => Bo w lo p q1 q2 e w' b t9 un := by
  obtain ⟨pc, ln, ops, en, x, y, k⟩ := b
  obtain ⟨RB0, O10, O20, n1, n2, n3, lp⟩ := H
  simp only [bc] at RB0 O10 O20 ⊢
  have z7 := RB0.cell 7 _ rfl
  have s7 := RB0.soft 7
  have t1 : Turn p w (w.setCell ⟨p, 7, none⟩ (.int .i64 t9)) := (Turn.refl _ w).setCell (p := ⟨p, 7, none⟩) rfl _
  have RF := RB0.set 7 (.int .i64 t9) (by simp) rfl
  have BF : Hid (Bd (w.setCell ⟨p, 7, none⟩ (.int .i64 t9)) lo p q1 c1 q2 c2 ⟨pc, ln, ops, en, x, y, k⟩ t9 un) := ⟨RF, O10.apart t1 (fun G e h => n1 (by rw [e, h])), O20.apart t1 (fun G e h => n2 (by rw [e, h])), n1, n2, n3, lp⟩
  have MF : Hid (Mb w p q1 q2 (w.setCell ⟨p, 7, none⟩ (.int .i64 t9)) q1 q2) := (Mb.of_below _ _ _ (Below.refl _ _)).turn t1
  clear RB0 O10 O20 n1 n2 n3 t1 RF
  go_enter Try.func48, Try.ntmps48
  go_wp2
  go_ret
  exact ⟨rfl, _, _, _, _, BF.out, MF.out⟩
end Go.Proofs.Ytfjlnocikldhjaa.Lw
