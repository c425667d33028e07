/-
  What is kept: a ring of rows that share what they hold.
-/
import Derived.Test.YthlpndligadnjaaSlA
namespace Go.Proofs.Ythlpndligadnjaa.Dt
set_option linter.unusedVariables false
open Go.ChangeShapes Go.WideShapes Go.ChangeAt Go.RowKit IntS Pol Push
/-- A row that could be read in a world, all of whose blocks are of a set; none of them has turned since. -/
def seen {β : Type} (R : Rw β) : Rs β where
  n := R.n
  at_ := fun w A cs x => ∃ w0, R.rd w0 cs x ∧ (∀ b, b < w0.heap.size → A b) ∧ Below w0.heap.size w0 w
  ln := fun ⟨_, h, _⟩ => R.ln h
  ok := fun ⟨w0, h, hA, hb⟩ hk hS => ⟨w0, h, hA, ⟨hk.os.trans hb.os, hk.tape.trans hb.tape, hk.output.trans hb.output, Nat.le_trans hb.size hk.size, fun k hl => (hk.block k (Nat.lt_of_lt_of_le hl hb.size) (hS k (hA k hl))).trans (hb.block k hl)⟩⟩
  ov := fun ⟨w0, h, hA, hb⟩ h1 => ⟨w0, h, fun b hl => h1 b (hA b hl), hb⟩
theorem seen_rd {β : Type} {R : Rw β} {w : World} {A : Nat → Prop} {cs : List Value} {x : β} (h : (seen R).at_ w A cs x) : R.rd w cs x := by
  obtain ⟨w0, h1, _, h2⟩ := h
  exact R.rb h1 h2
theorem seen_mk {β : Type} {R : Rw β} {w0 w : World} {A : Nat → Prop} {cs : List Value} {x : β} (h : R.rd w0 cs x) (hA : ∀ b, b < w0.heap.size → A b) (hb : Below w0.heap.size w0 w) : (seen R).at_ w A cs x := ⟨w0, h, hA, hb⟩
/-- A block that holds rows, no more of them come. -/
structure Full {β : Type} (R : Rs β) (w : World) (lo : Nat) (A : Nat → Prop) (G : Nat) (xs : List β) : Prop where
  lo_ : lo ≤ G
  lt : G < w.heap.size
  rows : ∀ (i : Nat) x, xs[i]? = some x → ∃ ds, CellsAt w G (i * R.n) ds ∧ R.at_ w A ds x
  soft : ∀ i, w.frozen? ⟨G, i, none⟩ = false
  self : ¬ A G
section
variable {β : Type} {R : Rs β} {T : TypeId} {w w' : World} {lo cap : Nat} {A : Nat → Prop} {G : Nat} {q : Option Addr} {cs : List Value} {xs : List β}
theorem SL.full (H : SL R T w lo A (some ⟨G, 0, none⟩) cap cs xs) : Full R w lo A G xs := by
  obtain ⟨h1, h2⟩ := H.q_lt rfl
  obtain ⟨h3, h4⟩ := H.cells rfl
  refine ⟨h1, h2, fun i x hx => ?_, h4, H.self G rfl⟩
  obtain ⟨ds, k1, k2⟩ := H.rows i x hx
  exact ⟨ds, fun j v hv => h3 _ _ (k1 j v hv), k2⟩
theorem Full.keep (H : Full R w lo A G xs) {S : Nat → Prop} (hk : Keep S w w') (hS : ∀ b, A b → ¬ S b) (hG : ¬ S G) : Full R w' lo A G xs := by
  have e := hk.block G H.lt hG
  refine ⟨H.lo_, Nat.lt_of_lt_of_le H.lt hk.size, fun i x hx => ?_, fun i => (World.frozen?_of_block (w := w) (a := ⟨G, i, none⟩) e).trans (H.soft i), H.self⟩
  obtain ⟨ds, k1, k2⟩ := H.rows i x hx
  exact ⟨ds, k1.same e, R.ok k2 hk hS⟩
theorem Full.set (H : Full R w lo A G xs) {k : Nat} {x : β} {ds : List Value} (hk : k < xs.length) (hx : R.at_ w A ds x) : Full R (setN w G (k * R.n) ds) lo A G (xs.set k x) := by
  have tn := setN_turn ds w G (k * R.n)
  have kp := Keep.of_turn tn
  have nS : ∀ b, A b → ¬ (fun b => b = G) b := fun b hb (e : b = G) => H.self (e ▸ hb)
  obtain ⟨y, hy⟩ : ∃ y, xs[k]? = some y := ⟨_, List.getElem?_eq_getElem hk⟩
  obtain ⟨es, k1, k2⟩ := H.rows k y hy
  have hl := R.ln k2
  have hd := R.ln hx
  have N := setN_cells ds w G (k * R.n) (fun i hi => ⟨_, k1 i _ (List.getElem?_eq_getElem (by omega))⟩)
  refine ⟨H.lo_, Nat.lt_of_lt_of_le H.lt tn.size, fun i z hz => ?_, fun i => (setN_soft ds w G (k * R.n) _).trans (H.soft i), H.self⟩
  by_cases e : k = i
  · subst e
    rw [List.getElem?_set_self hk] at hz
    obtain rfl := Option.some.inj hz
    exact ⟨ds, N, R.ok hx kp nS⟩
  · rw [List.getElem?_set_ne e] at hz
    obtain ⟨fs, q1, q2⟩ := H.rows i z hz
    have hf := R.ln q2
    refine ⟨fs, fun j v hv => ?_, R.ok q2 kp nS⟩
    have hj := (List.getElem?_eq_some_iff.1 hv).1
    rw [setN_far ds w G (k * R.n) _ (fun d hd2 => off_ne ?_)]
    · exact q1 j v hv
    · rcases Nat.lt_or_gt_of_ne e with e2 | e2
      · have := row_le (n := 0) (m := R.n) e2; omega
      · have := row_le (n := 0) (m := R.n) e2; omega
end
def lastN {α : Type} (r : Nat) (l : List α) : List α := l.drop (l.length - r)
theorem lastN_of_le {α : Type} {r : Nat} {l : List α} (h : l.length ≤ r) : lastN r l = l := by unfold lastN; rw [show l.length - r = 0 by omega]; rfl
theorem lastN_len {α : Type} {r : Nat} {l : List α} : (lastN r l).length ≤ r := by unfold lastN; rw [List.length_drop]; omega
theorem lastN_snoc {α : Type} {r : Nat} {l : List α} {x : α} (h : l.length = r) (hr : 0 < r) : lastN r (l ++ [x]) = l.drop 1 ++ [x] := by
  unfold lastN
  rw [List.length_append, List.length_singleton, show l.length + 1 - r = 1 by omega, List.drop_append_of_le_length (by omega)]
theorem lastN_more {α : Type} (r : Nat) (l : List α) (x : α) : lastN r (lastN r l ++ [x]) = lastN r (l ++ [x]) := by
  unfold lastN
  rw [List.length_append, List.length_drop, List.length_append, List.length_singleton]
  by_cases h : l.length ≤ r
  · rw [show l.length - r = 0 by omega, List.drop_zero, Nat.sub_zero]
  · rw [show l.length - (l.length - r) + 1 - r = 1 by omega, show l.length + 1 - r = (l.length - r) + 1 by omega]
    by_cases hr : r = 0
    · subst hr
      simp
    · rw [List.drop_append_of_le_length (by rw [List.length_drop]; omega), List.drop_append_of_le_length (by omega), List.drop_drop]
/-- What a ring holds, in the order in which it was put. -/
def logic {α : Type} (ks : List α) (f : Nat) : List α := ks.drop f ++ ks.take f
theorem logic_len {α : Type} {ks : List α} {f : Nat} : (logic ks f).length = ks.length := by unfold logic; rw [List.length_append, List.length_drop, List.length_take]; omega
theorem logic_zero {α : Type} (ks : List α) : logic ks 0 = ks := by unfold logic; simp
theorem logic_at {α : Type} {ks : List α} {f j : Nat} (hf : f < ks.length) (hj : j < ks.length) : (logic ks f)[j]? = ks[(f + j) % ks.length]? := by
  unfold logic
  by_cases h : f + j < ks.length
  · rw [List.getElem?_append_left (by rw [List.length_drop]; omega), List.getElem?_drop, Nat.mod_eq_of_lt h]
  · rw [List.getElem?_append_right (by rw [List.length_drop]; omega), List.length_drop, List.getElem?_take, if_pos (by omega), Nat.mod_eq_sub_mod (by omega), Nat.mod_eq_of_lt (by omega)]
    congr 1
    omega
theorem logic_put {α : Type} {ks : List α} {f : Nat} {x : α} (hf : f < ks.length) : logic (ks.set f x) ((f + 1) % ks.length) = (logic ks f).drop 1 ++ [x] := by
  apply List.ext_getElem?
  intro j
  have l1 : (logic ks f).length = ks.length := logic_len
  have hm : (f + 1) % ks.length < ks.length := Nat.mod_lt _ (by omega)
  by_cases hj : j < ks.length
  · have e1 := logic_at (ks := ks.set f x) (f := (f + 1) % ks.length) (j := j) (by rw [List.length_set]; exact hm) (by rw [List.length_set]; exact hj)
    rw [List.length_set] at e1
    rw [e1]
    have hx : ((f + 1) % ks.length + j) % ks.length = (f + (j + 1)) % ks.length := by
      rw [Nat.mod_add_mod]
      congr 1
      omega
    rw [hx]
    by_cases hl : j + 1 = ks.length
    · rw [hl, Nat.add_mod_right, Nat.mod_eq_of_lt hf, List.getElem?_set_self hf, List.getElem?_append_right (by rw [List.length_drop, l1]; omega), List.length_drop, l1, show j - (ks.length - 1) = 0 by omega]
      rfl
    · rw [List.getElem?_append_left (by rw [List.length_drop, l1]; omega), List.getElem?_drop, Nat.add_comm 1 j, logic_at hf (by omega)]
      have hne : f ≠ (f + (j + 1)) % ks.length := by
        by_cases h2 : f + (j + 1) < ks.length
        · rw [Nat.mod_eq_of_lt h2]; omega
        · rw [Nat.mod_eq_sub_mod (by omega), Nat.mod_eq_of_lt (by omega)]; omega
      rw [List.getElem?_set_ne hne]
  · rw [List.getElem?_eq_none (by rw [logic_len, List.length_set]; omega), List.getElem?_eq_none (by rw [List.length_append, List.length_drop, l1, List.length_singleton]; omega)]
/-- A ring behind its pointer. -/
structure Ring {β : Type} (R : Rs β) (T : TypeId) (w : World) (lo : Nat) (A : Nat → Prop) (Z room f : Nat) (q : Option Addr) (cap : Nat) (ks : List β) : Prop where
  box : Rec Z [.int .i64 room, .slice q ks.length cap, .int .i64 f] w
  lo_ : lo ≤ Z
  le : ks.length ≤ cap
  mx : cap ≤ maxLen
  at_ : (ks.length < room ∧ f = 0 ∧ ∃ cs, SL R T w lo A q cap cs ks) ∨ (ks.length = room ∧ f < room ∧ ∃ G, q = some ⟨G, 0, none⟩ ∧ Full R w lo A G ks)
  apart : ∀ G, q = some ⟨G, 0, none⟩ → G ≠ Z
  nz : ¬ A Z
section
variable {β : Type} {R : Rs β} {T : TypeId} {w w' : World} {lo cap : Nat} {A : Nat → Prop} {Z room f : Nat} {q : Option Addr} {ks : List β}
theorem Ring.keep (H : Ring R T w lo A Z room f q cap ks) {S : Nat → Prop} (hk : Keep S w w') (hS : ∀ b, A b → ¬ S b) (hl : ∀ b, S b → b < lo ∨ w.heap.size ≤ b) : Ring R T w' lo A Z room f q cap ks := by
  have hz : ¬ S Z := fun h => by have := H.box.lt; have := H.lo_; have := hl _ h; omega
  refine ⟨H.box.keep hk hz, H.lo_, H.le, H.mx, ?_, H.apart, H.nz⟩
  rcases H.at_ with ⟨h1, h2, cs, h3⟩ | ⟨h1, h2, G, e, h3⟩
  · exact Or.inl ⟨h1, h2, cs, h3.keep hk hS (fun G e h => by have := h3.q_lt e; have := hl _ h; omega)⟩
  · exact Or.inr ⟨h1, h2, G, e, h3.keep hk hS (fun h => by have := h3.lo_; have := h3.lt; have := hl _ h; omega)⟩
theorem Ring.below (H : Ring R T w lo A Z room f q cap ks) (hb : Below w.heap.size w w') : Ring R T w' lo A Z room f q cap ks := H.keep (Keep.of_below (S := fun _ => False) hb) (fun _ _ h => h) (fun _ h => h.elim)
/-- What stands at a place of the ring. -/
theorem Ring.at (H : Ring R T w lo A Z room f q cap ks) (hr : 0 < room) {j : Nat} {x : β} (hx : (logic ks f)[j]? = some x) : ∃ G ds, q = some ⟨G, 0, none⟩ ∧ (f + j) % room < ks.length ∧ CellsAt w G ((f + j) % room * R.n) ds ∧ R.at_ w A ds x := by
  have hj := (List.getElem?_eq_some_iff.1 hx).1
  rw [logic_len] at hj
  rcases H.at_ with ⟨h1, h2, cs, h3⟩ | ⟨h1, h2, G, e, h3⟩
  · subst h2
    rw [logic_zero] at hx
    have em : (0 + j) % room = j := by rw [Nat.zero_add]; exact Nat.mod_eq_of_lt (by omega)
    rw [em]
    rcases h3.q_form with ⟨_, _, e⟩ | ⟨G, e⟩
    · rw [e] at hx; simp at hx
    · subst e
      obtain ⟨ds, k1, k2⟩ := h3.full.rows j x hx
      exact ⟨G, ds, rfl, hj, k1, k2⟩
  · rw [logic_at (by omega) hj, h1] at hx
    obtain ⟨ds, k1, k2⟩ := h3.rows _ x hx
    exact ⟨G, ds, e, (List.getElem?_eq_some_iff.1 hx).1, k1, k2⟩
end
end Go.Proofs.Ythlpndligadnjaa.Dt
