/-
  A list that a call makes by appends: what it is, how one more is put behind, and what it is when it is whole.
-/
import Derived.Test.YthlpndligadnjaaDt
import Derived.Test.YthlpndligadnjaaPush
namespace Go.Proofs.Ythlpndligadnjaa.Dt
set_option linter.unusedVariables false
open Go.ChangeShapes Go.WideShapes Go.ChangeAt Go.RowKit IntS Pol Push
/-- A list in a slice that the call made from block lo on; all its blocks are of the set A, those behind element i of the set E i. -/
structure OL {β : Type} (R : Rw β) (T : TypeId) (w : World) (lo : Nat) (A : Nat → Prop) (q : Option Addr) (cap : Nat) (cs : List Value) (E : Nat → Nat → Prop) (xs : List β) : Prop where
  own : w.ownsRow lo T R.n (.slice q xs.length cap) xs.length cs
  rows : ∀ (i : Nat) x, xs[i]? = some x → ∃ ds, (∀ (j : Nat) v, ds[j]? = some v → cs[i * R.n + j]? = some v) ∧ R.ow w (E i) ds x ∧ (∀ b, E i b → A b)
  apart : ∀ i j : Nat, i < j → j < xs.length → ∀ b, E i b → E j b → False
  self : ∀ G, q = some ⟨G, 0, none⟩ → A G ∧ ∀ i, i < xs.length → ¬ E i G
section
variable {β : Type} {R : Rw β} {T : TypeId} {w w' : World} {lo cap : Nat} {A : Nat → Prop} {q : Option Addr} {cs : List Value} {E : Nat → Nat → Prop} {xs : List β}
theorem OL.q_form (H : OL R T w lo A q cap cs E xs) : (q = none ∧ cap = 0 ∧ xs = []) ∨ ∃ G, q = some ⟨G, 0, none⟩ := by
  obtain ⟨_, h0 | ⟨g, cap', cur, hv, _⟩⟩ := H.own
  · injection h0.1 with e1 e2 e3
    exact Or.inl ⟨e1, e3, List.length_eq_zero_iff.1 e2⟩
  · injection hv with e1
    exact Or.inr ⟨g, e1⟩
theorem OL.q_lt (H : OL R T w lo A q cap cs E xs) {G : Nat} (e : q = some ⟨G, 0, none⟩) : lo ≤ G ∧ G < w.heap.size := by
  subst e
  have := owns_lt H.own
  exact ⟨this.1, this.2.1⟩
theorem OL.nil (R : Rw β) (T : TypeId) (w : World) (lo : Nat) (A : Nat → Prop) : OL R T w lo A none 0 [] (fun _ _ => False) [] :=
  ⟨⟨by simp, Or.inl ⟨rfl, rfl⟩⟩, fun i x h => by simp at h, fun i j _ h => by simp at h, fun G e => by cases e⟩
theorem OL.empty (R : Rw β) (T : TypeId) (w : World) {lo : Nat} (hl : lo ≤ w.heap.size) {A : Nat → Prop} (hA : A w.heap.size) : OL R T (w.alloc (.cells #[] T)) lo A (some ⟨w.heap.size, 0, none⟩) 0 [] (fun _ _ => False) [] := by
  refine ⟨⟨by simp, Or.inr ⟨w.heap.size, 0, #[], rfl, hl, (MapKept.heap_alloc w _).1, Nat.le_refl _, by unfold maxLen; omega, by simp, by simp⟩⟩, fun i x h => by simp at h, fun i j _ h => by simp at h, fun G e => ?_⟩
  injection e with e1
  injection e1 with e2
  subst e2
  exact ⟨hA, fun i hi => by simp at hi⟩
theorem OL.keep (H : OL R T w lo A q cap cs E xs) {S : Nat → Prop} (hk : Keep S w w') (hS : ∀ b, A b → ¬ S b) : OL R T w' lo A q cap cs E xs := by
  refine ⟨?_, fun i x hx => ?_, H.apart, H.self⟩
  · obtain ⟨h1, h0 | ⟨g, cap', cur, hv, hb, hh, rest⟩⟩ := H.own
    · exact ⟨h1, Or.inl h0⟩
    · have e : q = some ⟨g, 0, none⟩ := by injection hv
      have hg : g < w.heap.size := (H.q_lt e).2
      exact ⟨h1, Or.inr ⟨g, cap', cur, hv, hb, (hk.block g hg (hS g (H.self g e).1)).trans hh, rest⟩⟩
  · obtain ⟨ds, k1, k2, k3⟩ := H.rows i x hx
    exact ⟨ds, k1, R.ok k2 hk (fun b hb => hS b (k3 b hb)), k3⟩
theorem OL.wide (H : OL R T w lo A q cap cs E xs) {A' : Nat → Prop} (h : ∀ b, A b → A' b) : OL R T w lo A' q cap cs E xs :=
  ⟨H.own, fun i x hx => let ⟨ds, k1, k2, k3⟩ := H.rows i x hx; ⟨ds, k1, k2, fun b hb => h b (k3 b hb)⟩, H.apart, fun G e => ⟨h G (H.self G e).1, (H.self G e).2⟩⟩
theorem OL.mono (H : OL R T w lo A q cap cs E xs) {lo' : Nat} (h : lo' ≤ lo) : OL R T w lo' A q cap cs E xs := ⟨owns_mono H.own h, H.rows, H.apart, H.self⟩
theorem OL.cells (H : OL R T w lo A q cap cs E xs) {G : Nat} (e : q = some ⟨G, 0, none⟩) : (∀ (i : Nat) s, cs[i]? = some s → w.cell? ⟨G, i, none⟩ = some s) ∧ ∀ i, w.frozen? ⟨G, i, none⟩ = false := by
  subst e
  obtain ⟨hl, h0 | ⟨g', cap', cur, hv, hb, hh, hle, hm, hc, ht⟩⟩ := H.own
  · exact absurd h0.1 (by simp)
  · cases hv
    refine ⟨fun j u hu => ?_, fun i => ?_⟩
    · have hj : j < cs.length := (List.getElem?_eq_some_iff.1 hu).1
      rw [← ht, List.getElem?_take, if_pos (by omega)] at hu
      unfold World.cell?
      simp only [hh]
      simpa using hu
    · unfold World.frozen?
      simp [hh]
/-- One more behind. -/
theorem OL.next (H : OL R T w lo A q cap cs E xs) (hA : ∀ b, A b → b < w.heap.size) {x : β} {ds : List Value} {Ax : Nat → Prop} (hx : R.ow w Ax ds x) (hAx : ∀ b, Ax b → b < w.heap.size) (hd : ∀ b, Ax b → A b → False) {G' cap' : Nat} (ho : w'.ownsRow lo T R.n (.slice (some ⟨G', 0, none⟩) (xs.length + 1) cap') (xs.length + 1) (cs ++ ds)) (hg : (Value.slice q xs.length cap).ownBlock = some G' ∨ w.heap.size ≤ G') (gr : w.grownBy w' (Value.slice q xs.length cap).ownBlock)
    {A' : Nat → Prop} (h1 : ∀ b, A b → A' b) (h2 : ∀ b, Ax b → A' b) (h3 : A' G') : OL R T w' lo A' (some ⟨G', 0, none⟩) cap' (cs ++ ds) (fun i => if i < xs.length then E i else Ax) (xs ++ [x]) := by
  have kp : ∃ B, Turn B w w' ∧ ((B = w.heap.size) ∨ q = some ⟨B, 0, none⟩) := by
    rcases H.q_form with ⟨rfl, rfl, rfl⟩ | ⟨G, rfl⟩
    · exact ⟨w.heap.size, ⟨gr.os, gr.tape, gr.output, gr.size, fun k hk _ => gr.block k hk (by simp [Value.ownBlock])⟩, Or.inl rfl⟩
    · exact ⟨G, Turn.of_grown gr, Or.inr rfl⟩
  obtain ⟨B, ht, hB⟩ := kp
  have gq : q = some ⟨G', 0, none⟩ ∨ w.heap.size ≤ G' := by
    rcases hg with hg | hg
    · rcases H.q_form with ⟨rfl, _, _⟩ | ⟨G, rfl⟩
      · simp [Value.ownBlock] at hg
      · simp [Value.ownBlock] at hg
        subst hg
        exact Or.inl rfl
    · exact Or.inr hg
  have hlen : cs.length = xs.length * R.n := H.own.1
  refine ⟨by rw [List.length_append]; exact ho, fun i z hz => ?_, fun i j hij hj b => ?_, fun G e => ?_⟩
  · by_cases e : i < xs.length
    · rw [List.getElem?_append_left e] at hz
      simp only [if_pos e]
      obtain ⟨es, k1, k2, k3⟩ := H.rows i z hz
      refine ⟨es, fun j v hv => ?_, R.ot k2 ht (fun hb => ?_), fun b hb => h1 b (k3 b hb)⟩
      · have := k1 j v hv
        rw [List.getElem?_append_left (List.getElem?_eq_some_iff.1 this).1]
        exact this
      · rcases hB with rfl | hB
        · exact Nat.lt_irrefl _ (hA _ (k3 _ hb))
        · exact (H.self B hB).2 i e hb
    · have ei : i = xs.length := by
        have := (List.getElem?_eq_some_iff.1 hz).1
        simp at this
        omega
      subst ei
      rw [List.getElem?_append_right (Nat.le_refl _), Nat.sub_self] at hz
      obtain rfl := Option.some.inj (show some x = some z from hz)
      simp only [if_neg e]
      refine ⟨ds, fun j v hv => ?_, R.ot hx ht (fun hb => ?_), h2⟩
      · rw [List.getElem?_append_right (by omega), hlen, Nat.add_sub_cancel_left]
        exact hv
      · rcases hB with rfl | hB
        · exact Nat.lt_irrefl _ (hAx _ hb)
        · exact hd B hb (H.self B hB).1
  · simp only [List.length_append, List.length_singleton] at hj
    have hi : i < xs.length := by omega
    simp only [if_pos hi]
    by_cases e : j < xs.length
    · simp only [if_pos e]
      exact H.apart i j hij e b
    · simp only [if_neg e]
      intro b1 b2
      obtain ⟨y, hy⟩ : ∃ y, xs[i]? = some y := ⟨_, List.getElem?_eq_getElem hi⟩
      obtain ⟨_, _, _, k3⟩ := H.rows i y hy
      exact hd b b2 (k3 b b1)
  · obtain rfl : G' = G := by injection e with e1; injection e1
    refine ⟨h3, fun i hi => ?_⟩
    by_cases e : i < xs.length
    · simp only [if_pos e]
      intro hb
      rcases gq with gq | gq
      · exact (H.self _ gq).2 i e hb
      · obtain ⟨y, hy⟩ : ∃ y, xs[i]? = some y := ⟨_, List.getElem?_eq_getElem e⟩
        obtain ⟨_, _, _, k3⟩ := H.rows i y hy
        have := hA _ (k3 _ hb)
        omega
    · simp only [if_neg e]
      intro hb
      rcases gq with gq | gq
      · exact hd _ hb (H.self _ gq).1
      · have := hAx _ hb
        omega
theorem OL.whole (H : OL R T w lo A q cap cs E xs) : LOw R w A (.slice q xs.length cap) xs := by
  rcases H.q_form with ⟨rfl, rfl, rfl⟩ | ⟨G, rfl⟩
  · exact LOw.nil R w A
  · obtain ⟨b1, b2, b3, b4⟩ := owns_lt H.own
    obtain ⟨hc, hs⟩ := H.cells rfl
    refine ⟨some ⟨G, 0, none⟩, G, 0, cap, E, rfl, b3, b4, (fun e => by cases e), Or.inr ⟨rfl, (H.self G rfl).1, b2⟩, fun i x hx => ?_, H.apart⟩
    obtain ⟨ds, k1, k2, k3⟩ := H.rows i x hx
    exact ⟨ds, fun j v hv => by rw [Nat.zero_add]; exact hc _ _ (k1 j v hv), fun j _ _ => hs _, k2, k3, (H.self G rfl).2 i (List.getElem?_eq_some_iff.1 hx).1⟩
/-- Below, of an append. -/
theorem grown_low {n : Nat} (hq : q = none ∨ ∃ G, q = some ⟨G, 0, none⟩ ∧ lo ≤ G) (hs : lo ≤ w.heap.size) (gr : w.grownBy w' (Value.slice q n cap).ownBlock) : Below lo w w' := by
  rcases hq with rfl | ⟨G, rfl, hl⟩
  · exact ⟨gr.os, gr.tape, gr.output, gr.size, fun k hk => gr.block k (by omega) (by simp [Value.ownBlock])⟩
  · exact (Turn.of_grown gr).below hl hs
end
/-- A list in a slice that the call made, in blocks from block lo on. -/
def OF {β : Type} (R : Rw β) (T : TypeId) (w : World) (lo : Nat) (q : Option Addr) (cap : Nat) (xs : List β) : Prop := ∃ cs E, OL R T w lo (fun b => lo ≤ b ∧ b < w.heap.size) q cap cs E xs
section
variable {β : Type} {R : Rw β} {T : TypeId} {w w' : World} {lo cap : Nat} {q : Option Addr} {xs : List β}
theorem OF.nil (R : Rw β) (T : TypeId) (w : World) (lo : Nat) : OF R T w lo none 0 [] := ⟨_, _, OL.nil R T w lo _⟩
theorem OF.empty (R : Rw β) (T : TypeId) (w : World) {lo : Nat} (hl : lo ≤ w.heap.size) : OF R T (w.alloc (.cells #[] T)) lo (some ⟨w.heap.size, 0, none⟩) 0 [] := ⟨_, _, OL.empty R T w hl ⟨hl, by simp⟩⟩
theorem OF.keep (h : OF R T w lo q cap xs) {S : Nat → Prop} (hk : Keep S w w') (hS : ∀ b, lo ≤ b → b < w.heap.size → ¬ S b) : OF R T w' lo q cap xs := by
  obtain ⟨cs, E, H⟩ := h
  exact ⟨cs, E, (H.keep hk (fun b hb => hS b hb.1 hb.2)).wide (fun b hb => ⟨hb.1, Nat.lt_of_lt_of_le hb.2 hk.size⟩)⟩
theorem OF.below (h : OF R T w lo q cap xs) (hb : Below w.heap.size w w') : OF R T w' lo q cap xs := h.keep (Keep.of_below (S := fun _ => False) hb) (fun _ _ _ h => h)
theorem OF.turn (h : OF R T w lo q cap xs) {B : Nat} (ht : Turn B w w') (hB : B < lo ∨ w.heap.size ≤ B) : OF R T w' lo q cap xs := h.keep (Keep.of_turn ht) (fun b h1 h2 (h3 : b = B) => by omega)
theorem OF.form (h : OF R T w lo q cap xs) : q = none ∨ ∃ G, q = some ⟨G, 0, none⟩ ∧ lo ≤ G := by
  obtain ⟨cs, E, H⟩ := h
  exact H.q_form.imp (fun e => e.1) (fun ⟨G, e⟩ => ⟨G, e, (H.q_lt e).1⟩)
theorem OF.whole (h : OF R T w lo q cap xs) : LOw R w (fun b => lo ≤ b ∧ b < w.heap.size) (.slice q xs.length cap) xs := by
  obtain ⟨cs, E, H⟩ := h
  exact H.whole
theorem OF.mono (h : OF R T w lo q cap xs) {lo' : Nat} (hl : lo' ≤ lo) : OF R T w lo' q cap xs := by
  obtain ⟨cs, E, H⟩ := h
  exact ⟨cs, E, (H.mono hl).wide (fun b hb => ⟨Nat.le_trans hl hb.1, hb.2⟩)⟩
/-- One more, made since then, put behind: where the slice lies now, and that nothing below lo turned. -/
theorem OF.push {P : Program} {u : World} (h : OF R T u lo q cap xs) (hb : Below u.heap.size u w) {x : β} {ds : List Value} (hx : R.ow w (New u w) ds x) (t ty : TypeId) {i : TypeInfo} {z : Value} {bytes : Nat} (ht : P.underlying t = some (.slice T)) (hi : P.info? T = some i) (hz : i.zero = some z) (hsize : i.size = R.n) (hby : i.bytes = bytes) (hzs : z.cells.size = R.n) (hn : 0 < R.n) (hbm : bytes ≤ 1000)
    (ad : Addr) (hc : ∀ (j : Nat) v, ds[j]? = some v → w.cell? (ad.add j) = some v) (h1 : ∀ v ∈ ds, v.oneCell' = true) (hl : xs.length ≤ 1000000000) (hlo : lo ≤ u.heap.size) :
    ∃ g' cap' w', (Builtin.append_ #[t, t] ty #[.slice q xs.length cap, .slice (some ad) 1 1]).run P w = .ok (.slice (some ⟨g', 0, none⟩) (xs.length + 1) cap') w' ∧ OF R T w' lo (some ⟨g', 0, none⟩) cap' (xs ++ [x]) ∧ Below lo w w' ∧ (q = some ⟨g', 0, none⟩ ∨ w.heap.size ≤ g') ∧ Keep (fun b => q = some ⟨b, 0, none⟩) w w' := by
  obtain ⟨cs, E, H⟩ := h
  have H2 := H.keep (Keep.of_below (S := fun _ => False) hb) (fun _ _ h => h)
  have hs := hb.size
  obtain ⟨g', cap', w', hr, ho, hg, hgl, gr⟩ := run_push (P := P) (w := w) lo t ty T i z R.n bytes ht hi hz hsize hby hzs hn _ xs.length cs H2.own ad ds (R.ln (R.od hx)) hc h1 (by unfold maxLen; omega) (by
    have := Nat.mul_le_mul_left (xs.length + 1) hbm
    omega) (by omega)
  have hgs := gr.size
  have g1 := (owns_lt ho).1
  have BL := grown_low (n := xs.length) (H2.q_form.imp (fun e => e.1) (fun ⟨G, e⟩ => ⟨G, e, (H2.q_lt e).1⟩)) (by omega) gr
  refine ⟨g', cap', w', hr, ⟨cs ++ ds, _, H2.next (A' := fun b => lo ≤ b ∧ b < w'.heap.size) (fun b hb => by have := hb.2; omega) hx (fun b hb => hb.2) (fun b h1 h2 => by have := h1.1; have := h2.2; omega) ho hg gr (fun b hb => ⟨hb.1, by have := hb.2; omega⟩) (fun b hb => ⟨by have := hb.1; omega, by have := hb.2; omega⟩) ⟨g1, hgl⟩⟩, BL, ?_, ?_⟩
  · rcases hg with hg | hg
    · rcases H2.q_form with ⟨rfl, _, _⟩ | ⟨G, rfl⟩
      · simp [Value.ownBlock] at hg
      · simp [Value.ownBlock] at hg
        subst hg
        exact Or.inl rfl
    · exact Or.inr hg
  · rcases H2.q_form with ⟨rfl, _, _⟩ | ⟨G, rfl⟩
    · exact ⟨gr.os, gr.tape, gr.output, gr.size, fun k hk _ => gr.block k hk (by simp [Value.ownBlock])⟩
    · have tg := Turn.of_grown gr
      exact ⟨tg.os, tg.tape, tg.output, tg.size, fun k hk hn => tg.block k hk (fun e => hn (by rw [e]))⟩
end
end Go.Proofs.Ythlpndligadnjaa.Dt
