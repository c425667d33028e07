/-
  Lists that share what they hold: rows whose data lie in blocks of a set, others may hold them too; in a slice that the call made.
-/
import Derived.Test.YthlpndligadnjaaDtO
namespace Go.Proofs.Ythlpndligadnjaa.Dt
set_option linter.unusedVariables false
open Go.ChangeShapes Go.WideShapes Go.ChangeAt Go.RowKit IntS Pol Push
/-- A row of cells that holds something, all of it in blocks of a set. -/
structure Rs (β : Type) where
  n : Nat
  at_ : World → (Nat → Prop) → List Value → β → Prop
  ln : ∀ {w : World} {A : Nat → Prop} {cs : List Value} {x : β}, at_ w A cs x → cs.length = n
  ok : ∀ {S A : Nat → Prop} {w w' : World} {cs : List Value} {x : β}, at_ w A cs x → Keep S w w' → (∀ b, A b → ¬ S b) → at_ w' A cs x
  ov : ∀ {w : World} {A A' : Nat → Prop} {cs : List Value} {x : β}, at_ w A cs x → (∀ b, A b → A' b) → at_ w A' cs x
def ofRw {β : Type} (R : Rw β) : Rs β := { n := R.n, at_ := R.ow, ln := fun h => R.ln (R.od h), ok := R.ok, ov := R.ov }
/-- A list in a slice that the call made; what it holds lies in blocks of the set A, the slice's own is none of them. -/
structure SL {β : Type} (R : Rs β) (T : TypeId) (w : World) (lo : Nat) (A : Nat → Prop) (q : Option Addr) (cap : Nat) (cs : List Value) (xs : List β) : Prop where
  own : w.ownsRow lo T R.n (.slice q xs.length cap) xs.length cs
  rows : ∀ (i : Nat) x, xs[i]? = some x → ∃ ds, (∀ (j : Nat) v, ds[j]? = some v → cs[i * R.n + j]? = some v) ∧ R.at_ w A ds x
  self : ∀ G, q = some ⟨G, 0, none⟩ → ¬ A G
section
variable {β : Type} {R : Rs β} {T : TypeId} {w w' : World} {lo cap : Nat} {A : Nat → Prop} {q : Option Addr} {cs : List Value} {xs : List β}
theorem SL.q_form (H : SL R T w lo A q cap cs xs) : (q = none ∧ cap = 0 ∧ xs = []) ∨ ∃ G, q = some ⟨G, 0, none⟩ := by
  obtain ⟨_, h0 | ⟨g, cap', cur, hv, _⟩⟩ := H.own
  · injection h0.1 with e1 e2 e3
    exact Or.inl ⟨e1, e3, List.length_eq_zero_iff.1 e2⟩
  · injection hv with e1
    exact Or.inr ⟨g, e1⟩
theorem SL.q_lt (H : SL R T w lo A q cap cs xs) {G : Nat} (e : q = some ⟨G, 0, none⟩) : lo ≤ G ∧ G < w.heap.size := by
  subst e
  have := owns_lt H.own
  exact ⟨this.1, this.2.1⟩
theorem SL.nil (R : Rs β) (T : TypeId) (w : World) (lo : Nat) (A : Nat → Prop) : SL R T w lo A none 0 [] [] :=
  ⟨⟨by simp, Or.inl ⟨rfl, rfl⟩⟩, fun i x h => by simp at h, fun G e => by cases e⟩
theorem SL.empty (R : Rs β) (T : TypeId) (w : World) {lo : Nat} (hl : lo ≤ w.heap.size) {A : Nat → Prop} (hA : ¬ A w.heap.size) : SL R T (w.alloc (.cells #[] T)) lo A (some ⟨w.heap.size, 0, none⟩) 0 [] [] := by
  refine ⟨⟨by simp, Or.inr ⟨w.heap.size, 0, #[], rfl, hl, (MapKept.heap_alloc w _).1, Nat.le_refl _, by unfold maxLen; omega, by simp, by simp⟩⟩, fun i x h => by simp at h, fun G e => ?_⟩
  injection e with e1
  injection e1 with e2
  subst e2
  exact hA
theorem SL.keep (H : SL R T w lo A q cap cs xs) {S : Nat → Prop} (hk : Keep S w w') (hS : ∀ b, A b → ¬ S b) (hq : ∀ G, q = some ⟨G, 0, none⟩ → ¬ S G) : SL R T w' lo A q cap cs xs := by
  refine ⟨?_, fun i x hx => ?_, H.self⟩
  · obtain ⟨h1, h0 | ⟨g, cap', cur, hv, hb, hh, rest⟩⟩ := H.own
    · exact ⟨h1, Or.inl h0⟩
    · have e : q = some ⟨g, 0, none⟩ := by injection hv
      have hg : g < w.heap.size := (H.q_lt e).2
      exact ⟨h1, Or.inr ⟨g, cap', cur, hv, hb, (hk.block g hg (hq g e)).trans hh, rest⟩⟩
  · obtain ⟨ds, k1, k2⟩ := H.rows i x hx
    exact ⟨ds, k1, R.ok k2 hk hS⟩
theorem SL.below (H : SL R T w lo A q cap cs xs) (hb : Below w.heap.size w w') : SL R T w' lo A q cap cs xs := H.keep (Keep.of_below (S := fun _ => False) hb) (fun _ _ h => h) (fun _ _ h => h)
theorem SL.wide (H : SL R T w lo A q cap cs xs) {A' : Nat → Prop} (h : ∀ b, A b → A' b) (hq : ∀ G, q = some ⟨G, 0, none⟩ → ¬ A' G) : SL R T w lo A' q cap cs xs :=
  ⟨H.own, fun i x hx => let ⟨ds, k1, k2⟩ := H.rows i x hx; ⟨ds, k1, R.ov k2 h⟩, hq⟩
theorem SL.cells (H : SL R T w lo A q cap cs xs) {G : Nat} (e : q = some ⟨G, 0, none⟩) : (∀ (i : Nat) s, cs[i]? = some s → w.cell? ⟨G, i, none⟩ = some s) ∧ ∀ i, w.frozen? ⟨G, i, none⟩ = false := by
  subst e
  obtain ⟨hl, h0 | ⟨g', cap', cur, hv, hb, hh, hle, hm, hc, ht⟩⟩ := H.own
  · exact absurd h0.1 (by simp)
  · cases hv
    refine ⟨fun j u hu => ?_, fun i => ?_⟩
    · have hj : j < cs.length := (List.getElem?_eq_some_iff.1 hu).1
      rw [← ht, List.getElem?_take, if_pos (by omega)] at hu
      unfold World.cell?
      simp only [hh]
      simpa using hu
    · unfold World.frozen?
      simp [hh]
theorem SL.caps (H : SL R T w lo A q cap cs xs) : xs.length ≤ cap ∧ cap ≤ maxLen ∧ (q = none → cap = 0) := by
  rcases H.q_form with ⟨rfl, rfl, rfl⟩ | ⟨G, rfl⟩
  · exact ⟨Nat.le_refl _, by unfold maxLen; omega, fun _ => rfl⟩
  · have := owns_lt H.own
    exact ⟨this.2.2.1, this.2.2.2, fun e => by cases e⟩
/-- One more behind, made since then or shared. -/
theorem SL.push {P : Program} (H : SL R T w lo A q cap cs xs) {A' : Nat → Prop} (hA : ∀ b, A b → A' b) (hA' : ∀ b, A' b → b < w.heap.size) (hq : ∀ G, q = some ⟨G, 0, none⟩ → ¬ A' G) {x : β} {ds : List Value} (hx : R.at_ w A' ds x) (t ty : TypeId) {i : TypeInfo} {z : Value} {bytes : Nat} (ht : P.underlying t = some (.slice T)) (hi : P.info? T = some i) (hz : i.zero = some z) (hsize : i.size = R.n) (hby : i.bytes = bytes) (hzs : z.cells.size = R.n) (hn : 0 < R.n) (hbm : bytes ≤ 1000)
    (ad : Addr) (hc : ∀ (j : Nat) v, ds[j]? = some v → w.cell? (ad.add j) = some v) (h1 : ∀ v ∈ ds, v.oneCell' = true) (hl : xs.length ≤ 1000000000) (hlo : lo ≤ w.heap.size) :
    ∃ g' cap' w', (Builtin.append_ #[t, t] ty #[.slice q xs.length cap, .slice (some ad) 1 1]).run P w = .ok (.slice (some ⟨g', 0, none⟩) (xs.length + 1) cap') w' ∧ SL R T w' lo A' (some ⟨g', 0, none⟩) cap' (cs ++ ds) (xs ++ [x]) ∧ (q = some ⟨g', 0, none⟩ ∨ w.heap.size ≤ g') ∧ g' < w'.heap.size ∧ lo ≤ g' ∧ Keep (fun b => q = some ⟨b, 0, none⟩) w w' := by
  obtain ⟨g', cap', w', hr, ho, hg, hgl, gr⟩ := run_push (P := P) (w := w) lo t ty T i z R.n bytes ht hi hz hsize hby hzs hn _ xs.length cs H.own ad ds (R.ln hx) hc h1 (by unfold maxLen; omega) (by
    have := Nat.mul_le_mul_left (xs.length + 1) hbm
    omega) hlo
  have kp : Keep (fun b => q = some ⟨b, 0, none⟩) w w' := by
    rcases H.q_form with ⟨rfl, _, _⟩ | ⟨G, rfl⟩
    · exact ⟨gr.os, gr.tape, gr.output, gr.size, fun k hk _ => gr.block k hk (by simp [Value.ownBlock])⟩
    · have tg := Turn.of_grown gr
      exact ⟨tg.os, tg.tape, tg.output, tg.size, fun k hk hn => tg.block k hk (fun e => hn (by rw [e]))⟩
  have gq : q = some ⟨g', 0, none⟩ ∨ w.heap.size ≤ g' := by
    rcases hg with hg | hg
    · rcases H.q_form with ⟨rfl, _, _⟩ | ⟨G, rfl⟩
      · simp [Value.ownBlock] at hg
      · simp [Value.ownBlock] at hg
        subst hg
        exact Or.inl rfl
    · exact Or.inr hg
  have hlen : cs.length = xs.length * R.n := H.own.1
  have nS : ∀ b, A' b → ¬ (fun b => q = some ⟨b, 0, none⟩) b := fun b hb e => hq b e hb
  refine ⟨g', cap', w', hr, ⟨by rw [List.length_append]; exact ho, fun k y hy => ?_, fun G e => ?_⟩, gq, hgl, (owns_lt ho).1, kp⟩
  · by_cases e : k < xs.length
    · rw [List.getElem?_append_left e] at hy
      obtain ⟨es, k1, k2⟩ := H.rows k y hy
      refine ⟨es, fun j v hv => ?_, R.ok (R.ov k2 hA) kp nS⟩
      have := k1 j v hv
      rw [List.getElem?_append_left (List.getElem?_eq_some_iff.1 this).1]
      exact this
    · have ei : k = xs.length := by
        have := (List.getElem?_eq_some_iff.1 hy).1
        simp at this
        omega
      subst ei
      rw [List.getElem?_append_right (Nat.le_refl _), Nat.sub_self] at hy
      obtain rfl := Option.some.inj (show some x = some y from hy)
      refine ⟨ds, fun j v hv => ?_, R.ok hx kp nS⟩
      rw [List.getElem?_append_right (by omega), hlen, Nat.add_sub_cancel_left]
      exact hv
  · obtain rfl : g' = G := by injection e with e1; injection e1
    intro hb
    rcases gq with gq | gq
    · exact hq _ gq hb
    · have := hA' _ hb
      omega
end
end Go.Proofs.Ythlpndligadnjaa.Dt
