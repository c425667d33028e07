/-
  Parts that are put together by the texts of their atoms: what they come to, and that a sum in order which has the same words is the only one.
-/
import Derived.Test.YtckhfpaicnjknaaGreatPolBB
import Derived.Test.YtckhfpaicnjknaaGreatPolMz
namespace Go.Proofs.YtckhfpaicnjknaaGreat.Pol
/-- What the parts with a text come to, one put behind the other. -/
def totF (x : List UInt8) : Int → List Mono → Int
  | s, [] => s
  | s, m :: r => totF x (if txt m.2 = x then (s + m.1) % 65536 else s) r
def totE (es : List Mono) (x : List UInt8) : Int := totF x 0 es
theorem totF_app (x : List UInt8) : ∀ (es fs : List Mono) (s : Int), totF x s (es ++ fs) = totF x (totF x s es) fs
  | [], _, _ => rfl
  | m :: r, fs, s => by rw [List.cons_append, totF, totF, totF_app x r fs]
theorem tot_snoc (es : List Mono) (m : Mono) (x : List UInt8) : totE (es ++ [m]) x = if txt m.2 = x then (totE es x + m.1) % 65536 else totE es x := by
  unfold totE
  rw [totF_app]
  rfl
theorem totF_bd (x : List UInt8) : ∀ (es : List Mono) (s : Int), 0 ≤ s ∧ s < 65536 → 0 ≤ totF x s es ∧ totF x s es < 65536
  | [], _, h => h
  | m :: r, s, h => by
    rw [totF]
    apply totF_bd
    split <;> omega
theorem tot_bd (es : List Mono) (x : List UInt8) : 0 ≤ totE es x ∧ totE es x < 65536 := totF_bd x es 0 (by omega)
theorem totF_none (x : List UInt8) : ∀ (es : List Mono) (s : Int), (∀ m ∈ es, txt m.2 ≠ x) → totF x s es = s
  | [], _, _ => rfl
  | m :: r, s, h => by
    rw [totF, if_neg (h m (List.mem_cons_self ..)), totF_none x r s (fun y hy => h y (List.mem_cons_of_mem _ hy))]
theorem tot_some {es : List Mono} {x : List UInt8} (h : totE es x ≠ 0) : ∃ m ∈ es, txt m.2 = x := by
  rcases Classical.em (∃ m ∈ es, txt m.2 = x) with h1 | h1
  · exact h1
  · exact absurd (totF_none x es 0 (fun m hm e => h1 ⟨m, hm, e⟩)) h
/-- The word of the part with a text. -/
def coefL : List Mono → List UInt8 → Int
  | [], _ => 0
  | m :: r, x => if txt m.2 = x then m.1 else coefL r x
theorem coef_none : ∀ {L : List Mono} {x : List UInt8}, (∀ m ∈ L, txt m.2 ≠ x) → coefL L x = 0
  | [], _, _ => rfl
  | m :: r, x, h => by rw [coefL, if_neg (h m (List.mem_cons_self ..)), coef_none (fun y hy => h y (List.mem_cons_of_mem _ hy))]
theorem coef_some : ∀ {L : List Mono} {x : List UInt8}, coefL L x ≠ 0 → ∃ m ∈ L, txt m.2 = x
  | [], _, h => absurd rfl h
  | m :: r, x, h => by
    rw [coefL] at h
    by_cases e : txt m.2 = x
    · exact ⟨m, List.mem_cons_self .., e⟩
    · rw [if_neg e] at h
      obtain ⟨y, hy, e2⟩ := coef_some h
      exact ⟨y, List.mem_cons_of_mem _ hy, e2⟩
/-- In order, no text twice. -/
abbrev Up (L : List Mono) : Prop := L.Pairwise fun p q => txt p.2 < txt q.2
theorem coef_mem : ∀ {L : List Mono}, Up L → ∀ m ∈ L, coefL L (txt m.2) = m.1
  | [], _, m, h => by cases h
  | y :: r, hu, m, h => by
    rw [coefL]
    rcases List.mem_cons.1 h with rfl | h
    · rw [if_pos rfl]
    · have h2 := List.rel_of_pairwise_cons hu h
      rw [if_neg (fun e => by rw [e] at h2; exact List.lt_irrefl _ h2)]
      exact coef_mem hu.of_cons m h
theorem tot_up : ∀ {L : List Mono}, Up L → (∀ m ∈ L, 0 ≤ m.1 ∧ m.1 < 65536) → ∀ x, totE L x = coefL L x
  | [], _, _, _ => rfl
  | m :: r, hu, hw, x => by
    unfold totE
    rw [totF, coefL]
    by_cases e : txt m.2 = x
    · have hb := hw m (List.mem_cons_self ..)
      rw [if_pos e, if_pos e, totF_none]
      · omega
      · intro y hy e2
        have h2 := List.rel_of_pairwise_cons hu hy
        rw [e, e2] at h2
        exact List.lt_irrefl _ h2
    · rw [if_neg e, if_neg e]
      exact tot_up hu.of_cons (fun y hy => hw y (List.mem_cons_of_mem _ hy)) x
/-- A sum in order that has what so many parts come to. -/
structure Told (es L : List Mono) : Prop where
  up : Up L
  fine : ∀ m ∈ L, Fine m.2 ∧ 0 < m.1 ∧ m.1 < 65536
  eq : ∀ x, coefL L x = totE es x
theorem told_nil : Told [] [] := ⟨List.Pairwise.nil, fun _ h => (nomatch h), fun _ => rfl⟩
theorem told_self {L : List Mono} (hu : Up L) (hf : ∀ m ∈ L, Fine m.2 ∧ 0 < m.1 ∧ m.1 < 65536) : Told L L := ⟨hu, hf, fun x => (tot_up hu (fun m hm => ⟨by have := (hf m hm).2.1; omega, (hf m hm).2.2⟩) x).symm⟩
theorem Told.zero {es L : List Mono} (h : Told es L) (av : List Int) : Told (es ++ [(0, av)]) L := ⟨h.up, h.fine, fun x => by
  rw [tot_snoc, h.eq]
  have := tot_bd es x
  split
  · simp only []; omega
  · rfl⟩
theorem plus_all {m : Mono} (hm : Fine m.2) : ∀ {L : List Mono}, (∀ x ∈ L, Fine x.2 ∧ txt m.2 < txt x.2) → plusL m true L = L
  | [], _ => rfl
  | x :: r, h => by
    have h1 := h x (List.mem_cons_self ..)
    rw [plusL, if_pos ((ordT_lt hm h1.1).2 h1.2), if_pos rfl, plus_all hm (fun y hy => h y (List.mem_cons_of_mem _ hy))]
theorem plus_first {m : Mono} (hm : Fine m.2) : ∀ {L : List Mono}, (∀ x ∈ L, Fine x.2 ∧ txt m.2 < txt x.2) → plusL m false L = m :: L
  | [], _ => rfl
  | x :: r, h => by
    have h1 := h x (List.mem_cons_self ..)
    rw [plusL, if_pos ((ordT_lt hm h1.1).2 h1.2), if_neg (by decide), plus_all hm (fun y hy => h y (List.mem_cons_of_mem _ hy))]
theorem plus_mem {m : Mono} (hm : Fine m.2 ∧ 0 < m.1 ∧ m.1 < 65536) : ∀ {L : List Mono}, Up L → (∀ x ∈ L, Fine x.2 ∧ 0 < x.1 ∧ x.1 < 65536) →
    (∀ x ∈ plusL m false L, Fine x.2 ∧ 0 < x.1 ∧ x.1 < 65536) ∧ Up (plusL m false L) ∧ (∀ x ∈ plusL m false L, x.2 = m.2 ∨ ∃ y ∈ L, x.2 = y.2) ∧ ∀ x, coefL (plusL m false L) x = if txt m.2 = x then (coefL L x + m.1) % 65536 else coefL L x
  | [], _, _ => by
    refine ⟨fun x hx => ?_, List.pairwise_singleton _ _, fun x hx => ?_, fun x => ?_⟩
    · rw [List.mem_singleton.1 hx]; exact hm
    · rw [List.mem_singleton.1 hx]; exact Or.inl rfl
    · show (if txt m.2 = x then m.1 else 0) = if txt m.2 = x then (0 + m.1) % 65536 else 0
      split <;> omega
  | y :: r, hu, hf => by
    have hy := hf y (List.mem_cons_self ..)
    have hr : ∀ x ∈ r, Fine x.2 ∧ 0 < x.1 ∧ x.1 < 65536 := fun x hx => hf x (List.mem_cons_of_mem _ hx)
    have hyr : ∀ x ∈ r, txt y.2 < txt x.2 := fun x hx => List.rel_of_pairwise_cons hu hx
    by_cases h1 : ordA m.2 y.2 < 0
    · have h2 := (ordT_lt hm.1 hy.1).1 h1
      have hall : ∀ x ∈ y :: r, Fine x.2 ∧ txt m.2 < txt x.2 := fun x hx => by
        rcases List.mem_cons.1 hx with rfl | hx
        · exact ⟨hy.1, h2⟩
        · exact ⟨(hr x hx).1, List.lt_trans h2 (hyr x hx)⟩
      rw [plus_first hm.1 hall]
      refine ⟨fun x hx => ?_, List.pairwise_cons.2 ⟨fun x hx => (hall x hx).2, hu⟩, fun x hx => ?_, fun x => ?_⟩
      · rcases List.mem_cons.1 hx with rfl | hx
        · exact hm
        · exact hf x hx
      · rcases List.mem_cons.1 hx with rfl | hx
        · exact Or.inl rfl
        · exact Or.inr ⟨x, hx, rfl⟩
      · rw [coefL]
        by_cases e : txt m.2 = x
        · rw [if_pos e, if_pos e, coef_none (fun z hz e2 => by have := (hall z hz).2; rw [e, e2] at this; exact List.lt_irrefl _ this)]
          omega
        · rw [if_neg e, if_neg e]
    · by_cases h0 : ordA m.2 y.2 = 0
      · have e0 := ordT_eq h0
        have hall : ∀ x ∈ r, Fine x.2 ∧ txt m.2 < txt x.2 := fun x hx => ⟨(hr x hx).1, by rw [e0]; exact hyr x hx⟩
        have hno : ∀ z ∈ r, txt z.2 ≠ txt y.2 := fun z hz e2 => by have := hyr z hz; rw [e2] at this; exact List.lt_irrefl _ this
        rw [plusL, if_neg h1, if_pos h0, plus_all hm.1 hall]
        by_cases hc : 0 < (y.1 + m.1) % 65536
        · rw [if_pos hc]
          refine ⟨fun x hx => ?_, List.pairwise_cons.2 ⟨fun x hx => hyr x hx, hu.of_cons⟩, fun x hx => ?_, fun x => ?_⟩
          · rcases List.mem_cons.1 hx with rfl | hx
            · exact ⟨hy.1, hc, by simp only []; omega⟩
            · exact hr x hx
          · rcases List.mem_cons.1 hx with rfl | hx
            · exact Or.inl e0.symm
            · exact Or.inr ⟨x, List.mem_cons_of_mem _ hx, rfl⟩
          · rw [coefL, coefL, e0]
            by_cases e : txt y.2 = x
            · rw [if_pos e, if_pos e, if_pos e]
            · rw [if_neg e, if_neg e, if_neg e]
        · rw [if_neg hc]
          refine ⟨hr, hu.of_cons, fun x hx => Or.inr ⟨x, List.mem_cons_of_mem _ hx, rfl⟩, fun x => ?_⟩
          rw [coefL, e0]
          by_cases e : txt y.2 = x
          · rw [if_pos e, if_pos e, coef_none (fun z hz e2 => hno z hz (e2.trans e.symm))]
            omega
          · rw [if_neg e, if_neg e]
      · have h2 := ordT_gt hm.1 hy.1 (by omega)
        obtain ⟨i1, i2, i3, i4⟩ := plus_mem hm (L := r) hu.of_cons hr
        rw [plusL, if_neg h1, if_neg h0]
        refine ⟨fun x hx => ?_, List.pairwise_cons.2 ⟨fun x hx => ?_, i2⟩, fun x hx => ?_, fun x => ?_⟩
        · rcases List.mem_cons.1 hx with rfl | hx
          · exact hy
          · exact i1 x hx
        · rcases i3 x hx with e | ⟨z, hz, e⟩
          · rw [e]; exact h2
          · rw [e]; exact hyr z hz
        · rcases List.mem_cons.1 hx with rfl | hx
          · exact Or.inr ⟨x, List.mem_cons_self .., rfl⟩
          · rcases i3 x hx with e | ⟨z, hz, e⟩
            · exact Or.inl e
            · exact Or.inr ⟨z, List.mem_cons_of_mem _ hz, e⟩
        · rw [coefL, coefL, i4]
          by_cases e : txt y.2 = x
          · have : ¬ txt m.2 = x := fun e2 => by rw [e, e2] at h2; exact List.lt_irrefl _ h2
            rw [if_pos e, if_pos e, if_neg this]
          · rw [if_neg e, if_neg e]
theorem Told.plus {es L : List Mono} (h : Told es L) {m : Mono} (hm : Fine m.2 ∧ 0 < m.1 ∧ m.1 < 65536) : Told (es ++ [m]) (plusL m false L) := by
  obtain ⟨i1, i2, _, i4⟩ := plus_mem hm h.up h.fine
  exact ⟨i2, i1, fun x => by rw [i4, tot_snoc, h.eq]⟩
/-- The texts in order of parts that do not come to 0 are the sum's own. -/
theorem Told.keys {es L : List Mono} (h : Told es L) {ks : List (List UInt8)} (hk : ks.Pairwise (· < ·)) (hm : ∀ x, (∃ m ∈ es, txt m.2 = x) → x ∈ ks) : ks.filter (fun x => decide (totE es x ≠ 0)) = L.map fun m => txt m.2 := by
  have irr : ∀ a : List UInt8, ¬ a < a := fun a => List.lt_irrefl a
  have n1 : (ks.filter (fun x => decide (totE es x ≠ 0))).Pairwise (· < ·) := hk.sublist List.filter_sublist
  have n2 : (L.map fun m => txt m.2).Pairwise (· < ·) := List.pairwise_map.2 h.up
  have nd : ∀ {l : List (List UInt8)}, l.Pairwise (· < ·) → l.Nodup := fun h => List.Pairwise.imp (fun {a b} (h : a < b) (e : a = b) => irr b (by rw [e] at h; exact h)) h
  refine List.Perm.eq_of_pairwise (le := fun a b => a < b) (fun a b _ _ h1 h2 => absurd (List.lt_trans h1 h2) (irr _)) n1 n2 ((List.perm_ext_iff_of_nodup (nd n1) (nd n2)).2 fun x => ?_)
  rw [List.mem_filter, List.mem_map]
  constructor
  · rintro ⟨_, hx⟩
    have hx2 : totE es x ≠ 0 := by simpa using hx
    rw [← h.eq] at hx2
    obtain ⟨m, hm2, e⟩ := coef_some hx2
    exact ⟨m, hm2, e⟩
  · rintro ⟨m, hm2, rfl⟩
    have h1 : totE es (txt m.2) ≠ 0 := by
      rw [← h.eq, coef_mem h.up m hm2]
      have := (h.fine m hm2).2.1
      omega
    exact ⟨hm _ (tot_some h1), by simpa using h1⟩
end Go.Proofs.YtckhfpaicnjknaaGreat.Pol
