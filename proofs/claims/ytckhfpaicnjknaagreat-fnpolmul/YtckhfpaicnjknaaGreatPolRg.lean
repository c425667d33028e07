/-
  The arithmetic of sums: they are a ring, what they come to, what fits, how they stand.
-/
import Derived.Test.YtckhfpaicnjknaaGreatPolMm
import Derived.Test.YtckhfpaicnjknaaGreatPolQ
namespace Go.Proofs.YtckhfpaicnjknaaGreat.Pol
set_option linter.unusedVariables false
/-- The same word. -/
def Eq6 (a b : Int) : Prop := ∃ k : Int, a = b + 65536 * k
theorem Eq6.refl (a : Int) : Eq6 a a := ⟨0, by omega⟩
theorem Eq6.of_eq {a b : Int} (h : a = b) : Eq6 a b := ⟨0, by omega⟩
theorem Eq6.symm {a b : Int} (h : Eq6 a b) : Eq6 b a := by
  obtain ⟨k, h⟩ := h
  exact ⟨-k, by omega⟩
theorem Eq6.trans {a b c : Int} (h : Eq6 a b) (h' : Eq6 b c) : Eq6 a c := by
  obtain ⟨k, h⟩ := h
  obtain ⟨l, h'⟩ := h'
  exact ⟨k + l, by omega⟩
theorem Eq6.add {a b c d : Int} (h : Eq6 a b) (h' : Eq6 c d) : Eq6 (a + c) (b + d) := by
  obtain ⟨k, h⟩ := h
  obtain ⟨l, h'⟩ := h'
  exact ⟨k + l, by omega⟩
theorem Eq6.mulr {a b : Int} (h : Eq6 a b) (t : Int) : Eq6 (a * t) (b * t) := by
  obtain ⟨k, h⟩ := h
  exact ⟨k * t, by rw [h, Int.add_mul, Int.mul_assoc]⟩
theorem Eq6.mull {a b : Int} (h : Eq6 a b) (t : Int) : Eq6 (t * a) (t * b) := by
  rw [Int.mul_comm t a, Int.mul_comm t b]
  exact h.mulr t
theorem Eq6.mod (a : Int) : Eq6 (a % 65536) a := ⟨-(a / 65536), by omega⟩
theorem Eq6.to {a b : Int} (h : Eq6 a b) : a % 65536 = b % 65536 := by
  obtain ⟨k, h⟩ := h
  omega
theorem Eq6.of {a b : Int} (h : a % 65536 = b % 65536) : Eq6 a b := ⟨a / 65536 - b / 65536, by omega⟩
/-- What the words of the parts with a text come to, not wrapped. -/
def sumE (x : List UInt8) : List Mono → Int
  | [] => 0
  | m :: r => (if txt m.2 = x then m.1 else 0) + sumE x r
theorem sumE_app (x : List UInt8) : ∀ es fs : List Mono, sumE x (es ++ fs) = sumE x es + sumE x fs
  | [], fs => by rw [List.nil_append, sumE]; omega
  | m :: r, fs => by rw [List.cons_append, sumE, sumE, sumE_app x r fs]; omega
theorem totF_sum (x : List UInt8) : ∀ (es : List Mono) (s : Int), 0 ≤ s ∧ s < 65536 → totF x s es = (s + sumE x es) % 65536
  | [], s, h => by rw [totF, sumE]; omega
  | m :: r, s, h => by
    rw [totF, sumE]
    by_cases e : txt m.2 = x
    · rw [if_pos e, if_pos e, totF_sum x r _ (by omega)]
      omega
    · rw [if_neg e, if_neg e, totF_sum x r _ h]
      omega
theorem tot_sum (es : List Mono) (x : List UInt8) : totE es x = sumE x es % 65536 := by
  unfold totE
  rw [totF_sum x es 0 (by omega)]
  omega
theorem irrT (a : List UInt8) : ¬ a < a := List.lt_irrefl a
theorem up_head {m : Mono} {r : List Mono} (hu : Up (m :: r)) : coefL r (txt m.2) = 0 := coef_none (fun y hy e => by have := List.rel_of_pairwise_cons hu hy; rw [e] at this; exact irrT _ this)
theorem up_less {m y : Mono} {r : List Mono} (hu : Up (y :: r)) (h : txt m.2 < txt y.2) : coefL (y :: r) (txt m.2) = 0 := coef_none (fun z hz e => by
  rcases List.mem_cons.1 hz with rfl | hz
  · rw [e] at h; exact irrT _ h
  · have h2 := List.lt_trans h (List.rel_of_pairwise_cons hu hz)
    rw [e] at h2
    exact irrT _ h2)
theorem tri (a b : List UInt8) : a < b ∨ a = b ∨ b < a := by
  rcases Classical.em (a < b) with h | h
  · exact Or.inl h
  · rcases Classical.em (b < a) with h' | h'
    · exact Or.inr (Or.inr h')
    · exact Or.inr (Or.inl (List.le_antisymm (List.not_lt.1 h') (List.not_lt.1 h)))
/-- Sums in order that have the same words are the same. -/
theorem up_one : ∀ {L L' : List Mono}, Up L → Up L' → (∀ m ∈ L, Fine m.2 ∧ 0 < m.1) → (∀ m ∈ L', Fine m.2 ∧ 0 < m.1) → (∀ x, coefL L x = coefL L' x) → L = L'
  | [], [], _, _, _, _, _ => rfl
  | [], y :: s, _, _, _, f', h => by
    have := h (txt y.2)
    rw [coefL, coefL, if_pos rfl] at this
    have := (f' y (List.mem_cons_self ..)).2
    omega
  | x :: r, [], _, _, f, _, h => by
    have := h (txt x.2)
    rw [coefL, coefL, if_pos rfl] at this
    have := (f x (List.mem_cons_self ..)).2
    omega
  | x :: r, y :: s, u, u', f, f', h => by
    have hx := f x (List.mem_cons_self ..)
    have hy := f' y (List.mem_cons_self ..)
    rcases tri (txt x.2) (txt y.2) with e | e | e
    · have h1 := h (txt x.2)
      rw [up_less u' e, coefL, if_pos rfl] at h1
      omega
    · have e2 := txt_inj hx.1 hy.1 e
      have h1 := h (txt x.2)
      rw [coefL, if_pos rfl, coefL, if_pos e.symm] at h1
      have e3 : x = y := Prod.ext h1 e2
      subst e3
      rw [up_one u.of_cons u'.of_cons (fun m hm => f m (List.mem_cons_of_mem _ hm)) (fun m hm => f' m (List.mem_cons_of_mem _ hm)) (fun z => ?_)]
      by_cases ez : txt x.2 = z
      · subst ez
        rw [up_head u, up_head u']
      · have h2 := h z
        rw [coefL, if_neg ez, coefL, if_neg ez] at h2
        exact h2
    · have h1 := h (txt y.2)
      rw [up_less u e, coefL, if_pos rfl] at h1
      omega
theorem told_one {es es' L L' : List Mono} (h : Told es L) (h' : Told es' L') (he : ∀ x, Eq6 (sumE x es) (sumE x es')) : L = L' :=
  up_one h.up h'.up (fun m hm => ⟨(h.fine m hm).1, (h.fine m hm).2.1⟩) (fun m hm => ⟨(h'.fine m hm).1, (h'.fine m hm).2.1⟩) (fun x => by rw [h.eq, h'.eq, tot_sum, tot_sum]; exact (he x).to)
theorem told_sum {es L : List Mono} (h : Told es L) (x : List UInt8) : Eq6 (sumE x L) (sumE x es) := Eq6.of (by
  rw [← tot_sum, ← tot_sum, tot_up h.up (fun m hm => ⟨by have := (h.fine m hm).2.1; omega, (h.fine m hm).2.2⟩), h.eq])
/-- Atoms that may stand in a part, but for how many they are. -/
structure Nice (av : List Int) : Prop where
  ris : av.Pairwise (· ≤ ·)
  at_ : ∀ a ∈ av, 0 ≤ a ∧ a < 200
  len : av.length < 256
theorem Nice.fine {av : List Int} (h : Nice av) : Fine av := ⟨fun a ha => by have := h.at_ a ha; omega, h.len⟩
theorem Good.nice {ps : List Mono} (g : Good ps) : ∀ m ∈ ps, Nice m.2 := fun m hm => ⟨g.ris m hm, g.at_ m hm, by have := g.four m hm; omega⟩
theorem told_from {es L : List Mono} (h : Told es L) (hn : ∀ m ∈ es, Nice m.2) : ∀ m ∈ L, ∃ y ∈ es, y.2 = m.2 := fun m hm => by
  have h1 := coef_mem h.up m hm
  have h2 := h.eq (txt m.2)
  have h3 := (h.fine m hm).2.1
  obtain ⟨y, hy, e⟩ := tot_some (es := es) (x := txt m.2) (by omega)
  exact ⟨y, hy, txt_inj (hn y hy).fine (h.fine m hm).1 e⟩
theorem fit_inv {ps : List Mono} (h : fitB ps = true) : ps.length ≤ 12 ∧ ∀ x ∈ ps, x.2.length ≤ 4 := by
  unfold fitB at h
  simp only [Bool.and_eq_true, decide_eq_true_eq, List.all_eq_true] at h
  exact h
theorem fit_put {ps : List Mono} (h1 : ps.length ≤ 12) (h2 : ∀ x ∈ ps, x.2.length ≤ 4) : fitB ps = true ∧ fitP ps = ps := fit_yes h1 (fun i x _ hx => h2 x (List.mem_of_getElem? hx))
theorem told_good {es L : List Mono} (h : Told es L) (hn : ∀ m ∈ es, Nice m.2) (hf : fitB L = true) : Good L := by
  obtain ⟨f1, f2⟩ := fit_inv hf
  refine ⟨h.up, h.fine, fun m hm => ?_, fun m hm => ?_, f2, f1⟩
  · obtain ⟨y, hy, e⟩ := told_from h hn m hm
    rw [← e]; exact (hn y hy).ris
  · obtain ⟨y, hy, e⟩ := told_from h hn m hm
    rw [← e]; exact (hn y hy).at_
theorem Good.ok {ps : List Mono} (g : Good ps) : okP ps = true := by
  unfold okP
  rw [Bool.and_eq_true]
  refine ⟨decide_eq_true g.many, all_yes fun k hk => ?_⟩
  unfold partAt
  have hm : ps[k] ∈ ps := List.getElem_mem hk
  rw [getD_in _ _ hk, Bool.and_eq_true]
  constructor
  · unfold monoB
    have h1 := (g.fine _ hm).2
    have h2 := g.four _ hm
    have h3 := g.at_ _ hm
    have h4 := g.ris _ hm
    rw [Bool.and_eq_true, Bool.and_eq_true]
    refine ⟨⟨decide_eq_true (by omega), decide_eq_true h2⟩, all_yes fun j hj => ?_⟩
    rw [Bool.and_eq_true]
    constructor
    · unfold atomAt
      rw [getD_in _ _ hj]
      exact decide_eq_true (h3 _ (List.getElem_mem hj))
    · unfold upAt
      refine decide_eq_true ?_
      by_cases e : j = 0
      · exact Or.inl e
      · right
        rw [getD_in _ _ hj, getD_in _ _ (by omega)]
        exact List.pairwise_iff_getElem.1 h4 (j - 1) j (by omega) hj (by omega)
  · refine decide_eq_true ?_
    by_cases e : k = 0
    · exact Or.inl e
    · right
      rw [getD_in _ _ (by omega)]
      have hm' : ps[k - 1] ∈ ps := List.getElem_mem (by omega)
      exact (ordT_lt (g.fine _ hm').1 (g.fine _ hm).1).2 (List.pairwise_iff_getElem.1 g.up (k - 1) k (by omega) hk (by omega))
theorem good_iff {ps : List Mono} : okP ps = true ↔ Good ps := ⟨ok_good, Good.ok⟩
/-- Both together. -/
theorem told_both {ps qs : List Mono} (gp : Good ps) (gq : Good qs) : Told (ps ++ qs) (addL ps qs) := told_add gp.told gq.fine
theorem nice_both {ps qs : List Mono} (gp : Good ps) (gq : Good qs) : ∀ m ∈ ps ++ qs, Nice m.2 := fun m hm => (List.mem_append.1 hm).elim (gp.nice m) (gq.nice m)
theorem addB_ok {ps qs : List Mono} (h : addB ps qs = true) : okP ps = true ∧ okP qs = true ∧ fitB (addL ps qs) = true ∧ addP ps qs = addL ps qs := by
  by_cases hk : okP ps = true ∧ okP qs = true
  · obtain ⟨h1, h2⟩ := add_yes hk.1 hk.2
    rw [h1] at h
    refine ⟨hk.1, hk.2, h, ?_⟩
    rw [h2]
    unfold fitP
    rw [if_pos h]
  · rw [(add_no hk).1] at h
    exact absurd h (by decide)
theorem add_comm' {ps qs : List Mono} : addB ps qs = addB qs ps ∧ addP ps qs = addP qs ps := by
  by_cases hk : okP ps = true ∧ okP qs = true
  · have e : addL ps qs = addL qs ps := told_one (told_both (ok_good hk.1) (ok_good hk.2)) (told_both (ok_good hk.2) (ok_good hk.1)) (fun x => Eq6.of_eq (by rw [sumE_app, sumE_app]; omega))
    rw [(add_yes hk.1 hk.2).1, (add_yes hk.1 hk.2).2, (add_yes hk.2 hk.1).1, (add_yes hk.2 hk.1).2, e]
    exact ⟨rfl, rfl⟩
  · rw [(add_no hk).1, (add_no hk).2, (add_no (fun h => hk ⟨h.2, h.1⟩)).1, (add_no (fun h => hk ⟨h.2, h.1⟩)).2]
    exact ⟨rfl, rfl⟩
theorem add_ok {ps qs : List Mono} (h : addB ps qs = true) : okP (addP ps qs) = true := by
  obtain ⟨h1, h2, h3, h4⟩ := addB_ok h
  rw [h4]
  exact (told_good (told_both (ok_good h1) (ok_good h2)) (nice_both (ok_good h1) (ok_good h2)) h3).ok
/-- So many times. -/
theorem sumE_scale (n : Int) (x : List UInt8) : ∀ ps : List Mono, Eq6 (sumE x (scaleE n ps)) (n * sumE x ps)
  | [] => ⟨0, by simp [scaleE, sumE]⟩
  | m :: r => by
    have ih := sumE_scale n x r
    unfold scaleE at ih ⊢
    rw [List.map_cons, sumE, sumE, Int.mul_add]
    refine Eq6.add ?_ ih
    by_cases e : txt m.2 = x
    · rw [if_pos e, if_pos e]
      rw [Int.mul_comm n m.1]
      exact Eq6.mod _
    · rw [if_neg e, if_neg e]
      exact ⟨0, by simp⟩
theorem scale_good {n : Int} {ps : List Mono} (g : Good ps) : Good (scaleL n ps) := told_good (told_scale g) (fun m hm => by
  obtain ⟨y, hy, rfl⟩ := List.mem_map.1 hm
  exact g.nice y hy) (scale_fit g).1
theorem scale_word {n : Int} {ps : List Mono} (h1 : okP ps = true) (h2 : 0 ≤ n) (h3 : n < 65536) : scaleP ps n = scaleL n ps := scale_yes h1 (decide_eq_true ⟨h2, h3⟩)
theorem add_none {ps : List Mono} (h : okP ps = true) : addB ps (scaleP ps 65535) = true ∧ addP ps (scaleP ps 65535) = [] := by
  have g := ok_good h
  rw [scale_word h (by decide) (by decide)]
  have gs := scale_good (n := 65535) g
  have e : addL ps (scaleL 65535 ps) = [] := told_one (told_both g gs) told_nil (fun x => by
    rw [sumE_app]
    refine ((Eq6.refl _).add ((told_sum (told_scale g) x).trans (sumE_scale 65535 x ps))).trans ⟨sumE x ps, ?_⟩
    rw [sumE]
    omega)
  rw [(add_yes h gs.ok).1, (add_yes h gs.ok).2, e]
  exact ⟨rfl, rfl⟩
theorem scale_one' : ∀ {ps : List Mono}, (∀ m ∈ ps, 0 < m.1 ∧ m.1 < 65536) → scaleL 1 ps = ps
  | [], _ => rfl
  | m :: r, h => by
    have hm := h m (List.mem_cons_self ..)
    have e : m.1 * 1 % 65536 = m.1 := by omega
    rw [scaleL, e, if_pos hm.1, scale_one' (fun x hx => h x (List.mem_cons_of_mem _ hx))]
theorem scale_zero' : ∀ ps : List Mono, scaleL 0 ps = []
  | [] => rfl
  | m :: r => by rw [scaleL, if_neg (by omega), scale_zero' r]
theorem scale_one {ps : List Mono} (h : okP ps = true) : scaleP ps 1 = ps := by rw [scale_word h (by decide) (by decide), scale_one' (fun m hm => ((ok_good h).fine m hm).2)]
theorem scale_zero {ps : List Mono} (h : okP ps = true) : scaleP ps 0 = [] := by rw [scale_word h (by decide) (by decide), scale_zero']
/-- Twice, three times. -/
theorem add_twice {ps : List Mono} (h : okP ps = true) : addB ps ps = true ∧ addP ps ps = scaleP ps 2 := by
  have g := ok_good h
  rw [scale_word h (by decide) (by decide)]
  have e : addL ps ps = scaleL 2 ps := told_one (told_both g g) (told_scale g) (fun x => by
    rw [sumE_app]
    refine Eq6.trans (Eq6.of_eq ?_) (sumE_scale 2 x ps).symm
    omega)
  rw [(add_yes h h).1, (add_yes h h).2, e]
  exact scale_fit g
theorem add_three {ps : List Mono} (h : okP ps = true) : addB (scaleP ps 2) ps = true ∧ addP (scaleP ps 2) ps = scaleP ps 3 ∧ okP (scaleP ps 3) = true := by
  have g := ok_good h
  rw [scale_word h (by decide) (by decide), scale_word h (by decide) (by decide)]
  have gs := scale_good (n := 2) g
  have e : addL (scaleL 2 ps) ps = scaleL 3 ps := told_one (told_both gs g) (told_scale g) (fun x => by
    rw [sumE_app]
    refine Eq6.trans (((told_sum (told_scale g) x).trans (sumE_scale 2 x ps)).add (Eq6.refl _)) (Eq6.trans (Eq6.of_eq ?_) (sumE_scale 3 x ps).symm)
    omega)
  rw [(add_yes gs.ok h).1, (add_yes gs.ok h).2, e]
  exact ⟨(scale_fit g).1, (scale_fit g).2, (scale_good g).ok⟩
/-- Three together. -/
theorem add_assoc' {a b c : List Mono} (h1 : addB a b = true) (h2 : addB b c = true) : addB (addP a b) c = addB a (addP b c) ∧ addP (addP a b) c = addP a (addP b c) := by
  obtain ⟨ka, kb, f1, e1⟩ := addB_ok h1
  obtain ⟨_, kc, f2, e2⟩ := addB_ok h2
  have k1 := add_ok h1
  have k2 := add_ok h2
  have t1 := told_both (ok_good ka) (ok_good kb)
  have t2 := told_both (ok_good kb) (ok_good kc)
  have e : addL (addP a b) c = addL a (addP b c) := told_one (told_both (ok_good k1) (ok_good kc)) (told_both (ok_good ka) (ok_good k2)) (fun x => by
    rw [sumE_app, sumE_app, e1, e2]
    have i1 := told_sum t1 x
    have i2 := told_sum t2 x
    rw [sumE_app] at i1 i2
    refine (i1.add (Eq6.refl _)).trans (Eq6.trans (Eq6.of_eq ?_) ((Eq6.refl _).add i2.symm))
    omega)
  rw [(add_yes k1 kc).1, (add_yes k1 kc).2, (add_yes ka k2).1, (add_yes ka k2).2, e]
  exact ⟨rfl, rfl⟩
/-- What a part's atoms come to together. -/
def prodV (vals : List Int) : List Int → Int
  | [] => 1
  | k :: ks => (if k < vals.length then vals.getD k.toNat 0 else 0) * prodV vals ks
/-- What parts come to, each word times what a value says of its atoms. -/
def evS (f : List Int → Int) : List Mono → Int
  | [] => 0
  | m :: r => m.1 * f m.2 + evS f r
theorem evS_app (f : List Int → Int) : ∀ es fs : List Mono, evS f (es ++ fs) = evS f es + evS f fs
  | [], fs => by rw [List.nil_append, evS]; omega
  | m :: r, fs => by rw [List.cons_append, evS, evS, evS_app f r fs]; omega
theorem mono_ev (vals : List Int) : ∀ (ks : List Int) (c : Int), Eq6 (monoVal vals ks c) (c * prodV vals ks)
  | [], c => by rw [monoVal, prodV]; exact Eq6.of_eq (by omega)
  | k :: ks, c => by
    rw [monoVal, prodV, ← Int.mul_assoc]
    exact (mono_ev vals ks _).trans ((Eq6.mod _).mulr _)
theorem sum_ev (vals : List Int) : ∀ (ps : List Mono) (n : Int), Eq6 (sumVal vals ps n) (n + evS (prodV vals) ps)
  | [], n => by rw [sumVal, evS]; exact Eq6.of_eq (by omega)
  | m :: r, n => by
    rw [sumVal, evS]
    refine (sum_ev vals r _).trans (Eq6.trans ((Eq6.mod _).add (Eq6.refl _)) ?_)
    have h := (mono_ev vals m.2 m.1)
    exact Eq6.trans (((Eq6.refl n).add h).add (Eq6.refl _)) (Eq6.of_eq (by omega))
theorem sum_word (vals : List Int) : ∀ (ps : List Mono) (n : Int), 0 ≤ n ∧ n < 65536 → 0 ≤ sumVal vals ps n ∧ sumVal vals ps n < 65536
  | [], n, h => h
  | m :: r, n, _ => by rw [sumVal]; exact sum_word vals r _ (by omega)
theorem sum_is (vals : List Int) (ps : List Mono) : sumVal vals ps 0 = evS (prodV vals) ps % 65536 := by
  have h := (sum_ev vals ps 0).to
  have hw := sum_word vals ps 0 (by omega)
  rw [Int.zero_add] at h
  omega
theorem plus_ev (f : List Int → Int) {m : Mono} (hm : Fine m.2) : ∀ {L : List Mono}, Up L → (∀ x ∈ L, Fine x.2) → Eq6 (evS f (plusL m false L)) (evS f L + m.1 * f m.2)
  | [], _, _ => by
    rw [plusL, if_neg (by decide)]
    simp only [evS]
    exact Eq6.of_eq (by omega)
  | y :: r, hu, hf => by
    have hy := hf y (List.mem_cons_self ..)
    have hr : ∀ x ∈ r, Fine x.2 := fun x hx => hf x (List.mem_cons_of_mem _ hx)
    have hyr : ∀ x ∈ r, txt y.2 < txt x.2 := fun x hx => List.rel_of_pairwise_cons hu hx
    by_cases h1 : ordA m.2 y.2 < 0
    · have h2 := (ordT_lt hm hy).1 h1
      rw [plus_first hm (fun x hx => by
        rcases List.mem_cons.1 hx with rfl | hx
        · exact ⟨hy, h2⟩
        · exact ⟨hr x hx, List.lt_trans h2 (hyr x hx)⟩)]
      rw [evS]
      exact Eq6.of_eq (by omega)
    · by_cases h0 : ordA m.2 y.2 = 0
      · have e0 := ordT_eq h0
        have hall : ∀ x ∈ r, Fine x.2 ∧ txt m.2 < txt x.2 := fun x hx => ⟨hr x hx, by rw [e0]; exact hyr x hx⟩
        rw [plusL, if_neg h1, if_pos h0, plus_all hm hall, evS, e0]
        have key : Eq6 ((y.1 + m.1) % 65536 * f y.2) ((y.1 + m.1) * f y.2) := (Eq6.mod _).mulr _
        have ex : (y.1 + m.1) * f y.2 = y.1 * f y.2 + m.1 * f y.2 := Int.add_mul _ _ _
        rw [ex] at key
        by_cases hc : 0 < (y.1 + m.1) % 65536
        · rw [if_pos hc, evS]
          exact Eq6.trans (key.add (Eq6.refl _)) (Eq6.of_eq (by omega))
        · rw [if_neg hc]
          have hz : (y.1 + m.1) % 65536 = 0 := by omega
          rw [hz, Int.zero_mul] at key
          exact Eq6.trans (Eq6.of_eq (Int.zero_add _).symm) (Eq6.trans (key.add (Eq6.refl (evS f r))) (Eq6.of_eq (by omega)))
      · rw [plusL, if_neg h1, if_neg h0, evS, evS]
        exact Eq6.trans ((Eq6.refl _).add (plus_ev f hm hu.of_cons hr)) (Eq6.of_eq (by omega))
theorem Told.fines {es L : List Mono} (h : Told es L) : ∀ x ∈ L, Fine x.2 := fun x hx => (h.fine x hx).1
theorem addL_ev (f : List Int → Int) : ∀ {qs es l : List Mono}, Told es l → (∀ m ∈ qs, Fine m.2 ∧ 0 < m.1 ∧ m.1 < 65536) → Eq6 (evS f (addL l qs)) (evS f l + evS f qs)
  | [], es, l, h, _ => by rw [addL, evS]; exact Eq6.of_eq (by omega)
  | q :: qs, es, l, h, hq => by
    have h1 := hq q (List.mem_cons_self ..)
    rw [addL, evS]
    exact (addL_ev f (h.plus h1) (fun m hm => hq m (List.mem_cons_of_mem _ hm))).trans (Eq6.trans ((plus_ev f h1.1 h.up h.fines).add (Eq6.refl _)) (Eq6.of_eq (by omega)))
theorem scaleL_ev (f : List Int → Int) (n : Int) : ∀ ps : List Mono, Eq6 (evS f (scaleL n ps)) (n * evS f ps)
  | [] => by rw [scaleL, evS]; exact Eq6.of_eq (by omega)
  | m :: r => by
    have ih := scaleL_ev f n r
    have key : Eq6 (m.1 * n % 65536 * f m.2) (m.1 * n * f m.2) := (Eq6.mod _).mulr _
    have ex : n * (m.1 * f m.2 + evS f r) = m.1 * n * f m.2 + n * evS f r := by rw [Int.mul_add, Int.mul_comm m.1 n, Int.mul_assoc]
    rw [scaleL, evS, ex]
    by_cases hc : 0 < m.1 * n % 65536
    · rw [if_pos hc, evS]
      exact key.add ih
    · rw [if_neg hc]
      have hz : m.1 * n % 65536 = 0 := by omega
      rw [hz, Int.zero_mul] at key
      exact Eq6.trans (Eq6.of_eq (Int.zero_add _).symm) (key.add ih)
theorem mulR_ev (f : List Int → Int) {x : Mono} (hx : ∀ a ∈ x.2, 0 ≤ a ∧ a < 200) (lx : x.2.length ≤ 4) : ∀ {qs es l : List Mono}, (∀ m ∈ qs, (∀ a ∈ m.2, 0 ≤ a ∧ a < 200) ∧ m.2.length ≤ 4) → Told es l → Eq6 (evS f (mulR x l qs)) (evS f l + evS f (prodE x qs))
  | [], es, l, _, h => by rw [mulR, prodE, List.map_nil, evS]; exact Eq6.of_eq (by omega)
  | y :: qs, es, l, hq, h => by
    have hy := hq y (List.mem_cons_self ..)
    have hr : ∀ m ∈ qs, (∀ a ∈ m.2, 0 ≤ a ∧ a < 200) ∧ m.2.length ≤ 4 := fun m hm => hq m (List.mem_cons_of_mem _ hm)
    have mf := merge_fine hx hy.1 lx hy.2
    rw [mulR, prodE, List.map_cons, evS]
    by_cases hc : 0 < x.1 * y.1 % 65536
    · rw [if_pos hc]
      have h2 := h.plus (m := (x.1 * y.1 % 65536, mergeL x.2 y.2)) ⟨mf, hc, by simp only []; omega⟩
      exact (mulR_ev f hx lx hr h2).trans (Eq6.trans ((plus_ev f (m := (x.1 * y.1 % 65536, mergeL x.2 y.2)) mf h.up h.fines).add (Eq6.refl _)) (Eq6.of_eq (by simp only [prodE]; omega)))
    · rw [if_neg hc]
      have hz : x.1 * y.1 % 65536 = 0 := by omega
      rw [hz, Int.zero_mul]
      exact (mulR_ev f hx lx hr h).trans (Eq6.of_eq (by simp only [prodE]; omega))
theorem mulL_ev (f : List Int → Int) {qs : List Mono} (gq : Good qs) : ∀ {ps es l : List Mono}, (∀ m ∈ ps, (∀ a ∈ m.2, 0 ≤ a ∧ a < 200) ∧ m.2.length ≤ 4) → Told es l → Eq6 (evS f (mulL qs l ps)) (evS f l + evS f (esM qs ps))
  | [], es, l, _, h => by rw [mulL, esM, List.flatMap_nil, evS]; exact Eq6.of_eq (by omega)
  | x :: ps, es, l, hp, h => by
    have hx := hp x (List.mem_cons_self ..)
    have hq : ∀ m ∈ qs, (∀ a ∈ m.2, 0 ≤ a ∧ a < 200) ∧ m.2.length ≤ 4 := fun m hm => ⟨gq.at_ m hm, gq.four m hm⟩
    have h1 := told_row hx.1 hx.2 hq h
    have i1 := mulR_ev f hx.1 hx.2 hq h
    have i2 := mulL_ev f gq (ps := ps) (fun m hm => hp m (List.mem_cons_of_mem _ hm)) h1
    rw [mulL, esM, List.flatMap_cons, evS_app]
    exact i2.trans (Eq6.trans (i1.add (Eq6.refl _)) (Eq6.of_eq (by unfold esM; omega)))
theorem prodV_merge (vals : List Int) : ∀ xs ys : List Int, prodV vals (mergeL xs ys) = prodV vals xs * prodV vals ys
  | xs, [] => by rw [merge_nil, prodV, Int.mul_one]
  | [], y :: r => by rw [merge_left, prodV, Int.one_mul]
  | x :: s, y :: r => by
    rw [mergeL]
    by_cases h : x ≤ y
    · rw [if_pos h, prodV, prodV_merge vals s (y :: r), prodV, prodV, Int.mul_assoc]
    · rw [if_neg h, prodV, prodV_merge vals (x :: s) r, prodV, prodV]
      rw [Int.mul_left_comm]
termination_by xs ys => xs.length + ys.length
theorem prodE_ev (vals : List Int) (x : Mono) : ∀ qs : List Mono, Eq6 (evS (prodV vals) (prodE x qs)) (x.1 * prodV vals x.2 * evS (prodV vals) qs)
  | [] => by rw [prodE, List.map_nil, evS]; exact Eq6.of_eq (by omega)
  | y :: qs => by
    have ih := prodE_ev vals x qs
    unfold prodE at ih ⊢
    rw [List.map_cons, evS, evS, prodV_merge, Int.mul_add]
    refine Eq6.add (Eq6.trans ((Eq6.mod _).mulr _) (Eq6.of_eq ?_)) ih
    rw [Int.mul_assoc, Int.mul_assoc, Int.mul_left_comm y.1]
theorem esM_ev (vals : List Int) (qs : List Mono) : ∀ ps : List Mono, Eq6 (evS (prodV vals) (esM qs ps)) (evS (prodV vals) ps * evS (prodV vals) qs)
  | [] => by rw [esM, List.flatMap_nil, evS]; exact Eq6.of_eq (by omega)
  | x :: ps => by
    have ih := esM_ev vals qs ps
    unfold esM at ih ⊢
    rw [List.flatMap_cons, evS_app, evS, Int.add_mul]
    exact (prodE_ev vals x qs).add ih
theorem add_val (vals : List Int) {ps qs : List Mono} (h : addB ps qs = true) : sumVal vals (addP ps qs) 0 = (sumVal vals ps 0 + sumVal vals qs 0) % 65536 := by
  obtain ⟨h1, h2, _, h4⟩ := addB_ok h
  have g1 := ok_good h1
  have g2 := ok_good h2
  have := (addL_ev (prodV vals) g1.told g2.fine).to
  rw [h4, sum_is, sum_is, sum_is]
  omega
theorem scale_val (vals : List Int) {ps : List Mono} {n : Int} (h : okP ps = true) (h2 : 0 ≤ n) (h3 : n < 65536) : sumVal vals (scaleP ps n) 0 = n * sumVal vals ps 0 % 65536 := by
  rw [scale_word h h2 h3, sum_is, sum_is]
  exact ((scaleL_ev (prodV vals) n ps).trans ((Eq6.mod _).symm.mull n)).to
theorem told_times {ps qs : List Mono} (gp : Good ps) (gq : Good qs) : Told (esM qs ps) (mulL qs [] ps) := told_mul gq (es := []) (fun m hm => ⟨gp.at_ m hm, gp.four m hm⟩) told_nil
theorem merge_ris {xs ys : List Int} (hx : xs.Pairwise (· ≤ ·)) (hy : ys.Pairwise (· ≤ ·)) : (mergeL xs ys).Pairwise (· ≤ ·) := by
  have tr : ∀ a b c : Int, decide (a ≤ b) = true → decide (b ≤ c) = true → decide (a ≤ c) = true := fun a b c h1 h2 => by simp only [decide_eq_true_eq] at *; omega
  have to : ∀ a b : Int, (decide (a ≤ b) || decide (b ≤ a)) = true := fun a b => by simp only [Bool.or_eq_true, decide_eq_true_eq]; omega
  rw [merge_is]
  exact (List.pairwise_merge tr to _ _ (hx.imp fun h => decide_eq_true h) (hy.imp fun h => decide_eq_true h)).imp fun h => of_decide_eq_true h
theorem merge_comm {xs ys : List Int} (hx : xs.Pairwise (· ≤ ·)) (hy : ys.Pairwise (· ≤ ·)) : mergeL xs ys = mergeL ys xs := by
  refine List.Perm.eq_of_pairwise (le := fun a b => a ≤ b) (fun a b _ _ h1 h2 => by omega) (merge_ris hx hy) (merge_ris hy hx) ?_
  rw [merge_is, merge_is]
  exact (List.merge_perm_append _).trans (List.perm_append_comm.trans (List.merge_perm_append _).symm)
theorem nice_times {ps qs : List Mono} (gp : Good ps) (gq : Good qs) : ∀ m ∈ esM qs ps, Nice m.2 := fun m hm => by
  obtain ⟨x, hx, h1⟩ := List.mem_flatMap.1 hm
  obtain ⟨y, hy, rfl⟩ := List.mem_map.1 h1
  have l1 := gp.four x hx
  have l2 := gq.four y hy
  exact ⟨merge_ris (gp.ris x hx) (gq.ris y hy), fun a ha => (merge_mem.1 ha).elim (gp.at_ x hx a) (gq.at_ y hy a), by show (mergeL x.2 y.2).length < 256; rw [merge_len]; omega⟩
theorem mulB_ok {ps qs : List Mono} (h : mulB ps qs = true) : okP ps = true ∧ okP qs = true ∧ fitB (mulL qs [] ps) = true ∧ mulP ps qs = mulL qs [] ps := by
  by_cases hk : okP ps = true ∧ okP qs = true
  · obtain ⟨h1, h2⟩ := mul_yes hk.1 hk.2
    rw [h1] at h
    refine ⟨hk.1, hk.2, h, ?_⟩
    rw [h2]
    unfold fitP
    rw [if_pos h]
  · rw [(mul_no hk).1] at h
    exact absurd h (by decide)
theorem mul_ok {ps qs : List Mono} (h : mulB ps qs = true) : okP (mulP ps qs) = true := by
  obtain ⟨h1, h2, h3, h4⟩ := mulB_ok h
  rw [h4]
  exact (told_good (told_times (ok_good h1) (ok_good h2)) (nice_times (ok_good h1) (ok_good h2)) h3).ok
theorem mul_val (vals : List Int) {ps qs : List Mono} (h : mulB ps qs = true) : sumVal vals (mulP ps qs) 0 = sumVal vals ps 0 * sumVal vals qs 0 % 65536 := by
  obtain ⟨h1, h2, _, h4⟩ := mulB_ok h
  have g1 := ok_good h1
  have g2 := ok_good h2
  have i1 := mulL_ev (prodV vals) g2 (ps := ps) (es := []) (fun m hm => ⟨g1.at_ m hm, g1.four m hm⟩) told_nil
  rw [evS, Int.zero_add] at i1
  rw [h4, sum_is, sum_is, sum_is]
  exact ((i1.trans (esM_ev vals qs ps)).trans (Eq6.trans ((Eq6.mod _).symm.mulr _) ((Eq6.mod _).symm.mull _))).to
/-- Sums over both. -/
def dblS (g : Mono → Mono → Int) (qs : List Mono) : List Mono → Int
  | [] => 0
  | x :: r => (qs.map (g x)).sum + dblS g qs r
theorem sumE_prod (t : List UInt8) (x : Mono) : ∀ qs : List Mono, sumE t (prodE x qs) = (qs.map fun y => if txt (mergeL x.2 y.2) = t then x.1 * y.1 % 65536 else 0).sum
  | [] => rfl
  | y :: qs => by
    have ih := sumE_prod t x qs
    unfold prodE at ih ⊢
    rw [List.map_cons, sumE, ih, List.map_cons, List.sum_cons]
theorem sumE_es (t : List UInt8) (qs : List Mono) : ∀ ps : List Mono, sumE t (esM qs ps) = dblS (fun x y => if txt (mergeL x.2 y.2) = t then x.1 * y.1 % 65536 else 0) qs ps
  | [] => rfl
  | x :: ps => by
    have ih := sumE_es t qs ps
    unfold esM at ih ⊢
    rw [List.flatMap_cons, sumE_app, ih, sumE_prod, dblS]
theorem dbl_nil (g : Mono → Mono → Int) : ∀ ps : List Mono, dblS g [] ps = 0
  | [] => rfl
  | x :: r => by rw [dblS, dbl_nil g r]; rfl
theorem dbl_cons (g : Mono → Mono → Int) (y : Mono) (qs : List Mono) : ∀ ps : List Mono, dblS g (y :: qs) ps = (ps.map fun x => g x y).sum + dblS g qs ps
  | [] => rfl
  | x :: r => by
    rw [dblS, dblS, dbl_cons g y qs r, List.map_cons, List.map_cons, List.sum_cons, List.sum_cons]
    omega
theorem dbl_swap (g h : Mono → Mono → Int) : ∀ (qs ps : List Mono), (∀ x ∈ ps, ∀ y ∈ qs, g x y = h y x) → dblS g qs ps = dblS h ps qs
  | [], ps, _ => by rw [dbl_nil, dblS]
  | y :: qs, ps, hg => by
    rw [dbl_cons, dblS, dbl_swap g h qs ps (fun x hx z hz => hg x hx z (List.mem_cons_of_mem _ hz))]
    rw [List.map_congr_left (fun x hx => hg x hx y (List.mem_cons_self ..))]
theorem mul_comm' {ps qs : List Mono} : mulB ps qs = mulB qs ps ∧ mulP ps qs = mulP qs ps := by
  by_cases hk : okP ps = true ∧ okP qs = true
  · have g1 := ok_good hk.1
    have g2 := ok_good hk.2
    have e : mulL qs [] ps = mulL ps [] qs := told_one (told_times g1 g2) (told_times g2 g1) (fun t => Eq6.of_eq (by
      rw [sumE_es, sumE_es]
      refine dbl_swap _ _ qs ps (fun x hx y hy => ?_)
      rw [merge_comm (g1.ris x hx) (g2.ris y hy), Int.mul_comm x.1 y.1]))
    rw [(mul_yes hk.1 hk.2).1, (mul_yes hk.1 hk.2).2, (mul_yes hk.2 hk.1).1, (mul_yes hk.2 hk.1).2, e]
    exact ⟨rfl, rfl⟩
  · rw [(mul_no hk).1, (mul_no hk).2, (mul_no (fun h => hk ⟨h.2, h.1⟩)).1, (mul_no (fun h => hk ⟨h.2, h.1⟩)).2]
    exact ⟨rfl, rfl⟩
/-- A word as a sum. -/
theorem const_ok (n : Int) : okP (constP n) = true := by
  unfold constP
  by_cases h : 1 ≤ n ∧ n ≤ 65535
  · rw [if_pos h]
    exact Good.ok ⟨List.pairwise_singleton _ _, fun m hm => by
      rw [List.mem_singleton.1 hm]; exact ⟨⟨fun a ha => by simp at ha, by simp⟩, by simp only []; omega, by simp only []; omega⟩, fun m hm => by
      rw [List.mem_singleton.1 hm]; exact List.Pairwise.nil, fun m hm a ha => by
      rw [List.mem_singleton.1 hm] at ha; simp at ha, fun m hm => by
      rw [List.mem_singleton.1 hm]; simp, by simp⟩
  · rw [if_neg h]; rfl
theorem mul_const {ps : List Mono} {n : Int} (h : okP ps = true) (h2 : 0 ≤ n) (h3 : n < 65536) : mulB (constP n) ps = true ∧ mulP (constP n) ps = scaleP ps n := by
  have g := ok_good h
  have gc := ok_good (const_ok n)
  rw [(mul_yes (const_ok n) h).1, (mul_yes (const_ok n) h).2, scale_word h h2 h3]
  have e : mulL ps [] (constP n) = scaleL n ps := by
    by_cases h0 : n = 0
    · subst h0
      rw [scale_zero' ps]
      rfl
    · have ec : constP n = [(n, [])] := if_pos (by omega)
      refine told_one (told_times gc g) (told_scale g) (fun x => Eq6.of_eq ?_)
      congr 1
      rw [ec, esM, List.flatMap_cons, List.flatMap_nil, List.append_nil, prodE, scaleE]
      refine List.map_congr_left (fun y _ => ?_)
      rw [merge_left, Int.mul_comm]
  rw [e]
  exact scale_fit g
theorem num_const {n : Int} (h2 : 0 ≤ n) (h3 : n < 65536) : numP (constP n) = (n, true) := by
  unfold numP
  rw [if_neg (by rw [const_ok]; decide)]
  unfold constP
  by_cases h : 1 ≤ n ∧ n ≤ 65535
  · rw [if_pos h]
  · rw [if_neg h]
    have : n = 0 := by omega
    subst this
    rfl
theorem num_val (vals : List Int) {ps : List Mono} (h : (numP ps).2 = true) : okP ps = true ∧ sumVal vals ps 0 = (numP ps).1 := by
  unfold numP at h ⊢
  by_cases hk : okP ps = false
  · rw [if_pos hk] at h
    exact absurd h (by decide)
  · rw [if_neg hk] at h ⊢
    have hk2 : okP ps = true := by cases e : okP ps; exact absurd e hk; rfl
    refine ⟨hk2, ?_⟩
    have g := ok_good hk2
    match ps, h, g with
    | [], _, _ => rfl
    | [(c, [])], _, g =>
      have := (g.fine _ (List.mem_cons_self ..)).2
      show (0 + c) % 65536 = c
      omega
    | [(c, a :: b)], h, _ => exact Bool.noConfusion h
    | (c, []) :: y :: r, h, _ => exact Bool.noConfusion h
    | (c, a :: b) :: y :: r, h, _ => exact Bool.noConfusion h
/-- Sums are spread. -/
theorem prod_sum (t : List UInt8) (x : Mono) : ∀ qs : List Mono, Eq6 (sumE t (prodE x qs)) (x.1 * evS (fun av => if txt (mergeL x.2 av) = t then 1 else 0) qs)
  | [] => by rw [prodE, List.map_nil, sumE, evS]; exact Eq6.of_eq (by omega)
  | y :: qs => by
    have ih := prod_sum t x qs
    unfold prodE at ih ⊢
    rw [List.map_cons, sumE, evS, Int.mul_add]
    refine Eq6.add ?_ ih
    by_cases e : txt (mergeL x.2 y.2) = t
    · simp only [if_pos e, Int.mul_one]
      exact Eq6.mod _
    · simp only [if_neg e, Int.mul_zero]
      exact Eq6.refl _
theorem es_spread (t : List UInt8) {a b : List Mono} (ga : Good a) (gb : Good b) : ∀ ps : List Mono, Eq6 (sumE t (esM (addL a b) ps)) (sumE t (esM a ps) + sumE t (esM b ps))
  | [] => Eq6.of_eq (by simp [esM, sumE])
  | x :: ps => by
    have ih := es_spread t ga gb ps
    unfold esM at ih ⊢
    rw [List.flatMap_cons, List.flatMap_cons, List.flatMap_cons, sumE_app, sumE_app, sumE_app]
    have k0 := prod_sum t x (addL a b)
    have k1 := prod_sum t x a
    have k2 := prod_sum t x b
    have k3 := (addL_ev (fun av => if txt (mergeL x.2 av) = t then 1 else 0) ga.told gb.fine).mull x.1
    rw [Int.mul_add] at k3
    have k4 := (k0.trans k3).trans (k1.symm.add k2.symm)
    exact (k4.add ih).trans (Eq6.of_eq (by omega))
theorem mul_spread {a b c : List Mono} (h1 : addB a b = true) (h2 : mulB c (addP a b) = true) (h3 : mulB c a = true) (h4 : mulB c b = true) : addB (mulP c a) (mulP c b) = true ∧ addP (mulP c a) (mulP c b) = mulP c (addP a b) := by
  obtain ⟨ka, kb, f1, e1⟩ := addB_ok h1
  obtain ⟨kc, ks, f2, e2⟩ := mulB_ok h2
  obtain ⟨_, _, f3, e3⟩ := mulB_ok h3
  obtain ⟨_, _, f4, e4⟩ := mulB_ok h4
  have kq := mul_ok h3
  have kr := mul_ok h4
  have e : addL (mulP c a) (mulP c b) = mulL (addP a b) [] c := told_one (told_both (ok_good kq) (ok_good kr)) (told_times (ok_good kc) (ok_good ks)) (fun t => by
    rw [sumE_app, e3, e4, e1]
    exact ((told_sum (told_times (ok_good kc) (ok_good ka)) t).add (told_sum (told_times (ok_good kc) (ok_good kb)) t)).trans (es_spread t (ok_good ka) (ok_good kb) c).symm)
  rw [(add_yes kq kr).1, (add_yes kq kr).2, e, e2]
  refine ⟨f2, ?_⟩
  unfold fitP
  rw [if_pos f2]
/-- What fits. -/
theorem addL_len : ∀ (qs l : List Mono), (addL l qs).length ≤ l.length + qs.length
  | [], l => by rw [addL]; simp
  | q :: qs, l => by
    have h1 := addL_len qs (plusL q false l)
    have h2 := plus_len (m := q) l false
    rw [addL, List.length_cons]
    omega
theorem mulR_len (x : Mono) : ∀ (qs l : List Mono), (mulR x l qs).length ≤ l.length + qs.length
  | [], l => by rw [mulR]; simp
  | q :: qs, l => by
    rw [mulR, List.length_cons]
    split
    · have h1 := mulR_len x qs (plusL (x.1 * q.1 % 65536, mergeL x.2 q.2) false l)
      have h2 := plus_len (m := (x.1 * q.1 % 65536, mergeL x.2 q.2)) l false
      omega
    · have h1 := mulR_len x qs l
      omega
theorem mulL_len (qs : List Mono) : ∀ (ps l : List Mono), (mulL qs l ps).length ≤ l.length + ps.length * qs.length
  | [], l => by rw [mulL]; simp
  | x :: ps, l => by
    have h1 := mulL_len qs ps (mulR x l qs)
    have h2 := mulR_len x qs l
    rw [mulL, List.length_cons, Nat.succ_mul]
    omega
theorem add_fit {a b : List Mono} (h1 : okP a = true) (h2 : okP b = true) (h : a.length + b.length ≤ 12) : addB a b = true := by
  have ga := ok_good h1
  have gb := ok_good h2
  rw [(add_yes h1 h2).1]
  refine (fit_put (Nat.le_trans (addL_len b a) h) (fun x hx => ?_)).1
  obtain ⟨y, hy, e⟩ := told_from (told_both ga gb) (nice_both ga gb) x hx
  rw [← e]
  exact (List.mem_append.1 hy).elim (ga.four y) (gb.four y)
/-- How many atoms a part has at most. -/
def degL : List Mono → Nat → Nat
  | [], n => n
  | m :: r, n => degL r (max n m.2.length)
theorem degL_ge : ∀ (ps : List Mono) (n : Nat), n ≤ degL ps n ∧ ∀ m ∈ ps, m.2.length ≤ degL ps n
  | [], n => ⟨Nat.le_refl _, fun m h => absurd h (by simp)⟩
  | x :: r, n => by
    obtain ⟨h1, h2⟩ := degL_ge r (max n x.2.length)
    rw [degL]
    refine ⟨by omega, fun m hm => ?_⟩
    rcases List.mem_cons.1 hm with rfl | hm
    · omega
    · exact h2 m hm
theorem mul_fit {a b : List Mono} (h1 : okP a = true) (h2 : okP b = true) (h : a.length * b.length ≤ 12) (hd : degL a 0 + degL b 0 ≤ 4) : mulB a b = true := by
  have ga := ok_good h1
  have gb := ok_good h2
  rw [(mul_yes h1 h2).1]
  refine (fit_put (Nat.le_trans (mulL_len b a []) (by simpa using h)) (fun x hx => ?_)).1
  obtain ⟨y, hy, e⟩ := told_from (told_times ga gb) (nice_times ga gb) x hx
  rw [← e]
  obtain ⟨u, hu, h3⟩ := List.mem_flatMap.1 hy
  obtain ⟨v, hv, rfl⟩ := List.mem_map.1 h3
  have l1 := (degL_ge a 0).2 u hu
  have l2 := (degL_ge b 0).2 v hv
  show (mergeL u.2 v.2).length ≤ 4
  rw [merge_len]
  omega
/-- Atoms that are not there make no difference. -/
theorem mono_under {xs ys : List Int} {n : Nat} (hx : n ≤ xs.length) (hy : n ≤ ys.length) (h : ∀ i, i < n → xs.getD i 0 = ys.getD i 0) : ∀ (ks : List Int) (c : Int), (∀ k ∈ ks, 0 ≤ k ∧ k < n) → monoVal xs ks c = monoVal ys ks c
  | [], c, _ => rfl
  | k :: ks, c, hk => by
    have h1 := hk k (List.mem_cons_self ..)
    rw [monoVal, monoVal, if_pos (by omega), if_pos (by omega), h k.toNat (by omega)]
    exact mono_under hx hy h ks _ (fun j hj => hk j (List.mem_cons_of_mem _ hj))
theorem sum_under {xs ys : List Int} {n : Nat} (hx : n ≤ xs.length) (hy : n ≤ ys.length) (h : ∀ i, i < n → xs.getD i 0 = ys.getD i 0) : ∀ (ps : List Mono) (c : Int), (∀ m ∈ ps, ∀ k ∈ m.2, 0 ≤ k ∧ k < n) → sumVal xs ps c = sumVal ys ps c
  | [], c, _ => rfl
  | m :: r, c, hk => by
    rw [sumVal, sumVal, mono_under hx hy h m.2 m.1 (hk m (List.mem_cons_self ..))]
    exact sum_under hx hy h r _ (fun j hj => hk j (List.mem_cons_of_mem _ hj))
theorem under_at {ps : List Mono} {n : Int} (h : underB ps n = true) : ∀ m ∈ ps, ∀ k ∈ m.2, k < n := fun m hm k hk => by
  obtain ⟨i, hi⟩ := List.getElem?_of_mem hm
  obtain ⟨j, hj⟩ := List.getElem?_of_mem hk
  unfold underB at h
  have h1 := all_at h (List.getElem?_eq_some_iff.1 hi).1
  rw [getD_part hi] at h1
  have h2 := all_at h1 (List.getElem?_eq_some_iff.1 hj).1
  rw [getD_at hj] at h2
  exact of_decide_eq_true h2
theorem eval_under {ps : List Mono} {vals : List Int} {n : Nat} (hn : n ≤ vals.length) (ho : okP ps = true) (h : underB ps n = true) : sumVal (vals.take n ++ [1, 2, 3]) ps 0 = sumVal vals ps 0 := by
  refine sum_under (n := n) (by simp; omega) hn (fun i hi => ?_) ps 0 (fun m hm k hk => ⟨((ok_good ho).at_ m hm k hk).1, under_at h m hm k hk⟩)
  rw [List.getD_eq_getElem?_getD, List.getD_eq_getElem?_getD, List.getElem?_append_left (by simp; omega), List.getElem?_take_of_lt hi]
/-- How two sums stand. -/
theorem lexI_neg : ∀ a b : List Int, lexI b a = - lexI a b
  | [], [] => rfl
  | [], _ :: _ => rfl
  | _ :: _, [] => rfl
  | x :: a, y :: b => by
    have ih := lexI_neg a b
    rw [lexI, lexI]
    by_cases h : x < y
    · simp only [if_neg (show ¬ y < x by omega), if_pos h]; rfl
    · by_cases h2 : y < x
      · simp only [if_pos h2, if_neg h]
      · simp only [if_neg h2, if_neg h, ih]
theorem lexI_bd : ∀ a b : List Int, -1 ≤ lexI a b ∧ lexI a b ≤ 1
  | [], [] => by decide
  | [], _ :: _ => by rw [lexI]; decide
  | _ :: _, [] => by rw [lexI]; decide
  | x :: a, y :: b => by
    rw [lexI]
    have := lexI_bd a b
    split
    · omega
    · split <;> omega
theorem ordA_neg (a b : List Int) : ordA b a = - ordA a b := by
  unfold ordA
  by_cases h : a.length < b.length
  · simp only [if_neg (show ¬ b.length < a.length by omega), if_pos h]; rfl
  · by_cases h2 : b.length < a.length
    · simp only [if_pos h2, if_neg h]
    · simp only [if_neg h2, if_neg h, lexI_neg a b]
theorem ordA_bd (a b : List Int) : -1 ≤ ordA a b ∧ ordA a b ≤ 1 := by
  unfold ordA
  have := lexI_bd a b
  split
  · omega
  · split <;> omega
theorem ordM_neg : ∀ a b : List Mono, ordM b a = - ordM a b
  | [], [] => rfl
  | [], _ :: _ => rfl
  | _ :: _, [] => rfl
  | x :: a, y :: b => by
    have ih := ordM_neg a b
    have h0 := ordA_neg x.2 y.2
    rw [ordM, ordM]
    by_cases e : ordA x.2 y.2 = 0
    · have e' : ordA y.2 x.2 = 0 := by omega
      simp only [e, e', ne_eq, not_true_eq_false, if_false]
      by_cases h : x.1 < y.1
      · simp only [if_neg (show ¬ y.1 < x.1 by omega), if_pos h]; rfl
      · by_cases h2 : y.1 < x.1
        · simp only [if_pos h2, if_neg h]
        · simp only [if_neg h2, if_neg h, ih]
    · have e' : ordA y.2 x.2 ≠ 0 := by omega
      rw [if_pos e', if_pos e, h0]
theorem ordM_bd : ∀ a b : List Mono, -1 ≤ ordM a b ∧ ordM a b ≤ 1
  | [], [] => by decide
  | [], _ :: _ => by rw [ordM]; decide
  | _ :: _, [] => by rw [ordM]; decide
  | x :: a, y :: b => by
    rw [ordM]
    have h1 := ordM_bd a b
    have h2 := ordA_bd x.2 y.2
    split
    · exact h2
    · split
      · omega
      · split <;> omega
theorem ordM_zero : ∀ {a b : List Mono}, ordM a b = 0 → a = b
  | [], [], _ => rfl
  | [], _ :: _, h => by rw [ordM] at h; omega
  | _ :: _, [], h => by rw [ordM] at h; omega
  | x :: a, y :: b, h => by
    rw [ordM] at h
    by_cases e : ordA x.2 y.2 = 0
    · rw [if_neg (by omega)] at h
      by_cases h1 : x.1 < y.1
      · rw [if_pos h1] at h; omega
      · by_cases h2 : y.1 < x.1
        · rw [if_neg h1, if_pos h2] at h; omega
        · rw [if_neg h1, if_neg h2] at h
          have e1 : x = y := Prod.ext (by omega) (ordT_eq e)
          rw [e1, ordM_zero h]
    · rw [if_pos e] at h; exact absurd h e
theorem ordP_neg (a b : List Mono) : ordP b a = - ordP a b := by
  unfold ordP
  by_cases h : a.length < b.length
  · simp only [if_neg (show ¬ b.length < a.length by omega), if_pos h]; rfl
  · by_cases h2 : b.length < a.length
    · simp only [if_pos h2, if_neg h]
    · simp only [if_neg h2, if_neg h, ordM_neg a b]
theorem ordP_bd (a b : List Mono) : -1 ≤ ordP a b ∧ ordP a b ≤ 1 := by
  unfold ordP
  have := ordM_bd a b
  split
  · omega
  · split <;> omega
theorem ordP_self (a : List Mono) : ordP a a = 0 := by
  have := ordP_neg a a
  omega
theorem ordP_zero {a b : List Mono} : ordP a b = 0 ↔ a = b := by
  constructor
  · intro h
    unfold ordP at h
    by_cases h1 : a.length < b.length
    · rw [if_pos h1] at h; omega
    · by_cases h2 : b.length < a.length
      · rw [if_neg h1, if_pos h2] at h; omega
      · rw [if_neg h1, if_neg h2] at h
        exact ordM_zero h
  · rintro rfl
    exact ordP_self _
end Go.Proofs.YtckhfpaicnjknaaGreat.Pol
