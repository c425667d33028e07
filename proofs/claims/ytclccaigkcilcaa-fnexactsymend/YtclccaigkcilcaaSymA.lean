/-
  Slices of sums: what it is that one holds them, that the call made one; contracts of the laws' own eqTrmPolyS, markTrmPolyS, heldTrmPolyS.
-/
import Derived.Test.YtclccaigkcilcaaPolP
import Derived.Test.YtclccaigkcilcaaPolK
namespace Go.Proofs.Ytclccaigkcilcaa.Pol
set_option linter.unusedVariables false
set_option linter.unusedSimpArgs false
open Go.ChangeShapes Go.WideShapes Go.ChangeAt Go.RowKit IntS
/-- A slice that holds sums. -/
structure QRow (w : World) (B : Nat) (v : Value) (qs : List (List Mono)) : Prop where
  ex : ∃ a cap off, v = .slice a qs.length cap ∧ qs.length ≤ cap ∧ cap ≤ maxLen ∧ (a = none → cap = 0) ∧ (qs = [] ∨ (a = some ⟨B, off, none⟩ ∧ ∀ (i : Nat) p, qs[i]? = some p → ∃ q c b, w.cell? ⟨B, off + i, none⟩ = some (.slice q p.length c) ∧ PRow w b (.slice q p.length c) p))
theorem QRow.below {w w' : World} {B : Nat} {v : Value} {qs : List (List Mono)} (h : QRow w B v qs) (hb : Below w.heap.size w w') : QRow w' B v qs := by
  obtain ⟨a, cap, off, h1, h2, h3, hz, h4⟩ := h
  refine ⟨a, cap, off, h1, h2, h3, hz, h4.imp id fun ⟨e, q⟩ => ⟨e, fun i p hp => ?_⟩⟩
  obtain ⟨x, c, b, k1, k2⟩ := q i p hp
  exact ⟨x, c, b, cell_below hb k1, k2.below hb⟩
/-- Sums whose lists lie in blocks of their own, from block lo on, below hi. -/
structure WQ (w : World) (lo hi : Nat) (a : Option Addr) (G cap : Nat) (l h : Nat → Nat) (s : Nat → Value) (qs : List (List Mono)) : Prop where
  le : qs.length ≤ cap
  mx : cap ≤ maxLen
  nl : a = none → cap = 0
  at_ : qs = [] ∨ (a = some ⟨G, 0, none⟩ ∧ lo ≤ G ∧ G < hi ∧ G < w.heap.size)
  cells : ∀ (i : Nat) p, qs[i]? = some p → w.cell? ⟨G, i, none⟩ = some (s i) ∧ WPoly w (l i) (h i) (s i) p ∧ lo ≤ l i ∧ l i ≤ h i ∧ h i ≤ hi ∧ (h i ≤ G ∨ G < l i)
  apart : ∀ i j : Nat, i < j → j < qs.length → h i ≤ l j
structure WSums (w : World) (lo hi : Nat) (v : Value) (qs : List (List Mono)) : Prop where
  ex : ∃ (a : Option Addr) (G cap : Nat) (l h : Nat → Nat) (s : Nat → Value), v = .slice a qs.length cap ∧ WQ w lo hi a G cap l h s qs
theorem WSums.read {w : World} {lo hi : Nat} {v : Value} {qs : List (List Mono)} (h : WSums w lo hi v qs) : ∃ B, QRow w B v qs := by
  obtain ⟨a, G, cap, l, hh, s, h1, h⟩ := h
  refine ⟨G, a, cap, 0, h1, h.le, h.mx, h.nl, h.at_.imp id (fun q => ⟨q.1, fun i p hp => ?_⟩)⟩
  obtain ⟨k1, k2, _⟩ := h.cells i p hp
  obtain ⟨b, r⟩ := k2.read
  obtain ⟨q', _, c, _, _, e1, _⟩ := k2
  rw [e1] at k1 r
  rw [Nat.zero_add]
  exact ⟨q', c, b, k1, r⟩
theorem WQ.keep {S : Nat → Prop} {w w' : World} {lo hi : Nat} {a : Option Addr} {G cap : Nat} {l h : Nat → Nat} {s : Nat → Value} {qs : List (List Mono)} (q : WQ w lo hi a G cap l h s qs) (hk : Keep S w w') (hS : ∀ b, lo ≤ b → b < hi → ¬ S b) : WQ w' lo hi a G cap l h s qs := by
  refine ⟨q.le, q.mx, q.nl, q.at_.imp id (fun q => ⟨q.1, q.2.1, q.2.2.1, Nat.lt_of_lt_of_le q.2.2.2 hk.size⟩), fun i p hp => ?_, q.apart⟩
  obtain ⟨k1, k2, k3, k4, k5, k6⟩ := q.cells i p hp
  have hG := q.at_.resolve_left (fun e => by rw [e] at hp; simp at hp)
  have e := hk.block G hG.2.2.2 (hS G hG.2.1 hG.2.2.1)
  exact ⟨(World.cell?_of_block (w := w) (a := ⟨G, i, none⟩) e).trans k1, k2.keep hk (fun b h1 h2 => hS b (by omega) (by omega)), k3, k4, k5, k6⟩
theorem WSums.keep {S : Nat → Prop} {w w' : World} {lo hi : Nat} {v : Value} {qs : List (List Mono)} (q : WSums w lo hi v qs) (hk : Keep S w w') (hS : ∀ b, lo ≤ b → b < hi → ¬ S b) : WSums w' lo hi v qs := by
  obtain ⟨a, G, cap, l, h, s, h1, h2⟩ := q
  exact ⟨a, G, cap, l, h, s, h1, h2.keep hk hS⟩
theorem WSums.below {w w' : World} {lo hi : Nat} {v : Value} {qs : List (List Mono)} (h : WSums w lo hi v qs) (hb : Below w.heap.size w w') : WSums w' lo hi v qs := h.keep (Keep.of_below (S := fun _ => False) hb) (fun _ _ _ h => h)
theorem WSums.wide {w : World} {lo hi lo' hi' : Nat} {v : Value} {qs : List (List Mono)} (q : WSums w lo hi v qs) (hl : lo' ≤ lo) (hh : hi ≤ hi') : WSums w lo' hi' v qs := by
  obtain ⟨a, G, cap, l, h, s, h1, q⟩ := q
  refine ⟨a, G, cap, l, h, s, h1, q.le, q.mx, q.nl, q.at_.imp id (fun q => ⟨q.1, by omega, by omega, q.2.2.2⟩), fun i p hp => ?_, q.apart⟩
  obtain ⟨k1, k2, k3, k4, k5, k6⟩ := q.cells i p hp
  exact ⟨k1, k2, by omega, k4, by omega, k6⟩
theorem WQ.mark {w w' : World} {lo hi : Nat} {a : Option Addr} {G cap : Nat} {l h : Nat → Nat} {s : Nat → Value} {qs : List (List Mono)} (q : WQ w lo hi a G cap l h s qs) {j : Nat} {p p' : List Mono} (hp : qs[j]? = some p) (hk : Keep (fun b => l j ≤ b ∧ b < h j) w w') (hx : WPoly w' (l j) (h j) (s j) p') : WQ w' lo hi a G cap l h s (qs.set j p') := by
  have hj := (List.getElem?_eq_some_iff.1 hp).1
  have hG := q.at_.resolve_left (fun e => by rw [e] at hp; simp at hp)
  obtain ⟨_, _, q1, q2, q3, q4⟩ := q.cells j p hp
  have e := hk.block G hG.2.2.2 (fun h3 => by omega)
  refine ⟨by rw [List.length_set]; exact q.le, q.mx, q.nl, Or.inr ⟨hG.1, hG.2.1, hG.2.2.1, Nat.lt_of_lt_of_le hG.2.2.2 hk.size⟩, fun i x hi => ?_, fun i i' e e' => q.apart i i' e (by rw [List.length_set] at e'; exact e')⟩
  by_cases ej : j = i
  · subst ej
    rw [List.getElem?_set_self hj] at hi
    obtain rfl := Option.some.inj hi
    obtain ⟨k1, _, k3⟩ := q.cells j p hp
    exact ⟨(World.cell?_of_block (w := w) (a := ⟨G, j, none⟩) e).trans k1, hx, k3⟩
  · rw [List.getElem?_set_ne ej] at hi
    have hil := (List.getElem?_eq_some_iff.1 hi).1
    obtain ⟨k1, k2, k3, k4, k5, k6⟩ := q.cells i x hi
    have hap : h i ≤ l j ∨ h j ≤ l i := by
      by_cases e2 : i < j
      · exact Or.inl (q.apart i j e2 hj)
      · exact Or.inr (q.apart j i (by omega) hil)
    exact ⟨(World.cell?_of_block (w := w) (a := ⟨G, i, none⟩) e).trans k1, k2.keep hk (fun b h1 h2 h3 => by omega), k3, k4, k5, k6⟩
def totQ (qs : List (List Mono)) : Nat := (qs.map fun p => p.length + tot p).sum
def offQ (qs : List (List Mono)) (j : Nat) : Int := (totQ (qs.take j) : Int)
theorem totQ_take {qs : List (List Mono)} {j : Nat} {p : List Mono} (h : qs[j]? = some p) : totQ (qs.take (j + 1)) = totQ (qs.take j) + (p.length + tot p) := by
  unfold totQ
  rw [List.take_add_one, h]
  simp
theorem totQ_le (qs : List (List Mono)) (j : Nat) : totQ (qs.take j) ≤ totQ qs := by
  have h : totQ qs = totQ (qs.take j) + totQ (qs.drop j) := by
    unfold totQ
    conv => lhs; rw [← List.take_append_drop j qs]
    rw [List.map_append, List.sum_append]
  omega
theorem totQ_one {qs : List (List Mono)} {j : Nat} {p : List Mono} (h : qs[j]? = some p) : p.length + tot p ≤ totQ qs := by
  have h1 := totQ_take h
  have h2 := totQ_le qs (j + 1)
  omega
def markQ (qs : List (List Mono)) (k : Int) : List (List Mono) := qs.mapIdx fun j p => markP p (k + offQ qs j)
def mixQ (qs : List (List Mono)) (k : Int) (n : Nat) : List (List Mono) := qs.mapIdx fun j p => if j < n then markP p (k + offQ qs j) else p
theorem markQ_at {qs : List (List Mono)} {k : Int} {j : Nat} {p : List Mono} (h : qs[j]? = some p) : (markQ qs k)[j]? = some (markP p (k + offQ qs j)) := by unfold markQ; rw [List.getElem?_mapIdx, h]; rfl
theorem mixQ_at {qs : List (List Mono)} {k : Int} {n j : Nat} {p : List Mono} (h : qs[j]? = some p) : (mixQ qs k n)[j]? = some (if j < n then markP p (k + offQ qs j) else p) := by unfold mixQ; rw [List.getElem?_mapIdx, h]; rfl
theorem mixQ_len (qs : List (List Mono)) (k : Int) (n : Nat) : (mixQ qs k n).length = qs.length := by unfold mixQ; rw [List.length_mapIdx]
theorem markQ_len (qs : List (List Mono)) (k : Int) : (markQ qs k).length = qs.length := by unfold markQ; rw [List.length_mapIdx]
theorem mixQ_zero (qs : List (List Mono)) (k : Int) : mixQ qs k 0 = qs := by
  apply List.ext_getElem?
  intro j
  unfold mixQ
  rw [List.getElem?_mapIdx]
  cases qs[j]? <;> simp
theorem mixQ_whole (qs : List (List Mono)) (k : Int) : mixQ qs k qs.length = markQ qs k := by
  apply List.ext_getElem?
  intro j
  unfold mixQ markQ
  rw [List.getElem?_mapIdx, List.getElem?_mapIdx]
  cases e : qs[j]? with
  | none => rfl
  | some p =>
    have hj := (List.getElem?_eq_some_iff.1 e).1
    simp [hj]
theorem mixQ_next {qs : List (List Mono)} {k : Int} {n : Nat} {p : List Mono} (h : qs[n]? = some p) : (mixQ qs k n).set n (markP p (k + offQ qs n)) = mixQ qs k (n + 1) := by
  have hn := (List.getElem?_eq_some_iff.1 h).1
  apply List.ext_getElem?
  intro j
  by_cases e : n = j
  · subst e
    rw [List.getElem?_set_self (by rw [mixQ_len]; exact hn), mixQ_at h, if_pos (by omega)]
  · rw [List.getElem?_set_ne e]
    unfold mixQ
    rw [List.getElem?_mapIdx, List.getElem?_mapIdx]
    cases qs[j]? with
    | none => rfl
    | some x =>
      by_cases h1 : j < n
      · simp [h1, show j < n + 1 by omega]
      · simp [h1, show ¬ j < n + 1 by omega]
set_option maxRecDepth 8000 in
set_option maxHeartbeats 4000000 in
theorem eqTrmPolyS (qs : List (List Mono)) (B B' : Nat) (v v' : Value) (w : World) (h : QRow w B v qs) (h' : QRow w B' v' qs) :
    Calls Try.prog 28 #[v, v'] w fun e w' => e = .returned (.bool true) ∧ Below w.heap.size w w' := by
  obtain ⟨a, cap, off, rfl, h2, h3, hz, h4⟩ := h
  obtain ⟨a', cap', off', rfl, h2', h3', hz', h4'⟩ := h'
  unfold maxLen at h3 h3'
  clear hz hz'
  obtain ⟨n, en⟩ : ∃ n, qs.length = n := ⟨_, rfl⟩
  have EN := hide en
  rw [en] at h2 h2' ⊢
  have H4 := hide h4
  have H4' := hide h4'
  have nn : ((n : Int) != (n : Int)) = false := by simp
  clear en h4 h4'
  go_enter Try.func28, Try.ntmps28
  by_cases n0 : n = 0
  · subst n0
    go_wp2
    refine wp_loop_rounds 1 ?_
    rw [rounds_succ]
    go_wp2
    go_ret
    exact ⟨rfl, Below.refl _ _⟩
  · obtain ⟨rfl, hc⟩ := H4.out.resolve_left (fun e => n0 (by rw [← EN.out, e]; rfl))
    obtain ⟨rfl, hc'⟩ := H4'.out.resolve_left (fun e => n0 (by rw [← EN.out, e]; rfl))
    have HC := hide hc
    have HC' := hide hc'
    clear hc hc' H4 H4'
    go_wp2
    go_loopw [5] (fun i wr => ∃ k : Nat, k ≤ n ∧ i = .int .i64 k ∧ Hid (Below w.heap.size w wr)) (fun i _ => n - (intOf i).toNat)
    case atStart => exact ⟨0, by omega, rfl, Below.refl _ _⟩
    case round =>
      obtain ⟨k, hk, rfl, HB⟩ := hrel
      by_cases hlt : k < n
      · obtain ⟨p, ep⟩ : ∃ p, qs[k]? = some p := ⟨_, List.getElem?_eq_getElem (by rw [EN.out]; exact hlt)⟩
        obtain ⟨q, c, b, c0, px⟩ := HC.out k p ep
        obtain ⟨q', c', b', c0', px'⟩ := HC'.out k p ep
        replace c0 := cell_below HB.out c0
        replace c0' := cell_below HB.out c0'
        have HB2 : Hid (Below w.heap.size w wr.drew) := HB.out.drew
        have PX := hide ((px.below HB.out).below (Below.refl _ _).drew)
        have PX' := hide ((px'.below HB.out).below (Below.refl _ _).drew)
        have lk : ((k : Nat) : Int) < (n : Nat) := by omega
        clear ep px px'
        go_wp2_with fail
        refine region_tail 8 (by kernel_rfl) (by kernel_rfl) ?_
        simp only [List.take_succ_cons, List.take_zero, List.drop_succ_cons, List.drop_zero]
        repeat still_step
        refine wpStill_nil ?_
        go_wp2_with fail
        refine (eqTrmPoly p _ _ _ _ _ PX.out PX'.out).mono ?_
        rintro e u ⟨rfl, hb⟩
        have HB3 := hide (HB2.out.trans (hb.mono HB2.out.size))
        clear hb
        go_wp2
        exact ⟨⟨k + 1, by omega, by go_num, HB3⟩, by simp [intOf]; omega⟩
      · go_wp2
        go_ret
        exact ⟨rfl, HB.out⟩
theorem offs_fullQ (ps : List Mono) : offs ps ps.length = (ps.length : Int) + (tot ps : Int) := by unfold offs; rw [List.take_length]
set_option maxRecDepth 8000 in
set_option maxHeartbeats 4000000 in
theorem markTrmPolyS (qs : List (List Mono)) (k : Int) (lo hi : Nat) (a : Option Addr) (G cap : Nat) (l hh : Nat → Nat) (s : Nat → Value) (w : World) (h : WQ w lo hi a G cap l hh s qs) (hs : totQ qs ≤ 1000000000) (k0 : 0 ≤ k) (k1 : k ≤ 10000000000) :
    Calls Try.prog 40 #[.slice a qs.length cap, .int .i64 k] w fun e w' => e = .returned (.int .i64 (k + (totQ qs : Int))) ∧ WQ w' lo hi a G cap l hh s (markQ qs k) ∧ Keep (fun b => ∃ i, i < qs.length ∧ l i ≤ b ∧ b < hh i) w w' := by
  have h2 := h.le
  have h3 := h.mx
  unfold maxLen at h3
  obtain ⟨n, en⟩ : ∃ n, qs.length = n := ⟨_, rfl⟩
  have EN := hide en
  have HS := hide hs
  have H0 : Hid (WQ w lo hi a G cap l hh s (mixQ qs k 0)) := show WQ _ _ _ _ _ _ _ _ _ _ by rw [mixQ_zero]; exact h
  obtain ⟨SS, eS⟩ : ∃ SS : Nat → Prop, (fun b => ∃ i, i < qs.length ∧ l i ≤ b ∧ b < hh i) = SS := ⟨_, rfl⟩
  have SH : Hid (∀ i b, i < n → l i ≤ b → b < hh i → SS b) := fun i b h1 h2 h3 => by rw [← eS]; exact ⟨i, by rw [en]; exact h1, h2, h3⟩
  rw [eS]
  clear eS
  rw [en] at h2 ⊢
  have HA := hide h.at_
  clear en hs h
  go_enter Try.func40, Try.ntmps40
  go_wp2
  go_loopw [1, 5] (fun kv i wr => ∃ j : Nat, j ≤ n ∧ i = .int .i64 j ∧ kv = .int .i64 (k + (totQ (qs.take j) : Int)) ∧ Hid (WQ wr lo hi a G cap l hh s (mixQ qs k j)) ∧ Hid (Keep SS w wr)) (fun _ i _ => n - (intOf i).toNat)
  case atStart => exact ⟨0, by omega, rfl, by simp [totQ], H0, Keep.refl _ _⟩
  case round =>
    obtain ⟨j, hj, rfl, rfl, HB, HK⟩ := hrel
    by_cases hlt : j < n
    · obtain ⟨p, ep⟩ : ∃ p, qs[j]? = some p := ⟨_, List.getElem?_eq_getElem (by rw [EN.out]; exact hlt)⟩
      have em : (mixQ qs k j)[j]? = some p := by rw [mixQ_at ep, if_neg (by omega)]
      obtain ⟨c0, c1, q1, q2, q3, q4⟩ := HB.out.cells j p em
      obtain ⟨rfl, _⟩ := HA.out.resolve_left (fun e => by rw [e] at ep; simp at ep)
      have T1 := totQ_take ep
      have T2 := totQ_one ep
      have T3 := totQ_le qs j
      have HP := hide c1
      have Q : Hid (lo ≤ l j ∧ l j ≤ hh j ∧ hh j ≤ hi) := ⟨q1, q2, q3⟩
      have sf : ∃ q c, s j = .slice q p.length c := by
        obtain ⟨q', _, c', _, _, e1, _⟩ := c1
        exact ⟨q', c', e1⟩
      obtain ⟨qa, ca, es⟩ := sf
      rw [es] at c0
      have ES := hide es
      have tt0 : (totQ (qs.take j) : Int) ≤ 1000000000 := by have := HS.out; omega
      have pp0 : p.length + tot p ≤ 1000000000 := by have := HS.out; omega
      obtain ⟨tj, etj⟩ : ∃ tj : Nat, totQ (qs.take j) = tj := ⟨_, rfl⟩
      have ETJ := hide etj
      have lj : ((j : Nat) : Int) < (n : Nat) := by omega
      rw [etj] at tt0 ⊢
      clear c1 q1 q2 q3 q4 T2 T3 etj es
      have T1h := hide T1
      clear T1
      go_wp2_with fail
      refine (markTrmMonoS p (k + (tj : Int)) (l j) (hh j) _ _ (ES.out ▸ HP.out) pp0 (by omega) (by omega)).mono ?_
      rintro e u ⟨rfl, hx, hk⟩
      have NX := HB.out.mark em hk (by rw [ES.out]; exact hx)
      have NK := HK.out.trans (hk.mono (fun b _ hb => SH.out j b hlt hb.1 hb.2))
      have MX := mixQ_next (k := k) ep
      rw [show offQ qs j = (tj : Int) by unfold offQ; rw [ETJ.out]] at MX
      rw [MX] at NX
      have NXh := hide NX
      have NKh := hide NK
      have KV : Hid (k + (tj : Int) + offs p p.length = k + (totQ (qs.take (j + 1)) : Int)) := show _ = _ by
        have := T1h.out
        rw [ETJ.out] at this
        rw [offs_fullQ, this]
        push_cast
        omega
      clear NX NK MX hx hk HB HK
      rw [KV.out]
      go_wp2
      exact ⟨⟨j + 1, by omega, by go_num, rfl, NXh, NKh⟩, by simp [intOf]; omega⟩
    · obtain rfl : j = n := by omega
      have FIN : Hid (WQ wr lo hi a G cap l hh s (markQ qs k)) := by
        have := HB.out
        rw [← EN.out, mixQ_whole] at this
        exact this
      have KV : Hid ((totQ (qs.take j) : Int) = totQ qs) := show _ = _ by rw [← EN.out, List.take_length]
      rw [KV.out]
      go_wp2
      go_ret
      exact ⟨rfl, FIN.out, HK.out⟩
end Go.Proofs.Ytclccaigkcilcaa.Pol
