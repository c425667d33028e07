/-
  Slices of sums: what it is that one holds them, that the call made one; contracts of the laws' own eqTrmPolyS, markTrmPolyS, heldTrmPolyS.
  Sums in a slice that the call made: what it is, how one more is put behind; the law's own heldTrmPolyS.
  The law's own heldTrmPolyS.
-/
import Derived.Test.YtnlfcocejkaieaaJ07
import Derived.Test.YtnlfcocejkaieaaJ06
import Derived.Test.YtnlfcocejkaieaaJ02
namespace Go.Proofs.Ytnlfcocejkaieaa.Pol
set_option linter.unusedVariables false
set_option linter.unusedSimpArgs false
open Go.ChangeShapes Go.WideShapes Go.ChangeAt Go.RowKit IntS
/-- A slice that holds sums. -/
structure QRow (w : World) (B : Nat) (v : Value) (qs : List (List Mono)) : Prop where
  ex : ∃ a cap off, v = .slice a qs.length cap ∧ qs.length ≤ cap ∧ cap ≤ maxLen ∧ (a = none → cap = 0) ∧ (qs = [] ∨ (a = some ⟨B, off, none⟩ ∧ ∀ (i : Nat) p, qs[i]? = some p → ∃ q c b, w.cell? ⟨B, off + i, none⟩ = some (.slice q p.length c) ∧ PRow w b (.slice q p.length c) p))
theorem QRow.below {w w' : World} {B : Nat} {v : Value} {qs : List (List Mono)} (h : QRow w B v qs) (hb : Below w.heap.size w w') : QRow w' B v qs := by
  obtain ⟨a, cap, off, h1, h2, h3, hz, h4⟩ := h
  refine ⟨a, cap, off, h1, h2, h3, hz, h4.imp id fun ⟨e, q⟩ => ⟨e, fun i p hp => ?_⟩⟩
  obtain ⟨x, c, b, k1, k2⟩ := q i p hp
  exact ⟨x, c, b, cell_below hb k1, k2.below hb⟩
/-- Sums whose lists lie in blocks of their own, from block lo on, below hi. -/
structure WQ (w : World) (lo hi : Nat) (a : Option Addr) (G cap : Nat) (l h : Nat → Nat) (s : Nat → Value) (qs : List (List Mono)) : Prop where
  le : qs.length ≤ cap
  mx : cap ≤ maxLen
  nl : a = none → cap = 0
  at_ : qs = [] ∨ (a = some ⟨G, 0, none⟩ ∧ lo ≤ G ∧ G < hi ∧ G < w.heap.size)
  cells : ∀ (i : Nat) p, qs[i]? = some p → w.cell? ⟨G, i, none⟩ = some (s i) ∧ WPoly w (l i) (h i) (s i) p ∧ lo ≤ l i ∧ l i ≤ h i ∧ h i ≤ hi ∧ (h i ≤ G ∨ G < l i)
  apart : ∀ i j : Nat, i < j → j < qs.length → h i ≤ l j
structure WSums (w : World) (lo hi : Nat) (v : Value) (qs : List (List Mono)) : Prop where
  ex : ∃ (a : Option Addr) (G cap : Nat) (l h : Nat → Nat) (s : Nat → Value), v = .slice a qs.length cap ∧ WQ w lo hi a G cap l h s qs
theorem WSums.read {w : World} {lo hi : Nat} {v : Value} {qs : List (List Mono)} (h : WSums w lo hi v qs) : ∃ B, QRow w B v qs := by
  obtain ⟨a, G, cap, l, hh, s, h1, h⟩ := h
  refine ⟨G, a, cap, 0, h1, h.le, h.mx, h.nl, h.at_.imp id (fun q => ⟨q.1, fun i p hp => ?_⟩)⟩
  obtain ⟨k1, k2, _⟩ := h.cells i p hp
  obtain ⟨b, r⟩ := k2.read
  obtain ⟨q', _, c, _, _, e1, _⟩ := k2
  rw [e1] at k1 r
  rw [Nat.zero_add]
  exact ⟨q', c, b, k1, r⟩
theorem WQ.keep {S : Nat → Prop} {w w' : World} {lo hi : Nat} {a : Option Addr} {G cap : Nat} {l h : Nat → Nat} {s : Nat → Value} {qs : List (List Mono)} (q : WQ w lo hi a G cap l h s qs) (hk : Keep S w w') (hS : ∀ b, lo ≤ b → b < hi → ¬ S b) : WQ w' lo hi a G cap l h s qs := by
  refine ⟨q.le, q.mx, q.nl, q.at_.imp id (fun q => ⟨q.1, q.2.1, q.2.2.1, Nat.lt_of_lt_of_le q.2.2.2 hk.size⟩), fun i p hp => ?_, q.apart⟩
  obtain ⟨k1, k2, k3, k4, k5, k6⟩ := q.cells i p hp
  have hG := q.at_.resolve_left (fun e => by rw [e] at hp; simp at hp)
  have e := hk.block G hG.2.2.2 (hS G hG.2.1 hG.2.2.1)
  exact ⟨(World.cell?_of_block (w := w) (a := ⟨G, i, none⟩) e).trans k1, k2.keep hk (fun b h1 h2 => hS b (by omega) (by omega)), k3, k4, k5, k6⟩
theorem WSums.keep {S : Nat → Prop} {w w' : World} {lo hi : Nat} {v : Value} {qs : List (List Mono)} (q : WSums w lo hi v qs) (hk : Keep S w w') (hS : ∀ b, lo ≤ b → b < hi → ¬ S b) : WSums w' lo hi v qs := by
  obtain ⟨a, G, cap, l, h, s, h1, h2⟩ := q
  exact ⟨a, G, cap, l, h, s, h1, h2.keep hk hS⟩
theorem WSums.below {w w' : World} {lo hi : Nat} {v : Value} {qs : List (List Mono)} (h : WSums w lo hi v qs) (hb : Below w.heap.size w w') : WSums w' lo hi v qs := h.keep (Keep.of_below (S := fun _ => False) hb) (fun _ _ _ h => h)
theorem WSums.wide {w : World} {lo hi lo' hi' : Nat} {v : Value} {qs : List (List Mono)} (q : WSums w lo hi v qs) (hl : lo' ≤ lo) (hh : hi ≤ hi') : WSums w lo' hi' v qs := by
  obtain ⟨a, G, cap, l, h, s, h1, q⟩ := q
  refine ⟨a, G, cap, l, h, s, h1, q.le, q.mx, q.nl, q.at_.imp id (fun q => ⟨q.1, by omega, by omega, q.2.2.2⟩), fun i p hp => ?_, q.apart⟩
  obtain ⟨k1, k2, k3, k4, k5, k6⟩ := q.cells i p hp
  exact ⟨k1, k2, by omega, k4, by omega, k6⟩
theorem WQ.mark {w w' : World} {lo hi : Nat} {a : Option Addr} {G cap : Nat} {l h : Nat → Nat} {s : Nat → Value} {qs : List (List Mono)} (q : WQ w lo hi a G cap l h s qs) {j : Nat} {p p' : List Mono} (hp : qs[j]? = some p) (hk : Keep (fun b => l j ≤ b ∧ b < h j) w w') (hx : WPoly w' (l j) (h j) (s j) p') : WQ w' lo hi a G cap l h s (qs.set j p') := by
  have hj := (List.getElem?_eq_some_iff.1 hp).1
  have hG := q.at_.resolve_left (fun e => by rw [e] at hp; simp at hp)
  obtain ⟨_, _, q1, q2, q3, q4⟩ := q.cells j p hp
  have e := hk.block G hG.2.2.2 (fun h3 => by omega)
  refine ⟨by rw [List.length_set]; exact q.le, q.mx, q.nl, Or.inr ⟨hG.1, hG.2.1, hG.2.2.1, Nat.lt_of_lt_of_le hG.2.2.2 hk.size⟩, fun i x hi => ?_, fun i i' e e' => q.apart i i' e (by rw [List.length_set] at e'; exact e')⟩
  by_cases ej : j = i
  · subst ej
    rw [List.getElem?_set_self hj] at hi
    obtain rfl := Option.some.inj hi
    obtain ⟨k1, _, k3⟩ := q.cells j p hp
    exact ⟨(World.cell?_of_block (w := w) (a := ⟨G, j, none⟩) e).trans k1, hx, k3⟩
  · rw [List.getElem?_set_ne ej] at hi
    have hil := (List.getElem?_eq_some_iff.1 hi).1
    obtain ⟨k1, k2, k3, k4, k5, k6⟩ := q.cells i x hi
    have hap : h i ≤ l j ∨ h j ≤ l i := by
      by_cases e2 : i < j
      · exact Or.inl (q.apart i j e2 hj)
      · exact Or.inr (q.apart j i (by omega) hil)
    exact ⟨(World.cell?_of_block (w := w) (a := ⟨G, i, none⟩) e).trans k1, k2.keep hk (fun b h1 h2 h3 => by omega), k3, k4, k5, k6⟩
def totQ (qs : List (List Mono)) : Nat := (qs.map fun p => p.length + tot p).sum
def offQ (qs : List (List Mono)) (j : Nat) : Int := (totQ (qs.take j) : Int)
theorem totQ_take {qs : List (List Mono)} {j : Nat} {p : List Mono} (h : qs[j]? = some p) : totQ (qs.take (j + 1)) = totQ (qs.take j) + (p.length + tot p) := by
  unfold totQ
  rw [List.take_add_one, h]
  simp
theorem totQ_le (qs : List (List Mono)) (j : Nat) : totQ (qs.take j) ≤ totQ qs := by
  have h : totQ qs = totQ (qs.take j) + totQ (qs.drop j) := by
    unfold totQ
    conv => lhs; rw [← List.take_append_drop j qs]
    rw [List.map_append, List.sum_append]
  omega
theorem totQ_one {qs : List (List Mono)} {j : Nat} {p : List Mono} (h : qs[j]? = some p) : p.length + tot p ≤ totQ qs := by
  have h1 := totQ_take h
  have h2 := totQ_le qs (j + 1)
  omega
def markQ (qs : List (List Mono)) (k : Int) : List (List Mono) := qs.mapIdx fun j p => markP p (k + offQ qs j)
def mixQ (qs : List (List Mono)) (k : Int) (n : Nat) : List (List Mono) := qs.mapIdx fun j p => if j < n then markP p (k + offQ qs j) else p
theorem markQ_at {qs : List (List Mono)} {k : Int} {j : Nat} {p : List Mono} (h : qs[j]? = some p) : (markQ qs k)[j]? = some (markP p (k + offQ qs j)) := by unfold markQ; rw [List.getElem?_mapIdx, h]; rfl
theorem mixQ_at {qs : List (List Mono)} {k : Int} {n j : Nat} {p : List Mono} (h : qs[j]? = some p) : (mixQ qs k n)[j]? = some (if j < n then markP p (k + offQ qs j) else p) := by unfold mixQ; rw [List.getElem?_mapIdx, h]; rfl
theorem mixQ_len (qs : List (List Mono)) (k : Int) (n : Nat) : (mixQ qs k n).length = qs.length := by unfold mixQ; rw [List.length_mapIdx]
theorem markQ_len (qs : List (List Mono)) (k : Int) : (markQ qs k).length = qs.length := by unfold markQ; rw [List.length_mapIdx]
theorem mixQ_zero (qs : List (List Mono)) (k : Int) : mixQ qs k 0 = qs := by
  apply List.ext_getElem?
  intro j
  unfold mixQ
  rw [List.getElem?_mapIdx]
  cases qs[j]? <;> simp
theorem mixQ_whole (qs : List (List Mono)) (k : Int) : mixQ qs k qs.length = markQ qs k := by
  apply List.ext_getElem?
  intro j
  unfold mixQ markQ
  rw [List.getElem?_mapIdx, List.getElem?_mapIdx]
  cases e : qs[j]? with
  | none => rfl
  | some p =>
    have hj := (List.getElem?_eq_some_iff.1 e).1
    simp [hj]
theorem mixQ_next {qs : List (List Mono)} {k : Int} {n : Nat} {p : List Mono} (h : qs[n]? = some p) : (mixQ qs k n).set n (markP p (k + offQ qs n)) = mixQ qs k (n + 1) := by
  have hn := (List.getElem?_eq_some_iff.1 h).1
  apply List.ext_getElem?
  intro j
  by_cases e : n = j
  · subst e
    rw [List.getElem?_set_self (by rw [mixQ_len]; exact hn), mixQ_at h, if_pos (by omega)]
  · rw [List.getElem?_set_ne e]
    unfold mixQ
    rw [List.getElem?_mapIdx, List.getElem?_mapIdx]
    cases qs[j]? with
    | none => rfl
    | some x =>
      by_cases h1 : j < n
      · simp [h1, show j < n + 1 by omega]
      · simp [h1, show ¬ j < n + 1 by omega]
set_option maxRecDepth 8000 in
set_option maxHeartbeats 4000000 in
theorem eqTrmPolyS (qs : List (List Mono)) (B B' : Nat) (v v' : Value) (w : World) (h : QRow w B v qs) (h' : QRow w B' v' qs) :
    Calls Try.prog 7 #[v, v'] w fun e w' => e = .returned (.bool true) ∧ Below w.heap.size w w' := by
  obtain ⟨a, cap, off, rfl, h2, h3, hz, h4⟩ := h
  obtain ⟨a', cap', off', rfl, h2', h3', hz', h4'⟩ := h'
  unfold maxLen at h3 h3'
  clear hz hz'
  obtain ⟨n, en⟩ : ∃ n, qs.length = n := ⟨_, rfl⟩
  have EN := hide en
  rw [en] at h2 h2' ⊢
  have H4 := hide h4
  have H4' := hide h4'
  have nn : ((n : Int) != (n : Int)) = false := by simp
  clear en h4 h4'
  go_enter Try.func7, Try.ntmps7
  by_cases n0 : n = 0
  · subst n0
    go_wp2
    refine wp_loop_rounds 1 ?_
    rw [rounds_succ]
    go_wp2
    go_ret
    exact ⟨rfl, Below.refl _ _⟩
  · obtain ⟨rfl, hc⟩ := H4.out.resolve_left (fun e => n0 (by rw [← EN.out, e]; rfl))
    obtain ⟨rfl, hc'⟩ := H4'.out.resolve_left (fun e => n0 (by rw [← EN.out, e]; rfl))
    have HC := hide hc
    have HC' := hide hc'
    clear hc hc' H4 H4'
    go_wp2
    go_loopw [5] (fun i wr => ∃ k : Nat, k ≤ n ∧ i = .int .i64 k ∧ Hid (Below w.heap.size w wr)) (fun i _ => n - (intOf i).toNat)
    case atStart => exact ⟨0, by omega, rfl, Below.refl _ _⟩
    case round =>
      obtain ⟨k, hk, rfl, HB⟩ := hrel
      by_cases hlt : k < n
      · obtain ⟨p, ep⟩ : ∃ p, qs[k]? = some p := ⟨_, List.getElem?_eq_getElem (by rw [EN.out]; exact hlt)⟩
        obtain ⟨q, c, b, c0, px⟩ := HC.out k p ep
        obtain ⟨q', c', b', c0', px'⟩ := HC'.out k p ep
        replace c0 := cell_below HB.out c0
        replace c0' := cell_below HB.out c0'
        have HB2 : Hid (Below w.heap.size w wr.drew) := HB.out.drew
        have PX := hide ((px.below HB.out).below (Below.refl _ _).drew)
        have PX' := hide ((px'.below HB.out).below (Below.refl _ _).drew)
        have lk : ((k : Nat) : Int) < (n : Nat) := by omega
        clear ep px px'
        go_wp2_with fail
        refine region_tail 8 (by kernel_rfl) (by kernel_rfl) ?_
        simp only [List.take_succ_cons, List.take_zero, List.drop_succ_cons, List.drop_zero]
        repeat still_step
        refine wpStill_nil ?_
        go_wp2_with fail
        refine (eqTrmPoly p _ _ _ _ _ PX.out PX'.out).mono ?_
        rintro e u ⟨rfl, hb⟩
        have HB3 := hide (HB2.out.trans (hb.mono HB2.out.size))
        clear hb
        go_wp2
        exact ⟨⟨k + 1, by omega, by go_num, HB3⟩, by simp [intOf]; omega⟩
      · go_wp2
        go_ret
        exact ⟨rfl, HB.out⟩
theorem offs_fullQ (ps : List Mono) : offs ps ps.length = (ps.length : Int) + (tot ps : Int) := by unfold offs; rw [List.take_length]
set_option maxRecDepth 8000 in
set_option maxHeartbeats 4000000 in
theorem markTrmPolyS (qs : List (List Mono)) (k : Int) (lo hi : Nat) (a : Option Addr) (G cap : Nat) (l hh : Nat → Nat) (s : Nat → Value) (w : World) (h : WQ w lo hi a G cap l hh s qs) (hs : totQ qs ≤ 1000000000) (k0 : 0 ≤ k) (k1 : k ≤ 10000000000) :
    Calls Try.prog 9 #[.slice a qs.length cap, .int .i64 k] w fun e w' => e = .returned (.int .i64 (k + (totQ qs : Int))) ∧ WQ w' lo hi a G cap l hh s (markQ qs k) ∧ Keep (fun b => ∃ i, i < qs.length ∧ l i ≤ b ∧ b < hh i) w w' := by
  have h2 := h.le
  have h3 := h.mx
  unfold maxLen at h3
  obtain ⟨n, en⟩ : ∃ n, qs.length = n := ⟨_, rfl⟩
  have EN := hide en
  have HS := hide hs
  have H0 : Hid (WQ w lo hi a G cap l hh s (mixQ qs k 0)) := show WQ _ _ _ _ _ _ _ _ _ _ by rw [mixQ_zero]; exact h
  obtain ⟨SS, eS⟩ : ∃ SS : Nat → Prop, (fun b => ∃ i, i < qs.length ∧ l i ≤ b ∧ b < hh i) = SS := ⟨_, rfl⟩
  have SH : Hid (∀ i b, i < n → l i ≤ b → b < hh i → SS b) := fun i b h1 h2 h3 => by rw [← eS]; exact ⟨i, by rw [en]; exact h1, h2, h3⟩
  rw [eS]
  clear eS
  rw [en] at h2 ⊢
  have HA := hide h.at_
  clear en hs h
  go_enter Try.func9, Try.ntmps9
  go_wp2
  go_loopw [1, 5] (fun kv i wr => ∃ j : Nat, j ≤ n ∧ i = .int .i64 j ∧ kv = .int .i64 (k + (totQ (qs.take j) : Int)) ∧ Hid (WQ wr lo hi a G cap l hh s (mixQ qs k j)) ∧ Hid (Keep SS w wr)) (fun _ i _ => n - (intOf i).toNat)
  case atStart => exact ⟨0, by omega, rfl, by simp [totQ], H0, Keep.refl _ _⟩
  case round =>
    obtain ⟨j, hj, rfl, rfl, HB, HK⟩ := hrel
    by_cases hlt : j < n
    · obtain ⟨p, ep⟩ : ∃ p, qs[j]? = some p := ⟨_, List.getElem?_eq_getElem (by rw [EN.out]; exact hlt)⟩
      have em : (mixQ qs k j)[j]? = some p := by rw [mixQ_at ep, if_neg (by omega)]
      obtain ⟨c0, c1, q1, q2, q3, q4⟩ := HB.out.cells j p em
      obtain ⟨rfl, _⟩ := HA.out.resolve_left (fun e => by rw [e] at ep; simp at ep)
      have T1 := totQ_take ep
      have T2 := totQ_one ep
      have T3 := totQ_le qs j
      have HP := hide c1
      have Q : Hid (lo ≤ l j ∧ l j ≤ hh j ∧ hh j ≤ hi) := ⟨q1, q2, q3⟩
      have sf : ∃ q c, s j = .slice q p.length c := by
        obtain ⟨q', _, c', _, _, e1, _⟩ := c1
        exact ⟨q', c', e1⟩
      obtain ⟨qa, ca, es⟩ := sf
      rw [es] at c0
      have ES := hide es
      have tt0 : (totQ (qs.take j) : Int) ≤ 1000000000 := by have := HS.out; omega
      have pp0 : p.length + tot p ≤ 1000000000 := by have := HS.out; omega
      obtain ⟨tj, etj⟩ : ∃ tj : Nat, totQ (qs.take j) = tj := ⟨_, rfl⟩
      have ETJ := hide etj
      have lj : ((j : Nat) : Int) < (n : Nat) := by omega
      rw [etj] at tt0 ⊢
      clear c1 q1 q2 q3 q4 T2 T3 etj es
      have T1h := hide T1
      clear T1
      go_wp2_with fail
      refine (markTrmMonoS p (k + (tj : Int)) (l j) (hh j) _ _ (ES.out ▸ HP.out) pp0 (by omega) (by omega)).mono ?_
      rintro e u ⟨rfl, hx, hk⟩
      have NX := HB.out.mark em hk (by rw [ES.out]; exact hx)
      have NK := HK.out.trans (hk.mono (fun b _ hb => SH.out j b hlt hb.1 hb.2))
      have MX := mixQ_next (k := k) ep
      rw [show offQ qs j = (tj : Int) by unfold offQ; rw [ETJ.out]] at MX
      rw [MX] at NX
      have NXh := hide NX
      have NKh := hide NK
      have KV : Hid (k + (tj : Int) + offs p p.length = k + (totQ (qs.take (j + 1)) : Int)) := show _ = _ by
        have := T1h.out
        rw [ETJ.out] at this
        rw [offs_fullQ, this]
        push_cast
        omega
      clear NX NK MX hx hk HB HK
      rw [KV.out]
      go_wp2
      exact ⟨⟨j + 1, by omega, by go_num, rfl, NXh, NKh⟩, by simp [intOf]; omega⟩
    · obtain rfl : j = n := by omega
      have FIN : Hid (WQ wr lo hi a G cap l hh s (markQ qs k)) := by
        have := HB.out
        rw [← EN.out, mixQ_whole] at this
        exact this
      have KV : Hid ((totQ (qs.take j) : Int) = totQ qs) := show _ = _ by rw [← EN.out, List.take_length]
      rw [KV.out]
      go_wp2
      go_ret
      exact ⟨rfl, FIN.out, HK.out⟩
end Go.Proofs.Ytnlfcocejkaieaa.Pol
namespace Go.Proofs.Ytnlfcocejkaieaa.Pol
set_option linter.unusedVariables false
set_option linter.unusedSimpArgs false
open Go.ChangeShapes Go.WideShapes Go.ChangeAt Go.RowKit IntS Push
theorem infoSum : ∃ i, Try.prog.info? 35 = some i ∧ i.zero = some (.agg #[.slice none 0 0]) ∧ i.size = 1 ∧ i.bytes = 24 := by
  have hinfo : (Try.prog.info? 35).map (fun i => (i.zero, i.size, i.bytes)) = some (some (.agg #[.slice none 0 0]), 1, 24) := by kernel_rfl
  obtain ⟨i, hi, h⟩ := Option.map_eq_some_iff.1 hinfo
  simp only [Prod.mk.injEq] at h
  exact ⟨i, hi, h.1, h.2.1, h.2.2⟩
def OwnS (w : World) (lo : Nat) (v : Value) (ss : List Value) : Prop := w.ownsRow lo 35 1 v ss.length ss
theorem OwnS.cells {w : World} {lo G n cap : Nat} {ss : List Value} (h : OwnS w lo (.slice (some ⟨G, 0, none⟩) n cap) ss) : n = ss.length ∧ (∀ (i : Nat) s, ss[i]? = some s → w.cell? ⟨G, i, none⟩ = some s) ∧ ∀ i, w.frozen? ⟨G, i, none⟩ = false := by
  obtain ⟨hl, h0 | ⟨g', cap', cur, hv, hb, hh, hle, hm, hc, ht⟩⟩ := h
  · exact absurd h0.1 (by simp)
  · cases hv
    refine ⟨rfl, fun j u hu => ?_, fun i => ?_⟩
    · have hj : j < ss.length := (List.getElem?_eq_some_iff.1 hu).1
      rw [← ht, List.getElem?_take, if_pos (by omega)] at hu
      unfold World.cell?
      simp only [hh]
      simpa using hu
    · unfold World.frozen?
      simp [hh]
/-- Sums in a slice that the call made, from block lo on. -/
structure OSums (w : World) (lo : Nat) (q : Option Addr) (cap : Nat) (ss : List Value) (l h : Nat → Nat) (qs : List (List Mono)) : Prop where
  own : OwnS w lo (.slice q qs.length cap) ss
  len : ss.length = qs.length
  rows : ∀ (i : Nat) p, qs[i]? = some p → ∃ s, ss[i]? = some s ∧ WPoly w (l i) (h i) s p ∧ lo ≤ l i ∧ l i ≤ h i ∧ h i ≤ w.heap.size ∧ (∀ G, q = some ⟨G, 0, none⟩ → G < l i ∨ h i ≤ G)
  inc : ∀ i j : Nat, i < j → j < qs.length → h i ≤ l j
theorem OSums.q_lt {w : World} {lo cap : Nat} {q : Option Addr} {ss : List Value} {l h : Nat → Nat} {qs : List (List Mono)} (H : OSums w lo q cap ss l h qs) {G : Nat} (e : q = some ⟨G, 0, none⟩) : lo ≤ G ∧ G < w.heap.size := by
  subst e
  have := owns_lt H.own
  exact ⟨this.1, this.2.1⟩
theorem OSums.q_form {w : World} {lo cap : Nat} {q : Option Addr} {ss : List Value} {l h : Nat → Nat} {qs : List (List Mono)} (H : OSums w lo q cap ss l h qs) : (q = none ∧ cap = 0 ∧ qs = []) ∨ ∃ G, q = some ⟨G, 0, none⟩ := by
  obtain ⟨_, h0 | ⟨g, cap', cur, hv, _⟩⟩ := H.own
  · injection h0.1 with e1 e2 e3
    exact Or.inl ⟨e1, e3, List.length_eq_zero_iff.1 e2⟩
  · injection hv with e1
    exact Or.inr ⟨g, e1⟩
theorem OSums.turn {w w' : World} {lo cap T : Nat} {q : Option Addr} {ss : List Value} {l h : Nat → Nat} {qs : List (List Mono)} (H : OSums w lo q cap ss l h qs) (ht : Turn T w w') (hT : T < lo ∨ w.heap.size ≤ T) : OSums w' lo q cap ss l h qs := by
  refine ⟨owns_turn H.own ht hT, H.len, fun i p hi => ?_, H.inc⟩
  obtain ⟨s, k1, k2, k4, k5, k7, k8⟩ := H.rows i p hi
  exact ⟨s, k1, k2.keep (Keep.of_turn ht) (fun b h1 h2 (h3 : b = _) => by omega), k4, k5, Nat.le_trans k7 ht.size, k8⟩
theorem OSums.below {w w' : World} {lo cap : Nat} {q : Option Addr} {ss : List Value} {l h : Nat → Nat} {qs : List (List Mono)} (H : OSums w lo q cap ss l h qs) (hb : Below w.heap.size w w') : OSums w' lo q cap ss l h qs := H.turn (T := w.heap.size) (Turn.of_below hb) (Or.inr (Nat.le_refl _))
theorem OSums.nil (w : World) (lo : Nat) : OSums w lo none 0 [] (fun _ => 0) (fun _ => 0) [] := ⟨⟨rfl, Or.inl ⟨rfl, rfl⟩⟩, rfl, fun i t h => by simp at h, fun i j _ h => by simp at h⟩
/-- One more sum behind. -/
theorem OSums.next {u u' : World} {lo cap : Nat} {q : Option Addr} {ss : List Value} {l h : Nat → Nat} {qs : List (List Mono)} (H : OSums u lo q cap ss l h qs) {p : List Mono} {s : Value} {lx hx : Nat} (wx : WPoly u lx hx s p) (h1 : lo ≤ lx) (h2 : lx ≤ hx) (h4 : hx ≤ u.heap.size)
    (hl : ∀ i, i < qs.length → h i ≤ lx) (hq : ∀ G, q = some ⟨G, 0, none⟩ → G < lx) {G' cap' : Nat} (ho : OwnS u' lo (.slice (some ⟨G', 0, none⟩) (qs.length + 1) cap') (ss ++ [s])) (hg : (Value.slice q qs.length cap).ownBlock = some G' ∨ u.heap.size ≤ G') (gr : u.grownBy u' (Value.slice q qs.length cap).ownBlock) :
    OSums u' lo (some ⟨G', 0, none⟩) cap' (ss ++ [s]) (fun i => if i < qs.length then l i else lx) (fun i => if i < qs.length then h i else hx) (qs ++ [p]) := by
  have kp : ∃ T, Turn T u u' ∧ ∀ a b, (∀ G, q = some ⟨G, 0, none⟩ → G < a ∨ b ≤ G) → b ≤ u.heap.size → T < a ∨ b ≤ T := by
    rcases H.q_form with ⟨rfl, rfl, rfl⟩ | ⟨G, rfl⟩
    · refine ⟨u.heap.size, ⟨gr.os, gr.tape, gr.output, gr.size, fun k hk _ => gr.block k hk (by simp [Value.ownBlock])⟩, fun a b _ hb => Or.inr hb⟩
    · exact ⟨G, Turn.of_grown gr, fun a b hb _ => hb G rfl⟩
  obtain ⟨T, ht, hT⟩ := kp
  have gq : q = some ⟨G', 0, none⟩ ∨ u.heap.size ≤ G' := by
    rcases hg with hg | hg
    · rcases H.q_form with ⟨rfl, _, _⟩ | ⟨G, rfl⟩
      · simp [Value.ownBlock] at hg
      · simp [Value.ownBlock] at hg
        subst hg
        exact Or.inl rfl
    · exact Or.inr hg
  refine ⟨by rw [List.length_append]; exact ho, by simp [H.len], fun i z hz => ?_, fun i j hij hj => ?_⟩
  · by_cases e : i < qs.length
    · rw [List.getElem?_append_left e] at hz
      simp only [if_pos e]
      obtain ⟨px, k1, k2, k4, k5, k7, k8⟩ := H.rows i z hz
      have tt := hT (l i) (h i) k8 k7
      refine ⟨px, by rw [List.getElem?_append_left (by rw [H.len]; exact e)]; exact k1, k2.keep (Keep.of_turn ht) (fun b b1 b2 (b3 : b = _) => by omega), k4, k5, Nat.le_trans k7 ht.size, fun G eG => ?_⟩
      obtain rfl : G' = G := by injection eG with e1; injection e1
      rcases gq with gq | gq
      · exact k8 _ gq
      · exact Or.inr (by omega)
    · have ei : i = qs.length := by
        have := (List.getElem?_eq_some_iff.1 hz).1
        simp at this
        omega
      subst ei
      rw [List.getElem?_append_right (Nat.le_refl _), Nat.sub_self] at hz
      obtain rfl := Option.some.inj (show some p = some z from hz)
      simp only [if_neg e]
      have tt := hT lx hx (fun G eG => Or.inl (hq G eG)) h4
      refine ⟨s, by rw [List.getElem?_append_right (by rw [H.len]; omega), H.len, Nat.sub_self]; rfl, wx.keep (Keep.of_turn ht) (fun b b1 b2 (b3 : b = _) => by omega), h1, h2, Nat.le_trans h4 ht.size, fun G eG => ?_⟩
      obtain rfl : G' = G := by injection eG with e1; injection e1
      rcases gq with gq | gq
      · exact Or.inl (hq _ gq)
      · exact Or.inr (by omega)
  · simp only [List.length_append, List.length_singleton] at hj
    have hi : i < qs.length := by omega
    simp only [if_pos hi]
    by_cases e : j < qs.length
    · simp only [if_pos e]
      exact H.inc i j hij e
    · simp only [if_neg e]
      exact hl i hi
theorem OSums.whole {u : World} {lo cap : Nat} {q : Option Addr} {ss : List Value} {l h : Nat → Nat} {qs : List (List Mono)} (H : OSums u lo q cap ss l h qs) : WSums u lo u.heap.size (.slice q qs.length cap) qs := by
  rcases H.q_form with ⟨rfl, rfl, rfl⟩ | ⟨G, rfl⟩
  · exact ⟨none, 0, 0, fun _ => 0, fun _ => 0, fun _ => .slice none 0 0, rfl, Nat.le_refl _, by unfold maxLen; omega, fun _ => rfl, Or.inl rfl, fun i t hi => by simp at hi, fun i j _ hj => by simp at hj⟩
  · obtain ⟨b1, b2, b3, b4⟩ := owns_lt H.own
    obtain ⟨_, hc, hs⟩ := H.own.cells
    refine ⟨some ⟨G, 0, none⟩, G, cap, l, h, fun i => ss.getD i (.slice none 0 0), rfl, b3, b4, (fun e => by cases e), Or.inr ⟨rfl, b1, b2, b2⟩, fun i p hi => ?_, H.inc⟩
    obtain ⟨s, k1, k2, k4, k5, k7, k8⟩ := H.rows i p hi
    simp only [List.getD_eq_getElem?_getD, k1, Option.getD_some]
    refine ⟨hc i _ k1, k2, k4, k5, k7, (k8 G rfl).symm⟩
theorem run_pushS {w : World} {ty : TypeId} {lo cap : Nat} {q : Option Addr} {n : Nat} {ss : List Value} (hown : OwnS w lo (.slice q n cap) ss) (hn : ss.length = n) (hl : n ≤ 1000000) (hlo : lo ≤ w.heap.size) (ad : Addr) (qx : Option Addr) (nx cx : Nat) (c0 : w.cell? (ad.add 0) = some (.slice qx nx cx)) :
    ∃ g' cap' w', (Builtin.append_ #[25, 25] ty #[.slice q n cap, .slice (some ad) 1 1]).run Try.prog w = .ok (.slice (some ⟨g', 0, none⟩) (n + 1) cap') w' ∧ OwnS w' lo (.slice (some ⟨g', 0, none⟩) (n + 1) cap') (ss ++ [.slice qx nx cx]) ∧ ((Value.slice q n cap).ownBlock = some g' ∨ w.heap.size ≤ g') ∧ g' < w'.heap.size ∧ w.grownBy w' (Value.slice q n cap).ownBlock := by
  subst hn
  obtain ⟨i, hi, hz, hsz, hby⟩ := infoSum
  obtain ⟨g', cap', w', h1, h2, h3, h4, h5⟩ := run_push (P := Try.prog) (w := w) lo 25 ty 35 i _ 1 24 Try.underlying25 hi hz hsz hby rfl (by decide) _ ss.length ss hown ad [.slice qx nx cx] rfl (fun j u hu => by
    match j, hu with
    | 0, hu => cases hu; exact c0
    | j + 1, hu => simp at hu) (fun u hu => by simp at hu; subst hu; rfl) (by unfold maxLen; omega) (by omega) hlo
  refine ⟨g', cap', w', h1, ?_, h3, h4, h5⟩
  unfold OwnS
  rw [List.length_append]
  exact h2
end Go.Proofs.Ytnlfcocejkaieaa.Pol
namespace Go.Proofs.Ytnlfcocejkaieaa.Pol
set_option linter.unusedVariables false
set_option linter.unusedSimpArgs false
open Go.ChangeShapes Go.WideShapes Go.ChangeAt Go.RowKit IntS
set_option maxRecDepth 8000 in
set_option maxHeartbeats 4000000 in
theorem heldTrmPolyS (qs : List (List Mono)) (k : Int) (B : Nat) (v : Value) (w : World) (h : QRow w B v (markQ qs k)) (hs : totQ qs ≤ 1000000000) (k0 : 0 ≤ k) (k1 : k ≤ 10000000000) :
    Calls Try.prog 11 #[v, .int .i64 k] w fun e w' => e = .returned (.int .i64 (k + (totQ qs : Int))) ∧ Below w.heap.size w w' := by
  obtain ⟨a, cap, off, rfl, h2, h3, hz, h4⟩ := h
  rw [markQ_len] at h2 ⊢
  unfold maxLen at h3
  clear hz
  obtain ⟨n, en⟩ : ∃ n, qs.length = n := ⟨_, rfl⟩
  have EN := hide en
  have HS := hide hs
  rw [en] at h2 ⊢
  have H4 := hide h4
  clear en h4 hs
  go_enter Try.func11, Try.ntmps11
  go_wp2
  go_loopw [1, 5] (fun kv i wr => ∃ j : Nat, j ≤ n ∧ i = .int .i64 j ∧ kv = .int .i64 (k + (totQ (qs.take j) : Int)) ∧ Hid (Below w.heap.size w wr)) (fun _ i _ => n - (intOf i).toNat)
  case atStart => exact ⟨0, by omega, rfl, by simp [totQ], Below.refl _ _⟩
  case round =>
    obtain ⟨j, hj, rfl, rfl, HB⟩ := hrel
    by_cases hlt : j < n
    · obtain ⟨p, ep⟩ : ∃ p, qs[j]? = some p := ⟨_, List.getElem?_eq_getElem (by rw [EN.out]; exact hlt)⟩
      have em := markQ_at (k := k) ep
      obtain ⟨rfl, hc⟩ := H4.out.resolve_left (fun e => by rw [e] at em; simp at em)
      obtain ⟨q, c, b, c0, px⟩ := hc j _ em
      replace c0 := cell_below HB.out c0
      have T1 := totQ_take ep
      have T2 := totQ_one ep
      have T3 := totQ_le qs j
      have tt0 : (totQ (qs.take j) : Int) ≤ 1000000000 := by have := HS.out; omega
      have pp0 : p.length + tot p ≤ 1000000000 := by have := HS.out; omega
      obtain ⟨tj, etj⟩ : ∃ tj : Nat, totQ (qs.take j) = tj := ⟨_, rfl⟩
      have eo : offQ qs j = (tj : Int) := by unfold offQ; rw [etj]
      rw [eo] at px c0
      have PX := hide (px.below HB.out)
      have ETJ := hide etj
      have lj : ((j : Nat) : Int) < (n : Nat) := by omega
      rw [etj] at tt0 ⊢
      have T1h := hide T1
      have tjp : (0 : Int) ≤ (p.length : Int) + (tot p : Int) := by omega
      clear px em ep T1 T2 T3 etj eo hc
      go_wp2_with fail
      refine (heldTrmMonoS p (k + (tj : Int)) _ _ _ PX.out pp0 (by omega) (by omega)).mono ?_
      rintro e u ⟨rfl, hb⟩
      have HB3 := hide (HB.out.trans (hb.mono HB.out.size))
      have KV : k + (tj : Int) + offs p p.length = k + (totQ (qs.take (j + 1)) : Int) := by
        have := T1h.out
        rw [ETJ.out] at this
        rw [offs_fullQ, this]
        push_cast
        omega
      have KP : ¬ (k + (totQ (qs.take (j + 1)) : Int)) < 0 := by omega
      rw [KV]
      clear hb KV HB PX
      go_wp2
      exact ⟨⟨j + 1, by omega, by go_num, rfl, HB3⟩, by simp [intOf]; omega⟩
    · obtain rfl : j = n := by omega
      have KV : Hid ((totQ (qs.take j) : Int) = totQ qs) := show _ = _ by rw [← EN.out, List.take_length]
      rw [KV.out]
      go_wp2
      go_ret
      exact ⟨rfl, HB.out⟩
end Go.Proofs.Ytnlfcocejkaieaa.Pol
