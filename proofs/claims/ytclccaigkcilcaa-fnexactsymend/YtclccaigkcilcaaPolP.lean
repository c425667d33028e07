/-
  Contracts of the laws' own markTrmPoly and heldTrmPoly: what is marked is held, and nothing else has turned.
-/
import Derived.Test.YtclccaigkcilcaaPolK
namespace Go.Proofs.Ytclccaigkcilcaa.Pol
open Go.ChangeShapes Go.WideShapes Go.ChangeAt Go.RowKit IntS
/-- The number at which a part's marks begin. -/
def offs (ps : List Mono) (j : Nat) : Int := (j : Int) + (tot (ps.take j) : Int)
theorem offs_next {ps : List Mono} {j : Nat} {x : Mono} (h : ps[j]? = some x) : offs ps (j + 1) = offs ps j + 1 + (x.2.length : Int) := by
  unfold offs
  rw [tot_next h]
  omega
def markAt (ps : List Mono) (k : Int) (j : Nat) (x : Mono) : Mono := (k + offs ps j, marks (k + offs ps j + 1) x.2.length)
/-- A sum whose parts are marked up to a place. -/
def mixP (ps : List Mono) (k : Int) (n : Nat) : List Mono := ps.mapIdx fun j x => if j < n then markAt ps k j x else x
def markP (ps : List Mono) (k : Int) : List Mono := ps.mapIdx fun j x => markAt ps k j x
theorem mark_at {ps : List Mono} {k : Int} {j : Nat} {x : Mono} (h : ps[j]? = some x) : (markP ps k)[j]? = some (markAt ps k j x) := by unfold markP; rw [List.getElem?_mapIdx, h]; rfl
theorem mix_at {ps : List Mono} {k : Int} {n j : Nat} {x : Mono} (h : ps[j]? = some x) : (mixP ps k n)[j]? = some (if j < n then markAt ps k j x else x) := by unfold mixP; rw [List.getElem?_mapIdx, h]; rfl
theorem mix_len (ps : List Mono) (k : Int) (n : Nat) : (mixP ps k n).length = ps.length := by unfold mixP; rw [List.length_mapIdx]
theorem mark_len (ps : List Mono) (k : Int) : (markP ps k).length = ps.length := by unfold markP; rw [List.length_mapIdx]
theorem mix_none {ps : List Mono} {k : Int} {n j : Nat} (h : ps[j]? = none) : (mixP ps k n)[j]? = none := by unfold mixP; rw [List.getElem?_mapIdx, h]; rfl
theorem mix_zero (ps : List Mono) (k : Int) : mixP ps k 0 = ps := by
  apply List.ext_getElem?
  intro j
  cases h : ps[j]? with
  | none => exact mix_none h
  | some x => rw [mix_at h, if_neg (by omega)]
theorem mix_whole (ps : List Mono) (k : Int) : mixP ps k ps.length = markP ps k := by
  apply List.ext_getElem?
  intro j
  cases h : ps[j]? with
  | none => rw [mix_none h]; unfold markP; rw [List.getElem?_mapIdx, h]; rfl
  | some x => rw [mix_at h, mark_at h, if_pos (List.getElem?_eq_some_iff.1 h).1]
theorem mix_next {ps : List Mono} {k : Int} {n : Nat} {x : Mono} (h : ps[n]? = some x) : (mixP ps k n).set n (markAt ps k n x) = mixP ps k (n + 1) := by
  apply List.ext_getElem?
  intro j
  by_cases e : j = n
  · subst e
    rw [List.getElem?_set_self (by rw [mix_len]; exact (List.getElem?_eq_some_iff.1 h).1), mix_at h, if_pos (by omega)]
  · rw [List.getElem?_set_ne (fun e2 => e e2.symm)]
    cases h2 : ps[j]? with
    | none => rw [mix_none h2, mix_none h2]
    | some y =>
      rw [mix_at h2, mix_at h2]
      by_cases e3 : j < n
      · rw [if_pos e3, if_pos (by omega)]
      · rw [if_neg e3, if_neg (by omega)]
theorem set_at {ps : List Mono} {j i : Nat} {x y z : Mono} (hx : ps[j]? = some x) (h : (ps.set j y)[i]? = some z) : (i = j ∧ z = y) ∨ (i ≠ j ∧ ps[i]? = some z) := by
  by_cases e : i = j
  · subst e
    rw [List.getElem?_set_self (List.getElem?_eq_some_iff.1 hx).1] at h
    exact Or.inl ⟨rfl, (Option.some.inj h).symm⟩
  · rw [List.getElem?_set_ne (fun e2 => e e2.symm)] at h
    exact Or.inr ⟨e, h⟩
theorem WP.coef {w : World} {lo hi : Nat} {a : Option Addr} {G cap : Nat} {g : Nat → Nat} {s : Nat → Value} {ps : List Mono} (h : WP w lo hi a G cap g s ps) {j : Nat} {x : Mono} (hx : ps[j]? = some x) (n : Int) : WP (w.setCell ⟨G, j * 2, none⟩ (.int .i64 n)) lo hi a G cap g s (ps.set j (n, x.2)) := by
  have hG := h.at_.resolve_left (fun e => by rw [e] at hx; simp at hx)
  have sz : (w.setCell ⟨G, j * 2, none⟩ (.int .i64 n)).heap.size = w.heap.size := by simp [World.setCell]
  refine ⟨by rw [List.length_set]; exact h.le, h.mx, h.nl, Or.inr ⟨hG.1, hG.2.1, hG.2.2.1, by rw [sz]; exact hG.2.2.2⟩, fun i z hz => ?_, fun i i' z z' hi hz hz' => ?_⟩
  · have far (p : Addr) (q0 : p ≠ ⟨G, j * 2, none⟩) : (w.setCell ⟨G, j * 2, none⟩ (.int .i64 n)).cell? p = w.cell? p := World.cell?_setCell_other _ _ _ _ (fun e => q0 e.symm)
    rcases set_at hx hz with ⟨rfl, rfl⟩ | ⟨e, hz2⟩
    · obtain ⟨k1, k2, k3, k4, k5⟩ := h.cells i x hx
      refine ⟨World.cell?_setCell_same w _ _ k1, (World.frozen?_setCell ..).trans k2, ?_, ?_, k5⟩
      · rw [far _ (fun e2 => by have : i * 2 + 1 = i * 2 := congrArg Addr.off e2; omega)]; exact k3
      · rcases k5 with k5 | k5
        · obtain ⟨q, c2, o2, h1, h2, h3, hz0, _⟩ := k4
          exact ⟨q, c2, o2, h1, h2, h3, hz0, Or.inl k5⟩
        · exact other_row k4 _ _ (fun e2 => k5.2.2 e2.symm)
    · obtain ⟨k1, k2, k3, k4, k5⟩ := h.cells i z hz2
      refine ⟨?_, (World.frozen?_setCell ..).trans k2, ?_, ?_, k5⟩
      · rw [far _ (fun e2 => by have : i * 2 = j * 2 := congrArg Addr.off e2; omega)]; exact k1
      · rw [far _ (fun e2 => by have : i * 2 + 1 = j * 2 := congrArg Addr.off e2; omega)]; exact k3
      · rcases k5 with k5 | k5
        · obtain ⟨q, c2, o2, h1, h2, h3, hz0, _⟩ := k4
          exact ⟨q, c2, o2, h1, h2, h3, hz0, Or.inl k5⟩
        · exact other_row k4 _ _ (fun e2 => k5.2.2 e2.symm)
  · obtain ⟨y, hy, ey⟩ : ∃ y, ps[i]? = some y ∧ y.2 = z.2 := by
      rcases set_at hx hz with ⟨rfl, rfl⟩ | ⟨e, hz2⟩
      · exact ⟨x, hx, rfl⟩
      · exact ⟨z, hz2, rfl⟩
    obtain ⟨y', hy', ey'⟩ : ∃ y, ps[i']? = some y ∧ y.2 = z'.2 := by
      rcases set_at hx hz' with ⟨rfl, rfl⟩ | ⟨e, hz2⟩
      · exact ⟨x, hx, rfl⟩
      · exact ⟨z', hz2, rfl⟩
    rw [← ey, ← ey']
    exact h.apart i i' y y' hi hy hy'
theorem WP.atoms {w w' : World} {lo hi : Nat} {a : Option Addr} {G cap : Nat} {g : Nat → Nat} {s : Nat → Value} {ps : List Mono} (h : WP w lo hi a G cap g s ps) {j : Nat} {x : Mono} (hx : ps[j]? = some x) {ys : List Int} (ht : Turn (g j) w w') (hR : WRow w' (g j) (s j) ys) (hl : ys.length = x.2.length) (hne : x.2 ≠ []) : WP w' lo hi a G cap g s (ps.set j (x.1, ys)) := by
  have hG := h.at_.resolve_left (fun e => by rw [e] at hx; simp at hx)
  have hj := (h.cells j x hx).2.2.2.2.resolve_left hne
  have eG := ht.block G hG.2.2.2 (fun e => hj.2.2 e.symm)
  refine ⟨by rw [List.length_set]; exact h.le, h.mx, h.nl, Or.inr ⟨hG.1, hG.2.1, hG.2.2.1, Nat.lt_of_lt_of_le hG.2.2.2 ht.size⟩, fun i z hz => ?_, fun i i' z z' hi hz hz' => ?_⟩
  · rcases set_at hx hz with ⟨rfl, rfl⟩ | ⟨e, hz2⟩
    · obtain ⟨k1, k2, k3, k4, k5⟩ := h.cells i x hx
      exact ⟨(World.cell?_of_block (w := w) (a := ⟨G, i * 2, none⟩) eG).trans k1, (World.frozen?_of_block (w := w) (a := ⟨G, i * 2, none⟩) eG).trans k2, (World.cell?_of_block (w := w) (a := ⟨G, i * 2 + 1, none⟩) eG).trans k3, hR, Or.inr hj⟩
    · obtain ⟨k1, k2, k3, k4, k5⟩ := h.cells i z hz2
      refine ⟨(World.cell?_of_block (w := w) (a := ⟨G, i * 2, none⟩) eG).trans k1, (World.frozen?_of_block (w := w) (a := ⟨G, i * 2, none⟩) eG).trans k2, (World.cell?_of_block (w := w) (a := ⟨G, i * 2 + 1, none⟩) eG).trans k3, ?_, k5⟩
      by_cases ez : z.2 = []
      · obtain ⟨q, c2, o2, h1, h2, h3, hz0, _⟩ := k4
        exact ⟨q, c2, o2, h1, h2, h3, hz0, Or.inl ez⟩
      · have : g i ≠ g j := by
          rcases Nat.lt_or_gt_of_ne e with e | e
          · exact ((h.apart i j z x e hz2 hx).resolve_left ez).resolve_left hne
          · exact Ne.symm (((h.apart j i x z e hx hz2).resolve_left hne).resolve_left ez)
        exact k4.turn ht this
  · obtain ⟨y, hy, ey⟩ : ∃ y, ps[i]? = some y ∧ (z.2 = [] ↔ y.2 = []) := by
      rcases set_at hx hz with ⟨rfl, rfl⟩ | ⟨e, hz2⟩
      · exact ⟨x, hx, by simp only []; rw [← List.length_eq_zero_iff, ← List.length_eq_zero_iff, hl]⟩
      · exact ⟨z, hz2, Iff.rfl⟩
    obtain ⟨y', hy', ey'⟩ : ∃ y, ps[i']? = some y ∧ (z'.2 = [] ↔ y.2 = []) := by
      rcases set_at hx hz' with ⟨rfl, rfl⟩ | ⟨e, hz2⟩
      · exact ⟨x, hx, by simp only []; rw [← List.length_eq_zero_iff, ← List.length_eq_zero_iff, hl]⟩
      · exact ⟨z', hz2, Iff.rfl⟩
    rw [ey, ey']
    exact h.apart i i' y y' hi hy hy'
theorem marks_zero (k : Int) : marks k 0 = [] := List.length_eq_zero_iff.1 (marks_len k 0)
set_option maxRecDepth 8000 in
set_option maxHeartbeats 8000000 in
theorem markTrmMonoS (ps : List Mono) (k : Int) (lo hi : Nat) (v : Value) (w : World) (h : WPoly w lo hi v ps) (hs : ps.length + tot ps ≤ 1000000000) (k0 : 0 ≤ k) (k1 : k ≤ 100000000000) :
    Calls Try.prog 63 #[v, .int .i64 k] w fun e w' => e = .returned (.int .i64 (k + offs ps ps.length)) ∧ WPoly w' lo hi v (markP ps k) ∧ Keep (fun b => lo ≤ b ∧ b < hi) w w' := by
  obtain ⟨a, G, cap, g, s, rfl, h⟩ := h
  have h2 := h.le
  have h3 := h.mx
  unfold maxLen at h3
  obtain ⟨n, en⟩ : ∃ n, ps.length = n := ⟨_, rfl⟩
  have EN := hide en
  have HS : Hid (n + tot ps ≤ 1000000000) := show _ ≤ _ by omega
  have HW := hide h
  rw [en] at h2 ⊢
  have ML : Hid ((markP ps k).length = n) := show _ = _ by rw [mark_len, en]
  have MW : Hid (mixP ps k n = markP ps k) := show _ = _ by rw [← en]; exact mix_whole ps k
  clear en hs h
  by_cases n0 : n = 0
  · subst n0
    have e0 : ps = [] := List.length_eq_zero_iff.1 EN.out
    have FF : Hid (WPoly w lo hi (.slice a 0 cap) (markP ps k)) := ⟨a, G, cap, g, s, by rw [ML.out], by rw [ML.out]; exact h2, HW.out.mx, HW.out.nl, Or.inl (List.length_eq_zero_iff.1 ML.out), fun i x hx => by rw [List.length_eq_zero_iff.1 ML.out] at hx; simp at hx, fun i j x y _ hx => by rw [List.length_eq_zero_iff.1 ML.out] at hx; simp at hx⟩
    have OZ : Hid (k + offs ps 0 = k) := show _ = _ by unfold offs; simp [tot]
    rw [OZ.out]
    go_enter Try.func63, Try.ntmps63
    go_wp2
    refine wp_loop_rounds 1 ?_
    rw [rounds_succ]
    go_wp2
    go_ret
    exact ⟨rfl, FF.out, Keep.refl _ _⟩
  · have hG := HW.out.at_.resolve_left (fun e => n0 (by rw [← EN.out, e]; rfl))
    obtain ⟨rfl, hG2⟩ := hG
    have GG := hide hG2
    clear hG2
    obtain ⟨KE, eKE⟩ : ∃ KE, k + offs ps n = KE := ⟨_, rfl⟩
    rw [eKE]
    have EKE := hide eKE
    clear eKE
    go_enter Try.func63, Try.ntmps63
    go_wp2
    go_loopw [1, 5] (fun q i wr => ∃ (j : Nat) (kk : Int), j ≤ n ∧ i = .int .i64 j ∧ q = .int .i64 kk ∧ Hid (kk = k + offs ps j) ∧ 0 ≤ kk ∧ kk ≤ 200000000000 ∧ Hid (WP wr lo hi (some ⟨G, 0, none⟩) G cap g s (mixP ps k j)) ∧ Hid (Keep (fun b => lo ≤ b ∧ b < hi) w wr)) (fun _ i _ => n - (intOf i).toNat)
    case atStart => exact ⟨0, k, by omega, rfl, rfl, by show _ = _; unfold offs; simp [tot], k0, by omega, by show WP _ _ _ _ _ _ _ _ _; rw [mix_zero]; exact HW.out, Keep.refl _ _⟩
    case round =>
      obtain ⟨j, kk, hj, rfl, rfl, HK, kk0, kk1, HP, HB⟩ := hrel
      by_cases hlt : j < n
      · obtain ⟨x, ex⟩ : ∃ x, ps[j]? = some x := ⟨_, List.getElem?_eq_getElem (by rw [EN.out]; exact hlt)⟩
        obtain ⟨c, at_⟩ := x
        have em := (mix_at (k := k) (n := j) ex).trans (by rw [if_neg (Nat.lt_irrefl _)])
        obtain ⟨p1, p2, p3, p4, p5⟩ := HP.out.cells j _ em
        have HP1 := HP.out.coef em kk
        have em1 : ((mixP ps k j).set j (kk, (c, at_).2))[j]? = some (kk, at_) := List.getElem?_set_self (by rw [mix_len, EN.out]; exact hlt)
        obtain ⟨r1, r2, r3, r4, r5⟩ := HP1.cells j _ em1
        have ON := hide (offs_next ex)
        have MX := hide (mix_next (k := k) ex)
        have TA : Hid (at_.length ≤ 1000000000) := show _ ≤ _ by have := tot_at ex; have := HS.out; simp only [] at *; omega
        have LT : Hid (offs ps j ≤ 1000000000) := show _ ≤ _ by have := tot_le (ps := ps) j; have := HS.out; unfold offs; omega
        have lw : G < wr.heap.size := Nat.lt_of_lt_of_le GG.out.2.2 HB.out.size
        have KT : Hid (Keep (fun b => lo ≤ b ∧ b < hi) w (wr.setCell ⟨G, j * 2, none⟩ (.int .i64 kk))) := HB.out.turn ((Turn.refl G wr).setCell (p := ⟨G, j * 2, none⟩) rfl (.int .i64 kk)) (fun b _ hn e => hn (e ▸ ⟨GG.out.1, GG.out.2.1⟩))
        have lj : ((j : Nat) : Int) < (n : Nat) := by omega
        obtain ⟨sq, sc, so, es, sl, sm, sz, _⟩ := r4
        have r4 := (HP1.cells j _ em1).2.2.2.1
        rw [es] at r3
        have HP1' := hide HP1
        have EM1 := hide em1
        have ES := hide es
        have P5 := hide p5
        simp only [] at p1 p2 r3
        clear HP1 em1 em p3 p4 p5 r1 r2 r5 es sl sm sz ex HP HB
        have R4 := hide r4
        clear r4
        go_wp2_with fail
        generalize wr.setCell ⟨G, j * 2, none⟩ (.int .i64 kk) = U at r3 HP1' KT R4 ⊢
        by_cases ea : at_ = []
        · subst ea
          have RR : WRow U (U.heap.size + 1) (.slice sq 0 sc) [] := by
            have := R4.out
            rw [ES.out] at this
            obtain ⟨q, c2, o2, h1, h2, h3, hz0, _⟩ := this
            exact ⟨q, c2, o2, h1, h2, h3, hz0, Or.inl rfl⟩
          refine (markIntS (kk + 1) [] (U.heap.size + 1) _ _ RR (by omega) (by omega) (by simp)).mono ?_
          rintro e u ⟨rfl, _, ht⟩
          have KU := Keep.of_turn ht
          have QP : Hid (WP u lo hi (some ⟨G, 0, none⟩) G cap g s (mixP ps k (j + 1))) := show WP _ _ _ _ _ _ _ _ _ by
            rw [← MX.out]
            have := HP1'.out.keep (w' := u) (S := fun _ => False) ⟨KU.os, KU.tape, KU.output, KU.size, fun b hb _ => KU.block b hb (fun (e : b = _) => by omega)⟩ (fun _ _ _ h => h)
            unfold markAt
            simp only [List.length_nil, marks_zero]
            rw [← HK.out]
            exact this
          have QK : Hid (Keep (fun b => lo ≤ b ∧ b < hi) w u) := KT.out.trans ⟨KU.os, KU.tape, KU.output, KU.size, fun b hb _ => KU.block b hb (fun (e : b = _) => by omega)⟩
          have QE : Hid (kk + 1 = k + offs ps (j + 1)) := show _ = _ by have := HK.out; have := ON.out; simp only [List.length_nil] at this; omega
          have qb : kk + 1 ≤ 200000000000 := by have := HK.out; have := LT.out; omega
          clear ht KU RR r3 HP1' KT R4 p1 p2
          simp only [List.length_nil, Int.natCast_zero, Int.add_zero]
          go_wp2
          exact ⟨⟨j + 1, kk + 1, by omega, by go_num, by first | rfl | go_num, QE, by omega, qb, QP, QK⟩, by simp [intOf]; omega⟩
        · have p5 := P5.out.resolve_left ea
          have RR : WRow U (g j) (.slice sq at_.length sc) at_ := by
            have := R4.out
            rw [ES.out] at this
            exact this
          refine (markIntS (kk + 1) at_ (g j) _ _ RR (by omega) (by omega) TA.out).mono ?_
          rintro e u ⟨rfl, hm, ht⟩
          have QP : Hid (WP u lo hi (some ⟨G, 0, none⟩) G cap g s (mixP ps k (j + 1))) := show WP _ _ _ _ _ _ _ _ _ by
            rw [← MX.out]
            have := HP1'.out.atoms (w' := u) EM1.out ht (ys := marks (kk + 1) at_.length) (by rw [ES.out]; exact hm) (marks_len _ _) ea
            rw [List.set_set] at this
            unfold markAt
            rw [← HK.out]
            exact this
          have QK : Hid (Keep (fun b => lo ≤ b ∧ b < hi) w u) := KT.out.turn ht (fun b _ hn e => hn (e ▸ ⟨p5.1, p5.2.1⟩))
          have QE : Hid (kk + 1 + at_.length = k + offs ps (j + 1)) := show _ = _ by have := HK.out; have := ON.out; omega
          have qb : kk + 1 + at_.length ≤ 200000000000 := by have := HK.out; have := LT.out; have := TA.out; omega
          clear ht hm RR r3 HP1' KT R4 p1 p2 p5
          go_wp2
          exact ⟨⟨j + 1, kk + 1 + at_.length, by omega, by go_num, by first | rfl | go_num, QE, by omega, qb, QP, QK⟩, by simp [intOf]; omega⟩
      · obtain rfl : j = n := by omega
        have HD : Hid (kk = KE) := HK.out.trans EKE.out
        have FF : Hid (WPoly wr lo hi (.slice (some ⟨G, 0, none⟩) j cap) (markP ps k)) := ⟨_, G, cap, g, s, by rw [ML.out], by rw [← MW.out]; exact HP.out⟩
        go_wp2
        go_ret
        exact ⟨ret_int HD.out, FF.out, HB.out⟩
set_option maxRecDepth 8000 in
set_option maxHeartbeats 4000000 in
theorem heldTrmMonoS (ps : List Mono) (k : Int) (B : Nat) (v : Value) (w : World) (h : PRow w B v (markP ps k)) (hs : ps.length + tot ps ≤ 1000000000) (k0 : 0 ≤ k) (k1 : k ≤ 100000000000) :
    Calls Try.prog 64 #[v, .int .i64 k] w fun e w' => e = .returned (.int .i64 (k + offs ps ps.length)) ∧ Below w.heap.size w w' := by
  obtain ⟨a, cap, off, rfl, h2, h3, hz, h4⟩ := h
  unfold maxLen at h3
  clear hz
  obtain ⟨n, en⟩ : ∃ n, ps.length = n := ⟨_, rfl⟩
  have EN := hide en
  have HS : Hid (n + tot ps ≤ 1000000000) := show _ ≤ _ by omega
  rw [mark_len, en] at h2 ⊢
  have H4 := hide h4
  obtain ⟨KE, eKE⟩ : ∃ KE, k + offs ps n = KE := ⟨_, rfl⟩
  rw [eKE]
  have EKE := hide eKE
  clear en h4 hs eKE
  go_enter Try.func64, Try.ntmps64
  by_cases n0 : n = 0
  · subst n0
    have OZ : Hid (k = KE) := show _ = _ by rw [← EKE.out]; unfold offs; simp [tot]
    go_wp2
    refine wp_loop_rounds 1 ?_
    rw [rounds_succ]
    go_wp2
    go_ret
    exact ⟨ret_int OZ.out, Below.refl _ _⟩
  · obtain ⟨rfl, hc⟩ := H4.out.resolve_left (fun e => n0 (by have := congrArg List.length e; rw [mark_len, EN.out] at this; exact this))
    have HC := hide hc
    clear hc H4
    go_wp2
    go_loopw [1, 5] (fun q i wr => ∃ (j : Nat) (kk : Int), j ≤ n ∧ i = .int .i64 j ∧ q = .int .i64 kk ∧ Hid (kk = k + offs ps j) ∧ 0 ≤ kk ∧ kk ≤ 200000000000 ∧ Hid (Below w.heap.size w wr)) (fun _ i _ => n - (intOf i).toNat)
    case atStart => exact ⟨0, k, by omega, rfl, rfl, by show _ = _; unfold offs; simp [tot], k0, by omega, Below.refl _ _⟩
    case round =>
      obtain ⟨j, kk, hj, rfl, rfl, HK, kk0, kk1, HB⟩ := hrel
      by_cases hlt : j < n
      · obtain ⟨x, ex⟩ : ∃ x, ps[j]? = some x := ⟨_, List.getElem?_eq_getElem (by rw [EN.out]; exact hlt)⟩
        obtain ⟨c, at_⟩ := x
        obtain ⟨g1, s, b, g2, g3⟩ := HC.out j _ (mark_at ex)
        unfold markAt at g1 g3
        simp only [] at g1 g3
        rw [← HK.out] at g1 g3
        have cx := cell_below HB.out g1
        have sx := cell_below HB.out g2
        have RX := hide (g3.below HB.out)
        obtain ⟨qa, ca, _, rfl, _⟩ := g3
        have ON := hide (offs_next ex)
        have TA : Hid (at_.length ≤ 1000000000) := show _ ≤ _ by have := tot_at ex; have := HS.out; simp only [] at *; omega
        have LT : Hid (offs ps j ≤ 1000000000) := show _ ≤ _ by have := tot_le (ps := ps) j; have := HS.out; unfold offs; omega
        have lj : ((j : Nat) : Int) < (n : Nat) := by omega
        have nk : (kk != kk) = false := by simp
        clear ex g1 g2
        go_wp2_with fail
        refine (heldIntS (kk + 1) at_.length b _ _ RX.out (by omega) (by omega) TA.out).mono ?_
        rintro e u ⟨rfl, hb⟩
        have HB2 := hide (HB.out.trans (hb.mono HB.out.size))
        have QE : Hid (kk + 1 + at_.length = k + offs ps (j + 1)) := show _ = _ by have := HK.out; have := ON.out; omega
        have qb : kk + 1 + at_.length ≤ 200000000000 := by have := HK.out; have := LT.out; have := TA.out; omega
        have qn : ¬ (kk + 1 + (at_.length : Int)) < 0 := by omega
        clear hb RX cx sx
        go_wp2
        exact ⟨⟨j + 1, kk + 1 + at_.length, by omega, by go_num, by first | rfl | go_num, QE, by omega, qb, HB2⟩, by simp [intOf]; omega⟩
      · obtain rfl : j = n := by omega
        have HD : Hid (kk = KE) := HK.out.trans EKE.out
        go_wp2
        go_ret
        exact ⟨ret_int HD.out, HB.out⟩
set_option maxRecDepth 8000 in
set_option maxHeartbeats 4000000 in
theorem markTrmPoly (ps : List Mono) (k : Int) (lo hi : Nat) (v : Value) (w : World) (h : WPoly w lo hi v ps) (hs : ps.length + tot ps ≤ 1000000000) (k0 : 0 ≤ k) (k1 : k ≤ 100000000000) :
    Calls Try.prog 41 #[.agg #[v], .int .i64 k] w fun e w' => e = .returned (.int .i64 (k + offs ps ps.length)) ∧ WPoly w' lo hi v (markP ps k) ∧ Keep (fun b => lo ≤ b ∧ b < hi) w w' := by
  have bV : Below w.heap.size w (w.alloc (.cells #[v] 35)) := (Below.refl _ _).alloc (Nat.le_refl _) _
  have H := hide (h.below bV)
  have BW := hide bV
  have HS := hide hs
  obtain ⟨a, G, cap, g, s, rfl, _⟩ := h
  clear bV hs
  go_enter Try.func41, Try.ntmps41
  go_wp2_with fail
  refine (markTrmMonoS ps k lo hi _ _ H.out HS.out k0 k1).mono ?_
  rintro e u ⟨rfl, M, K⟩
  have KK := hide ((Keep.of_below BW.out).trans K)
  have MM := hide M
  clear M K H
  go_wp2
  go_ret
  exact ⟨rfl, MM.out, KK.out⟩
theorem heldTrmPoly (ps : List Mono) (k : Int) (B : Nat) (v : Value) (w : World) (h : PRow w B v (markP ps k)) (hs : ps.length + tot ps ≤ 1000000000) (k0 : 0 ≤ k) (k1 : k ≤ 100000000000) :
    Calls Try.prog 44 #[.agg #[v], .int .i64 k] w fun e w' => e = .returned (.int .i64 (k + offs ps ps.length)) ∧ Below w.heap.size w w' := by
  have bV : Below w.heap.size w (w.alloc (.cells #[v] 35)) := (Below.refl _ _).alloc (Nat.le_refl _) _
  have H := hide (h.below bV)
  have BW := hide bV
  have HS := hide hs
  obtain ⟨a, cap, off, rfl, _⟩ := h
  have hp : 0 ≤ k + offs ps ps.length := by unfold offs; omega
  obtain ⟨KE, eKE⟩ : ∃ KE, k + offs ps ps.length = KE := ⟨_, rfl⟩
  rw [eKE] at hp ⊢
  have EK := hide eKE
  have hp' : ¬ KE < 0 := by omega
  clear bV hs eKE
  go_enter Try.func44, Try.ntmps44
  go_wp2_with fail
  refine (heldTrmMonoS ps k B _ _ H.out HS.out k0 k1).mono ?_
  rintro e u ⟨rfl, hb⟩
  rw [EK.out]
  replace BW := hide (BW.out.trans (hb.mono BW.out.size))
  clear hb
  go_wp2
  go_ret
  exact ⟨rfl, BW.out⟩
end Go.Proofs.Ytclccaigkcilcaa.Pol
