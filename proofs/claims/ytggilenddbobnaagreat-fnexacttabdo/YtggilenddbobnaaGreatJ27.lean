/-
  Contracts of the laws' own markTrmPoly and heldTrmPoly: what is marked is held, and nothing else has turned.
  The laws' own marks of atoms.
  The laws' own markTabTab.
  The laws' own markTabTab, markTabAtom, heldTabTab.
  A drawn region at which two operations that are free of all others (boxes that are made) may come up anywhere along a chain of calls: layer by layer, whatever the order.
-/
import Derived.Test.YtggilenddbobnaaGreatAl
import Derived.Test.YtggilenddbobnaaGreatJ04
import Derived.Test.YtggilenddbobnaaGreatJ12
import Derived.Test.YtggilenddbobnaaGreatJ22
namespace Go.Proofs.YtggilenddbobnaaGreat.Pol
open Go.ChangeShapes Go.WideShapes Go.ChangeAt Go.RowKit IntS
/-- The number at which a part's marks begin. -/
def offs (ps : List Mono) (j : Nat) : Int := (j : Int) + (tot (ps.take j) : Int)
theorem offs_next {ps : List Mono} {j : Nat} {x : Mono} (h : ps[j]? = some x) : offs ps (j + 1) = offs ps j + 1 + (x.2.length : Int) := by
 unfold offs
 rw [tot_next h]
 omega
def markAt (ps : List Mono) (k : Int) (j : Nat) (x : Mono) : Mono := (k + offs ps j, marks (k + offs ps j + 1) x.2.length)
/-- A sum whose parts are marked up to a place. -/
def mixP (ps : List Mono) (k : Int) (n : Nat) : List Mono := ps.mapIdx fun j x => if j < n then markAt ps k j x else x
def markP (ps : List Mono) (k : Int) : List Mono := ps.mapIdx fun j x => markAt ps k j x
theorem mark_at {ps : List Mono} {k : Int} {j : Nat} {x : Mono} (h : ps[j]? = some x) : (markP ps k)[j]? = some (markAt ps k j x) := by unfold markP; rw [List.getElem?_mapIdx, h]; rfl
theorem mix_at {ps : List Mono} {k : Int} {n j : Nat} {x : Mono} (h : ps[j]? = some x) : (mixP ps k n)[j]? = some (if j < n then markAt ps k j x else x) := by unfold mixP; rw [List.getElem?_mapIdx, h]; rfl
theorem mix_len (ps : List Mono) (k : Int) (n : Nat) : (mixP ps k n).length = ps.length := by unfold mixP; rw [List.length_mapIdx]
theorem mark_len (ps : List Mono) (k : Int) : (markP ps k).length = ps.length := by unfold markP; rw [List.length_mapIdx]
theorem mix_none {ps : List Mono} {k : Int} {n j : Nat} (h : ps[j]? = none) : (mixP ps k n)[j]? = none := by unfold mixP; rw [List.getElem?_mapIdx, h]; rfl
theorem mix_zero (ps : List Mono) (k : Int) : mixP ps k 0 = ps := by
 apply List.ext_getElem?
 intro j
 cases h : ps[j]? with
 | none => exact mix_none h
 | some x => rw [mix_at h, if_neg (by omega)]
theorem mix_whole (ps : List Mono) (k : Int) : mixP ps k ps.length = markP ps k := by
 apply List.ext_getElem?
 intro j
 cases h : ps[j]? with
 | none => rw [mix_none h]; unfold markP; rw [List.getElem?_mapIdx, h]; rfl
 | some x => rw [mix_at h, mark_at h, if_pos (List.getElem?_eq_some_iff.1 h).1]
theorem mix_next {ps : List Mono} {k : Int} {n : Nat} {x : Mono} (h : ps[n]? = some x) : (mixP ps k n).set n (markAt ps k n x) = mixP ps k (n + 1) := by
 apply List.ext_getElem?
 intro j
 by_cases e : j = n
 · subst e
   rw [List.getElem?_set_self (by rw [mix_len]; exact (List.getElem?_eq_some_iff.1 h).1), mix_at h, if_pos (by omega)]
 · rw [List.getElem?_set_ne (fun e2 => e e2.symm)]
   cases h2 : ps[j]? with
   | none => rw [mix_none h2, mix_none h2]
   | some y =>
    rw [mix_at h2, mix_at h2]
    by_cases e3 : j < n
    · rw [if_pos e3, if_pos (by omega)]
    · rw [if_neg e3, if_neg (by omega)]
theorem set_at {ps : List Mono} {j i : Nat} {x y z : Mono} (hx : ps[j]? = some x) (h : (ps.set j y)[i]? = some z) : (i = j ∧ z = y) ∨ (i ≠ j ∧ ps[i]? = some z) := by
 by_cases e : i = j
 · subst e
   rw [List.getElem?_set_self (List.getElem?_eq_some_iff.1 hx).1] at h
   exact Or.inl ⟨rfl, (Option.some.inj h).symm⟩
 · rw [List.getElem?_set_ne (fun e2 => e e2.symm)] at h
   exact Or.inr ⟨e, h⟩
theorem WP.coef {w : World} {lo hi : Nat} {a : Option Addr} {G cap : Nat} {g : Nat → Nat} {s : Nat → Value} {ps : List Mono} (h : WP w lo hi a G cap g s ps) {j : Nat} {x : Mono} (hx : ps[j]? = some x) (n : Int) : WP (w.setCell ⟨G, j * 2, none⟩ (.int .i64 n)) lo hi a G cap g s (ps.set j (n, x.2)) := by
 have hG := h.at_.resolve_left (fun e => by rw [e] at hx; simp at hx)
 have sz : (w.setCell ⟨G, j * 2, none⟩ (.int .i64 n)).heap.size = w.heap.size := by simp [World.setCell]
 refine ⟨by rw [List.length_set]; exact h.le, h.mx, h.nl, Or.inr ⟨hG.1, hG.2.1, hG.2.2.1, by rw [sz]; exact hG.2.2.2⟩, fun i z hz => ?_, fun i i' z z' hi hz hz' => ?_⟩
 · have far (p : Addr) (q0 : p ≠ ⟨G, j * 2, none⟩) : (w.setCell ⟨G, j * 2, none⟩ (.int .i64 n)).cell? p = w.cell? p := World.cell?_setCell_other _ _ _ _ (fun e => q0 e.symm)
   rcases set_at hx hz with ⟨rfl, rfl⟩ | ⟨e, hz2⟩
   · obtain ⟨k1, k2, k3, k4, k5⟩ := h.cells i x hx
     refine ⟨World.cell?_setCell_same w _ _ k1, (World.frozen?_setCell ..).trans k2, ?_, ?_, k5⟩
     · rw [far _ (fun e2 => by have : i * 2 + 1 = i * 2 := congrArg Addr.off e2; omega)]; exact k3
     · rcases k5 with k5 | k5
       · obtain ⟨q, c2, o2, h1, h2, h3, hz0, _⟩ := k4
         exact ⟨q, c2, o2, h1, h2, h3, hz0, Or.inl k5⟩
       · exact other_row k4 _ _ (fun e2 => k5.2.2 e2.symm)
   · obtain ⟨k1, k2, k3, k4, k5⟩ := h.cells i z hz2
     refine ⟨?_, (World.frozen?_setCell ..).trans k2, ?_, ?_, k5⟩
     · rw [far _ (fun e2 => by have : i * 2 = j * 2 := congrArg Addr.off e2; omega)]; exact k1
     · rw [far _ (fun e2 => by have : i * 2 + 1 = j * 2 := congrArg Addr.off e2; omega)]; exact k3
     · rcases k5 with k5 | k5
       · obtain ⟨q, c2, o2, h1, h2, h3, hz0, _⟩ := k4
         exact ⟨q, c2, o2, h1, h2, h3, hz0, Or.inl k5⟩
       · exact other_row k4 _ _ (fun e2 => k5.2.2 e2.symm)
 · obtain ⟨y, hy, ey⟩ : ∃ y, ps[i]? = some y ∧ y.2 = z.2 := by
    rcases set_at hx hz with ⟨rfl, rfl⟩ | ⟨e, hz2⟩
    · exact ⟨x, hx, rfl⟩
    · exact ⟨z, hz2, rfl⟩
   obtain ⟨y', hy', ey'⟩ : ∃ y, ps[i']? = some y ∧ y.2 = z'.2 := by
    rcases set_at hx hz' with ⟨rfl, rfl⟩ | ⟨e, hz2⟩
    · exact ⟨x, hx, rfl⟩
    · exact ⟨z', hz2, rfl⟩
   rw [← ey, ← ey']
   exact h.apart i i' y y' hi hy hy'
theorem WP.atoms {w w' : World} {lo hi : Nat} {a : Option Addr} {G cap : Nat} {g : Nat → Nat} {s : Nat → Value} {ps : List Mono} (h : WP w lo hi a G cap g s ps) {j : Nat} {x : Mono} (hx : ps[j]? = some x) {ys : List Int} (ht : Turn (g j) w w') (hR : WRow w' (g j) (s j) ys) (hl : ys.length = x.2.length) (hne : x.2 ≠ []) : WP w' lo hi a G cap g s (ps.set j (x.1, ys)) := by
 have hG := h.at_.resolve_left (fun e => by rw [e] at hx; simp at hx)
 have hj := (h.cells j x hx).2.2.2.2.resolve_left hne
 have eG := ht.block G hG.2.2.2 (fun e => hj.2.2 e.symm)
 refine ⟨by rw [List.length_set]; exact h.le, h.mx, h.nl, Or.inr ⟨hG.1, hG.2.1, hG.2.2.1, Nat.lt_of_lt_of_le hG.2.2.2 ht.size⟩, fun i z hz => ?_, fun i i' z z' hi hz hz' => ?_⟩
 · rcases set_at hx hz with ⟨rfl, rfl⟩ | ⟨e, hz2⟩
   · obtain ⟨k1, k2, k3, k4, k5⟩ := h.cells i x hx
     exact ⟨(World.cell?_of_block (w := w) (a := ⟨G, i * 2, none⟩) eG).trans k1, (World.frozen?_of_block (w := w) (a := ⟨G, i * 2, none⟩) eG).trans k2, (World.cell?_of_block (w := w) (a := ⟨G, i * 2 + 1, none⟩) eG).trans k3, hR, Or.inr hj⟩
   · obtain ⟨k1, k2, k3, k4, k5⟩ := h.cells i z hz2
     refine ⟨(World.cell?_of_block (w := w) (a := ⟨G, i * 2, none⟩) eG).trans k1, (World.frozen?_of_block (w := w) (a := ⟨G, i * 2, none⟩) eG).trans k2, (World.cell?_of_block (w := w) (a := ⟨G, i * 2 + 1, none⟩) eG).trans k3, ?_, k5⟩
     by_cases ez : z.2 = []
     · obtain ⟨q, c2, o2, h1, h2, h3, hz0, _⟩ := k4
       exact ⟨q, c2, o2, h1, h2, h3, hz0, Or.inl ez⟩
     · have : g i ≠ g j := by
        rcases Nat.lt_or_gt_of_ne e with e | e
        · exact ((h.apart i j z x e hz2 hx).resolve_left ez).resolve_left hne
        · exact Ne.symm (((h.apart j i x z e hx hz2).resolve_left hne).resolve_left ez)
       exact k4.turn ht this
 · obtain ⟨y, hy, ey⟩ : ∃ y, ps[i]? = some y ∧ (z.2 = [] ↔ y.2 = []) := by
    rcases set_at hx hz with ⟨rfl, rfl⟩ | ⟨e, hz2⟩
    · exact ⟨x, hx, by simp only []; rw [← List.length_eq_zero_iff, ← List.length_eq_zero_iff, hl]⟩
    · exact ⟨z, hz2, Iff.rfl⟩
   obtain ⟨y', hy', ey'⟩ : ∃ y, ps[i']? = some y ∧ (z'.2 = [] ↔ y.2 = []) := by
    rcases set_at hx hz' with ⟨rfl, rfl⟩ | ⟨e, hz2⟩
    · exact ⟨x, hx, by simp only []; rw [← List.length_eq_zero_iff, ← List.length_eq_zero_iff, hl]⟩
    · exact ⟨z', hz2, Iff.rfl⟩
   rw [ey, ey']
   exact h.apart i i' y y' hi hy hy'
theorem marks_zero (k : Int) : marks k 0 = [] := List.length_eq_zero_iff.1 (marks_len k 0)
set_option maxRecDepth 8000 in
set_option maxHeartbeats 8000000 in
theorem markTrmMonoS (ps : List Mono) (k : Int) (lo hi : Nat) (v : Value) (w : World) (h : WPoly w lo hi v ps) (hs : ps.length + tot ps ≤ 1000000000) (k0 : 0 ≤ k) (k1 : k ≤ 100000000000) :
 Calls Tryz.prog 36 #[v, .int .i64 k] w fun e w' => e = .returned (.int .i64 (k + offs ps ps.length)) ∧ WPoly w' lo hi v (markP ps k) ∧ Keep (fun b => lo ≤ b ∧ b < hi) w w' := by
 obtain ⟨a, G, cap, g, s, rfl, h⟩ := h
 have h2 := h.le
 have h3 := h.mx
 unfold maxLen at h3
 obtain ⟨n, en⟩ : ∃ n, ps.length = n := ⟨_, rfl⟩
 have EN := hide en
 have HS : Hid (n + tot ps ≤ 1000000000) := show _ ≤ _ by omega
 have HW := hide h
 rw [en] at h2 ⊢
 have ML : Hid ((markP ps k).length = n) := show _ = _ by rw [mark_len, en]
 have MW : Hid (mixP ps k n = markP ps k) := show _ = _ by rw [← en]; exact mix_whole ps k
 clear en hs h
 by_cases n0 : n = 0
 · subst n0
   have e0 : ps = [] := List.length_eq_zero_iff.1 EN.out
   have FF : Hid (WPoly w lo hi (.slice a 0 cap) (markP ps k)) := ⟨a, G, cap, g, s, by rw [ML.out], by rw [ML.out]; exact h2, HW.out.mx, HW.out.nl, Or.inl (List.length_eq_zero_iff.1 ML.out), fun i x hx => by rw [List.length_eq_zero_iff.1 ML.out] at hx; simp at hx, fun i j x y _ hx => by rw [List.length_eq_zero_iff.1 ML.out] at hx; simp at hx⟩
   have OZ : Hid (k + offs ps 0 = k) := show _ = _ by unfold offs; simp [tot]
   rw [OZ.out]
   go_enter Tryz.func36, Tryz.ntmps36
   go_wp2
   refine wp_loop_rounds 1 ?_
   rw [rounds_succ]
   go_wp2
   go_ret
   exact ⟨rfl, FF.out, Keep.refl _ _⟩
 · have hG := HW.out.at_.resolve_left (fun e => n0 (by rw [← EN.out, e]; rfl))
   obtain ⟨rfl, hG2⟩ := hG
   have GG := hide hG2
   clear hG2
   obtain ⟨KE, eKE⟩ : ∃ KE, k + offs ps n = KE := ⟨_, rfl⟩
   rw [eKE]
   have EKE := hide eKE
   clear eKE
   go_enter Tryz.func36, Tryz.ntmps36
   go_wp2
   go_loopw [1, 5] (fun q i wr => ∃ (j : Nat) (kk : Int), j ≤ n ∧ i = .int .i64 j ∧ q = .int .i64 kk ∧ Hid (kk = k + offs ps j) ∧ 0 ≤ kk ∧ kk ≤ 200000000000 ∧ Hid (WP wr lo hi (some ⟨G, 0, none⟩) G cap g s (mixP ps k j)) ∧ Hid (Keep (fun b => lo ≤ b ∧ b < hi) w wr)) (fun _ i _ => n - (intOf i).toNat)
   case atStart => exact ⟨0, k, by omega, rfl, rfl, by show _ = _; unfold offs; simp [tot], k0, by omega, by show WP _ _ _ _ _ _ _ _ _; rw [mix_zero]; exact HW.out, Keep.refl _ _⟩
   case round =>
    obtain ⟨j, kk, hj, rfl, rfl, HK, kk0, kk1, HP, HB⟩ := hrel
    by_cases hlt : j < n
    · obtain ⟨x, ex⟩ : ∃ x, ps[j]? = some x := ⟨_, List.getElem?_eq_getElem (by rw [EN.out]; exact hlt)⟩
      obtain ⟨c, at_⟩ := x
      have em := (mix_at (k := k) (n := j) ex).trans (by rw [if_neg (Nat.lt_irrefl _)])
      obtain ⟨p1, p2, p3, p4, p5⟩ := HP.out.cells j _ em
      have HP1 := HP.out.coef em kk
      have em1 : ((mixP ps k j).set j (kk, (c, at_).2))[j]? = some (kk, at_) := List.getElem?_set_self (by rw [mix_len, EN.out]; exact hlt)
      obtain ⟨r1, r2, r3, r4, r5⟩ := HP1.cells j _ em1
      have ON := hide (offs_next ex)
      have MX := hide (mix_next (k := k) ex)
      have TA : Hid (at_.length ≤ 1000000000) := show _ ≤ _ by have := tot_at ex; have := HS.out; simp only [] at *; omega
      have LT : Hid (offs ps j ≤ 1000000000) := show _ ≤ _ by have := tot_le (ps := ps) j; have := HS.out; unfold offs; omega
      have lw : G < wr.heap.size := Nat.lt_of_lt_of_le GG.out.2.2 HB.out.size
      have KT : Hid (Keep (fun b => lo ≤ b ∧ b < hi) w (wr.setCell ⟨G, j * 2, none⟩ (.int .i64 kk))) := HB.out.turn ((Turn.refl G wr).setCell (p := ⟨G, j * 2, none⟩) rfl (.int .i64 kk)) (fun b _ hn e => hn (e ▸ ⟨GG.out.1, GG.out.2.1⟩))
      have lj : ((j : Nat) : Int) < (n : Nat) := by omega
      obtain ⟨sq, sc, so, es, sl, sm, sz, _⟩ := r4
      have r4 := (HP1.cells j _ em1).2.2.2.1
      rw [es] at r3
      have HP1' := hide HP1
      have EM1 := hide em1
      have ES := hide es
      have P5 := hide p5
      simp only [] at p1 p2 r3
      clear HP1 em1 em p3 p4 p5 r1 r2 r5 es sl sm sz ex HP HB
      have R4 := hide r4
      clear r4
      go_wp2_with fail
      generalize wr.setCell ⟨G, j * 2, none⟩ (.int .i64 kk) = U at r3 HP1' KT R4 ⊢
      by_cases ea : at_ = []
      · subst ea
        have RR : WRow U (U.heap.size + 1) (.slice sq 0 sc) [] := by
         have := R4.out
         rw [ES.out] at this
         obtain ⟨q, c2, o2, h1, h2, h3, hz0, _⟩ := this
         exact ⟨q, c2, o2, h1, h2, h3, hz0, Or.inl rfl⟩
        refine (markIntS (kk + 1) [] (U.heap.size + 1) _ _ RR (by omega) (by omega) (by simp)).mono ?_
        rintro e u ⟨rfl, _, ht⟩
        have KU := Keep.of_turn ht
        have QP : Hid (WP u lo hi (some ⟨G, 0, none⟩) G cap g s (mixP ps k (j + 1))) := show WP _ _ _ _ _ _ _ _ _ by
         rw [← MX.out]
         have := HP1'.out.keep (w' := u) (S := fun _ => False) ⟨KU.os, KU.tape, KU.output, KU.size, fun b hb _ => KU.block b hb (fun (e : b = _) => by omega)⟩ (fun _ _ _ h => h)
         unfold markAt
         simp only [List.length_nil, marks_zero]
         rw [← HK.out]
         exact this
        have QK : Hid (Keep (fun b => lo ≤ b ∧ b < hi) w u) := KT.out.trans ⟨KU.os, KU.tape, KU.output, KU.size, fun b hb _ => KU.block b hb (fun (e : b = _) => by omega)⟩
        have QE : Hid (kk + 1 = k + offs ps (j + 1)) := show _ = _ by have := HK.out; have := ON.out; simp only [List.length_nil] at this; omega
        have qb : kk + 1 ≤ 200000000000 := by have := HK.out; have := LT.out; omega
        clear ht KU RR r3 HP1' KT R4 p1 p2
        simp only [List.length_nil, Int.natCast_zero, Int.add_zero]
        go_wp2
        exact ⟨⟨j + 1, kk + 1, by omega, by go_num, by first | rfl | go_num, QE, by omega, qb, QP, QK⟩, by simp [intOf]; omega⟩
      · have p5 := P5.out.resolve_left ea
        have RR : WRow U (g j) (.slice sq at_.length sc) at_ := by
         have := R4.out
         rw [ES.out] at this
         exact this
        refine (markIntS (kk + 1) at_ (g j) _ _ RR (by omega) (by omega) TA.out).mono ?_
        rintro e u ⟨rfl, hm, ht⟩
        have QP : Hid (WP u lo hi (some ⟨G, 0, none⟩) G cap g s (mixP ps k (j + 1))) := show WP _ _ _ _ _ _ _ _ _ by
         rw [← MX.out]
         have := HP1'.out.atoms (w' := u) EM1.out ht (ys := marks (kk + 1) at_.length) (by rw [ES.out]; exact hm) (marks_len _ _) ea
         rw [List.set_set] at this
         unfold markAt
         rw [← HK.out]
         exact this
        have QK : Hid (Keep (fun b => lo ≤ b ∧ b < hi) w u) := KT.out.turn ht (fun b _ hn e => hn (e ▸ ⟨p5.1, p5.2.1⟩))
        have QE : Hid (kk + 1 + at_.length = k + offs ps (j + 1)) := show _ = _ by have := HK.out; have := ON.out; omega
        have qb : kk + 1 + at_.length ≤ 200000000000 := by have := HK.out; have := LT.out; have := TA.out; omega
        clear ht hm RR r3 HP1' KT R4 p1 p2 p5
        go_wp2
        exact ⟨⟨j + 1, kk + 1 + at_.length, by omega, by go_num, by first | rfl | go_num, QE, by omega, qb, QP, QK⟩, by simp [intOf]; omega⟩
    · obtain rfl : j = n := by omega
      have HD : Hid (kk = KE) := HK.out.trans EKE.out
      have FF : Hid (WPoly wr lo hi (.slice (some ⟨G, 0, none⟩) j cap) (markP ps k)) := ⟨_, G, cap, g, s, by rw [ML.out], by rw [← MW.out]; exact HP.out⟩
      go_wp2
      go_ret
      exact ⟨ret_int HD.out, FF.out, HB.out⟩
set_option maxRecDepth 8000 in
set_option maxHeartbeats 4000000 in
theorem heldTrmMonoS (ps : List Mono) (k : Int) (B : Nat) (v : Value) (w : World) (h : PRow w B v (markP ps k)) (hs : ps.length + tot ps ≤ 1000000000) (k0 : 0 ≤ k) (k1 : k ≤ 100000000000) :
 Calls Tryz.prog 38 #[v, .int .i64 k] w fun e w' => e = .returned (.int .i64 (k + offs ps ps.length)) ∧ Below w.heap.size w w' := by
 obtain ⟨a, cap, off, rfl, h2, h3, hz, h4⟩ := h
 unfold maxLen at h3
 clear hz
 obtain ⟨n, en⟩ : ∃ n, ps.length = n := ⟨_, rfl⟩
 have EN := hide en
 have HS : Hid (n + tot ps ≤ 1000000000) := show _ ≤ _ by omega
 rw [mark_len, en] at h2 ⊢
 have H4 := hide h4
 obtain ⟨KE, eKE⟩ : ∃ KE, k + offs ps n = KE := ⟨_, rfl⟩
 rw [eKE]
 have EKE := hide eKE
 clear en h4 hs eKE
 go_enter Tryz.func38, Tryz.ntmps38
 by_cases n0 : n = 0
 · subst n0
   have OZ : Hid (k = KE) := show _ = _ by rw [← EKE.out]; unfold offs; simp [tot]
   go_wp2
   refine wp_loop_rounds 1 ?_
   rw [rounds_succ]
   go_wp2
   go_ret
   exact ⟨ret_int OZ.out, Below.refl _ _⟩
 · obtain ⟨rfl, hc⟩ := H4.out.resolve_left (fun e => n0 (by have := congrArg List.length e; rw [mark_len, EN.out] at this; exact this))
   have HC := hide hc
   clear hc H4
   go_wp2
   go_loopw [1, 5] (fun q i wr => ∃ (j : Nat) (kk : Int), j ≤ n ∧ i = .int .i64 j ∧ q = .int .i64 kk ∧ Hid (kk = k + offs ps j) ∧ 0 ≤ kk ∧ kk ≤ 200000000000 ∧ Hid (Below w.heap.size w wr)) (fun _ i _ => n - (intOf i).toNat)
   case atStart => exact ⟨0, k, by omega, rfl, rfl, by show _ = _; unfold offs; simp [tot], k0, by omega, Below.refl _ _⟩
   case round =>
    obtain ⟨j, kk, hj, rfl, rfl, HK, kk0, kk1, HB⟩ := hrel
    by_cases hlt : j < n
    · obtain ⟨x, ex⟩ : ∃ x, ps[j]? = some x := ⟨_, List.getElem?_eq_getElem (by rw [EN.out]; exact hlt)⟩
      obtain ⟨c, at_⟩ := x
      obtain ⟨g1, s, b, g2, g3⟩ := HC.out j _ (mark_at ex)
      unfold markAt at g1 g3
      simp only [] at g1 g3
      rw [← HK.out] at g1 g3
      have cx := cell_below HB.out g1
      have sx := cell_below HB.out g2
      have RX := hide (g3.below HB.out)
      obtain ⟨qa, ca, _, rfl, _⟩ := g3
      have ON := hide (offs_next ex)
      have TA : Hid (at_.length ≤ 1000000000) := show _ ≤ _ by have := tot_at ex; have := HS.out; simp only [] at *; omega
      have LT : Hid (offs ps j ≤ 1000000000) := show _ ≤ _ by have := tot_le (ps := ps) j; have := HS.out; unfold offs; omega
      have lj : ((j : Nat) : Int) < (n : Nat) := by omega
      have nk : (kk != kk) = false := by simp
      clear ex g1 g2
      go_wp2_with fail
      refine (heldIntS (kk + 1) at_.length b _ _ RX.out (by omega) (by omega) TA.out).mono ?_
      rintro e u ⟨rfl, hb⟩
      have HB2 := hide (HB.out.trans (hb.mono HB.out.size))
      have QE : Hid (kk + 1 + at_.length = k + offs ps (j + 1)) := show _ = _ by have := HK.out; have := ON.out; omega
      have qb : kk + 1 + at_.length ≤ 200000000000 := by have := HK.out; have := LT.out; have := TA.out; omega
      have qn : ¬ (kk + 1 + (at_.length : Int)) < 0 := by omega
      clear hb RX cx sx
      go_wp2
      exact ⟨⟨j + 1, kk + 1 + at_.length, by omega, by go_num, by first | rfl | go_num, QE, by omega, qb, HB2⟩, by simp [intOf]; omega⟩
    · obtain rfl : j = n := by omega
      have HD : Hid (kk = KE) := HK.out.trans EKE.out
      go_wp2
      go_ret
      exact ⟨ret_int HD.out, HB.out⟩
set_option maxRecDepth 8000 in
set_option maxHeartbeats 4000000 in
theorem markTrmPoly (ps : List Mono) (k : Int) (lo hi : Nat) (v : Value) (w : World) (h : WPoly w lo hi v ps) (hs : ps.length + tot ps ≤ 1000000000) (k0 : 0 ≤ k) (k1 : k ≤ 100000000000) :
 Calls Tryz.prog 13 #[.agg #[v], .int .i64 k] w fun e w' => e = .returned (.int .i64 (k + offs ps ps.length)) ∧ WPoly w' lo hi v (markP ps k) ∧ Keep (fun b => lo ≤ b ∧ b < hi) w w' := by
 have bV : Below w.heap.size w (w.alloc (.cells #[v] 35)) := (Below.refl _ _).alloc (Nat.le_refl _) _
 have H := hide (h.below bV)
 have BW := hide bV
 have HS := hide hs
 obtain ⟨a, G, cap, g, s, rfl, _⟩ := h
 clear bV hs
 go_enter Tryz.func13, Tryz.ntmps13
 go_wp2_with fail
 refine (markTrmMonoS ps k lo hi _ _ H.out HS.out k0 k1).mono ?_
 rintro e u ⟨rfl, M, K⟩
 have KK := hide ((Keep.of_below BW.out).trans K)
 have MM := hide M
 clear M K H
 go_wp2
 go_ret
 exact ⟨rfl, MM.out, KK.out⟩
theorem heldTrmPoly (ps : List Mono) (k : Int) (B : Nat) (v : Value) (w : World) (h : PRow w B v (markP ps k)) (hs : ps.length + tot ps ≤ 1000000000) (k0 : 0 ≤ k) (k1 : k ≤ 100000000000) :
 Calls Tryz.prog 15 #[.agg #[v], .int .i64 k] w fun e w' => e = .returned (.int .i64 (k + offs ps ps.length)) ∧ Below w.heap.size w w' := by
 have bV : Below w.heap.size w (w.alloc (.cells #[v] 35)) := (Below.refl _ _).alloc (Nat.le_refl _) _
 have H := hide (h.below bV)
 have BW := hide bV
 have HS := hide hs
 obtain ⟨a, cap, off, rfl, _⟩ := h
 have hp : 0 ≤ k + offs ps ps.length := by unfold offs; omega
 obtain ⟨KE, eKE⟩ : ∃ KE, k + offs ps ps.length = KE := ⟨_, rfl⟩
 rw [eKE] at hp ⊢
 have EK := hide eKE
 have hp' : ¬ KE < 0 := by omega
 clear bV hs eKE
 go_enter Tryz.func15, Tryz.ntmps15
 go_wp2_with fail
 refine (heldTrmMonoS ps k B _ _ H.out HS.out k0 k1).mono ?_
 rintro e u ⟨rfl, hb⟩
 rw [EK.out]
 replace BW := hide (BW.out.trans (hb.mono BW.out.size))
 clear hb
 go_wp2
 go_ret
 exact ⟨rfl, BW.out⟩
end Go.Proofs.YtggilenddbobnaaGreat.Pol
namespace Go.Proofs.YtggilenddbobnaaGreat.Tab
set_option linter.unusedVariables false
open Go.ChangeShapes Go.WideShapes Go.ChangeAt Go.RowKit IntS Pol
def offT (ts : List At) (j : Nat) : Int := 2 * (j : Int) + (totT (ts.take j) : Int)
theorem offs_full (ps : List Mono) : offs ps ps.length = (ps.length : Int) + (tot ps : Int) := by unfold offs; rw [List.take_length]
theorem offT_next {ts : List At} {j : Nat} {t : At} (h : ts[j]? = some t) : offT ts (j + 1) = offT ts j + 2 + offs t.x t.x.length + offs t.y t.y.length := by
 rw [offs_full, offs_full]
 unfold offT
 rw [totT_next h]
 unfold szA
 omega
def markT1 (ts : List At) (k : Int) (j : Nat) (t : At) : At := ⟨k + offT ts j, k + offT ts j + 1, markP t.x (k + offT ts j + 2), markP t.y (k + offT ts j + 2 + offs t.x t.x.length)⟩
def mixT (ts : List At) (k : Int) (n : Nat) : List At := ts.mapIdx fun j x => if j < n then markT1 ts k j x else x
def markT (ts : List At) (k : Int) : List At := ts.mapIdx fun j x => markT1 ts k j x
theorem markT_at {ts : List At} {k : Int} {j : Nat} {x : At} (h : ts[j]? = some x) : (markT ts k)[j]? = some (markT1 ts k j x) := by unfold markT; rw [List.getElem?_mapIdx, h]; rfl
theorem mixT_at {ts : List At} {k : Int} {n j : Nat} {x : At} (h : ts[j]? = some x) : (mixT ts k n)[j]? = some (if j < n then markT1 ts k j x else x) := by unfold mixT; rw [List.getElem?_mapIdx, h]; rfl
theorem mixT_len (ts : List At) (k : Int) (n : Nat) : (mixT ts k n).length = ts.length := by unfold mixT; rw [List.length_mapIdx]
theorem markT_len (ts : List At) (k : Int) : (markT ts k).length = ts.length := by unfold markT; rw [List.length_mapIdx]
theorem mixT_none {ts : List At} {k : Int} {n j : Nat} (h : ts[j]? = none) : (mixT ts k n)[j]? = none := by unfold mixT; rw [List.getElem?_mapIdx, h]; rfl
theorem mixT_zero (ts : List At) (k : Int) : mixT ts k 0 = ts := by
 apply List.ext_getElem?
 intro i
 cases h : ts[i]? with
 | none => rw [mixT_none h]
 | some x => rw [mixT_at h, if_neg (by omega)]
theorem mixT_whole (ts : List At) (k : Int) : mixT ts k ts.length = markT ts k := by
 apply List.ext_getElem?
 intro i
 cases h : ts[i]? with
 | none => rw [mixT_none h]; unfold markT; rw [List.getElem?_mapIdx, h]; rfl
 | some x => rw [mixT_at h, markT_at h, if_pos (List.getElem?_eq_some_iff.1 h).1]
theorem mixT_next {ts : List At} {k : Int} {n : Nat} {x : At} (h : ts[n]? = some x) : (mixT ts k n).set n (markT1 ts k n x) = mixT ts k (n + 1) := by
 apply List.ext_getElem?
 intro i
 by_cases e : n = i
 · subst e
   rw [List.getElem?_set_self (by rw [mixT_len]; exact (List.getElem?_eq_some_iff.1 h).1), mixT_at h, if_pos (by omega)]
 · rw [List.getElem?_set_ne e]
   cases g : ts[i]? with
   | none => rw [mixT_none g, mixT_none g]
   | some y =>
    rw [mixT_at g, mixT_at g]
    by_cases e2 : i < n
    · rw [if_pos e2, if_pos (by omega)]
    · rw [if_neg e2, if_neg (by omega)]
theorem WT.mark {w w' : World} {lo hi : Nat} {a : Option Addr} {G cap : Nat} {l m hh : Nat → Nat} {sx sy : Nat → Value} {ts : List At} (h : WT w lo hi a G cap l m hh sx sy ts) {j : Nat} {t : At} (ht : ts[j]? = some t) {kd k : Int} {xs ys : List Mono}
 (hk : Keep (fun b => b = G ∨ (l j ≤ b ∧ b < hh j)) w w') (c0 : w'.cell? ⟨G, j * 4, none⟩ = some (.int .i64 kd)) (c1 : w'.cell? ⟨G, j * 4 + 1, none⟩ = some (.int .i64 k)) (far : ∀ o, o ≠ j * 4 → o ≠ j * 4 + 1 → w'.cell? ⟨G, o, none⟩ = w.cell? ⟨G, o, none⟩) (fr : ∀ o, w'.frozen? ⟨G, o, none⟩ = w.frozen? ⟨G, o, none⟩)
 (hx : WPoly w' (l j) (m j) (sx j) xs) (hy : WPoly w' (m j) (hh j) (sy j) ys) : WT w' lo hi a G cap l m hh sx sy (ts.set j ⟨kd, k, xs, ys⟩) := by
 have hj := (List.getElem?_eq_some_iff.1 ht).1
 have hG := h.at_.resolve_left (fun e => by rw [e] at ht; simp at ht)
 refine ⟨by rw [List.length_set]; exact h.le, h.mx, h.nl, Or.inr ⟨hG.1, hG.2.1, hG.2.2.1, Nat.lt_of_lt_of_le hG.2.2.2 hk.size⟩, fun i x hi => ?_, fun i i' e e' => h.apart i i' e (by rw [List.length_set] at e'; exact e')⟩
 by_cases e : j = i
 · subst e
   rw [List.getElem?_set_self hj] at hi
   obtain rfl := Option.some.inj hi
   obtain ⟨⟨k1, k2, k3, k4, k5, k6⟩, _, _, k9⟩ := h.cells j t ht
   exact ⟨⟨c0, (fr _).trans k2, c1, (fr _).trans k4, (far _ (by omega) (by omega)).trans k5, (far _ (by omega) (by omega)).trans k6⟩, hx, hy, k9⟩
 · rw [List.getElem?_set_ne e] at hi
   have hil := (List.getElem?_eq_some_iff.1 hi).1
   obtain ⟨⟨k1, k2, k3, k4, k5, k6⟩, k7, k8, k9, k10, k11, k12, k13⟩ := h.cells i x hi
   have hap : hh i ≤ l j ∨ hh j ≤ l i := by
    by_cases e2 : i < j
    · exact Or.inl (h.apart i j e2 hj)
    · exact Or.inr (h.apart j i (by omega) hil)
   obtain ⟨_, _, _, q1, q2, q3, _, q4⟩ := h.cells j t ht
   refine ⟨⟨(far _ (by omega) (by omega)).trans k1, (fr _).trans k2, (far _ (by omega) (by omega)).trans k3, (fr _).trans k4, (far _ (by omega) (by omega)).trans k5, (far _ (by omega) (by omega)).trans k6⟩, k7.keep hk (fun b h1 h2 h3 => ?_), k8.keep hk (fun b h1 h2 h3 => ?_), k9, k10, k11, k12, k13⟩
   · rcases h3 with h3 | h3 <;> omega
   · rcases h3 with h3 | h3 <;> omega
end Go.Proofs.YtggilenddbobnaaGreat.Tab
namespace Go.Proofs.YtggilenddbobnaaGreat.Tab
set_option linter.unusedVariables false
open Go.ChangeShapes Go.WideShapes Go.ChangeAt Go.RowKit IntS Pol
set_option maxRecDepth 8000 in
set_option maxHeartbeats 8000000 in
theorem markTabAtomS (ts : List At) (k : Int) (lo hi : Nat) (v : Value) (w : World) (h : WTab w lo hi v ts) (hs : ts.length + totT ts ≤ 1000000000) (k0 : 0 ≤ k) (k1 : k ≤ 1000000000) :
 Calls Tryz.prog 35 #[v, .int .i64 k] w fun e w' => e = .returned (.int .i64 (k + offT ts ts.length)) ∧ WTab w' lo hi v (markT ts k) ∧ Keep (fun b => lo ≤ b ∧ b < hi) w w' := by
 obtain ⟨a, G, cap, l, m, hh, sx, sy, rfl, h⟩ := h
 have h2 := h.le
 have h3 := h.mx
 unfold maxLen at h3
 obtain ⟨n, en⟩ : ∃ n, ts.length = n := ⟨_, rfl⟩
 have EN := hide en
 have HS : Hid (n + totT ts ≤ 1000000000) := show _ ≤ _ by omega
 have HW := hide h
 rw [en] at h2 ⊢
 have ML : Hid ((markT ts k).length = n) := show _ = _ by rw [markT_len, en]
 have MW : Hid (mixT ts k n = markT ts k) := show _ = _ by rw [← en]; exact mixT_whole ts k
 clear en hs h
 by_cases n0 : n = 0
 · subst n0
   have FF : Hid (WTab w lo hi (.slice a 0 cap) (markT ts k)) := ⟨a, G, cap, l, m, hh, sx, sy, by rw [ML.out], by rw [← MW.out, mixT_zero]; exact HW.out⟩
   have OZ : Hid (k + offT ts 0 = k) := show _ = _ by unfold offT; simp [totT]
   rw [OZ.out]
   go_enter Tryz.func35, Tryz.ntmps35
   go_wp2
   refine wp_loop_rounds 1 ?_
   rw [rounds_succ]
   go_wp2
   go_ret
   exact ⟨rfl, FF.out, Keep.refl _ _⟩
 · have hG := HW.out.at_.resolve_left (fun e => n0 (by rw [← EN.out, e]; rfl))
   obtain ⟨rfl, hG2⟩ := hG
   have GG := hide hG2
   clear hG2
   obtain ⟨KE, eKE⟩ : ∃ KE, k + offT ts n = KE := ⟨_, rfl⟩
   rw [eKE]
   have EKE := hide eKE
   clear eKE
   go_enter Tryz.func35, Tryz.ntmps35
   go_wp2
   go_loopw [1, 5] (fun q i wr => ∃ (j : Nat) (kk : Int), j ≤ n ∧ i = .int .i64 j ∧ q = .int .i64 kk ∧ Hid (kk = k + offT ts j) ∧ 0 ≤ kk ∧ kk ≤ 10000000000 ∧ Hid (WT wr lo hi (some ⟨G, 0, none⟩) G cap l m hh sx sy (mixT ts k j)) ∧ Hid (Keep (fun b => lo ≤ b ∧ b < hi) w wr)) (fun _ i _ => n - (intOf i).toNat)
   case atStart => exact ⟨0, k, by omega, rfl, rfl, by show _ = _; unfold offT; simp [totT], k0, by omega, by show WT _ _ _ _ _ _ _ _ _ _ _ _; rw [mixT_zero]; exact HW.out, Keep.refl _ _⟩
   case round =>
    obtain ⟨j, kk, hj, rfl, rfl, HK, kk0, kk1, HP, HB⟩ := hrel
    by_cases hlt : j < n
    case neg =>
     obtain rfl : j = n := by omega
     have HD : Hid (kk = KE) := HK.out.trans EKE.out
     have FF : Hid (WTab wr lo hi (.slice (some ⟨G, 0, none⟩) j cap) (markT ts k)) := ⟨_, G, cap, l, m, hh, sx, sy, by rw [ML.out], by rw [← MW.out]; exact HP.out⟩
     go_wp2
     go_ret
     exact ⟨ret_int HD.out, FF.out, HB.out⟩
    obtain ⟨t, et⟩ : ∃ t, ts[j]? = some t := ⟨_, List.getElem?_eq_getElem (by rw [EN.out]; exact hlt)⟩
    have em := (mixT_at (k := k) (n := j) et).trans (by rw [if_neg (Nat.lt_irrefl _)])
    obtain ⟨⟨p1, f1, p2, f2, p3, p4⟩, px, py, i1, i2, i3, i4, i5⟩ := HP.out.cells j t em
    have sz := totT_at et
    have sz2 := totT_le (ts := ts) j
    have ON := hide (offT_next et)
    have MX := hide (mixT_next (k := k) et)
    have XS : Hid (t.x.length + tot t.x ≤ 1000000000) := show _ ≤ _ by have := HS.out; unfold szA at sz; omega
    have YS : Hid (t.y.length + tot t.y ≤ 1000000000) := show _ ≤ _ by have := HS.out; unfold szA at sz; omega
    have LT : Hid (offT ts j ≤ 3000000000) := show _ ≤ _ by have := HS.out; unfold offT; omega
    have XO : Hid (0 ≤ offs t.x t.x.length ∧ offs t.x t.x.length ≤ 1000000000) := ⟨by rw [offs_full]; omega, by rw [offs_full]; have := XS.out; omega⟩
    have YO : Hid (0 ≤ offs t.y t.y.length ∧ offs t.y t.y.length ≤ 1000000000) := ⟨by rw [offs_full]; omega, by rw [offs_full]; have := YS.out; omega⟩
    have lw : G < wr.heap.size := Nat.lt_of_lt_of_le GG.out.2.2 HB.out.size
    have lj : ((j : Nat) : Int) < (n : Nat) := by omega
    have PX := hide (poly_other (poly_other px ⟨G, j * 4, none⟩ (.int .i64 kk) (by show G < l j ∨ m j ≤ G; omega)) ⟨G, j * 4 + 1, none⟩ (.int .i64 (kk + 1)) (by show G < l j ∨ m j ≤ G; omega))
    have PY := hide (poly_other (poly_other py ⟨G, j * 4, none⟩ (.int .i64 kk) (by show G < m j ∨ hh j ≤ G; omega)) ⟨G, j * 4 + 1, none⟩ (.int .i64 (kk + 1)) (by show G < m j ∨ hh j ≤ G; omega))
    have KW : Hid (Keep (fun b => b = G ∨ (l j ≤ b ∧ b < hh j)) wr ((wr.setCell ⟨G, j * 4, none⟩ (.int .i64 kk)).setCell ⟨G, j * 4 + 1, none⟩ (.int .i64 (kk + 1)))) := (Keep.of_turn (((Turn.refl G wr).setCell (p := ⟨G, j * 4, none⟩) rfl (.int .i64 kk)).setCell (p := ⟨G, j * 4 + 1, none⟩) rfl (.int .i64 (kk + 1)))).mono (fun b _ h => Or.inl h)
    have hf1 : (wr.setCell ⟨G, j * 4, none⟩ (.int .i64 kk)).cell? ⟨G, j * 4 + 1, none⟩ = some (.int .i64 t.k) := (World.cell?_setCell_other _ _ _ _ (off_ne (by omega))).trans p2
    have d0 : ((wr.setCell ⟨G, j * 4, none⟩ (.int .i64 kk)).setCell ⟨G, j * 4 + 1, none⟩ (.int .i64 (kk + 1))).cell? ⟨G, j * 4, none⟩ = some (.int .i64 kk) := (World.cell?_setCell_other _ _ _ _ (off_ne (by omega))).trans (World.cell?_setCell_same _ _ _ p1)
    have d1 : ((wr.setCell ⟨G, j * 4, none⟩ (.int .i64 kk)).setCell ⟨G, j * 4 + 1, none⟩ (.int .i64 (kk + 1))).cell? ⟨G, j * 4 + 1, none⟩ = some (.int .i64 (kk + 1)) := World.cell?_setCell_same _ _ _ hf1
    have far : ∀ o, o ≠ j * 4 → o ≠ j * 4 + 1 → ((wr.setCell ⟨G, j * 4, none⟩ (.int .i64 kk)).setCell ⟨G, j * 4 + 1, none⟩ (.int .i64 (kk + 1))).cell? ⟨G, o, none⟩ = wr.cell? ⟨G, o, none⟩ := fun o e1 e2 => by
     rw [World.cell?_setCell_other _ _ _ _ (off_ne (fun h => e2 h.symm)), World.cell?_setCell_other _ _ _ _ (off_ne (fun h => e1 h.symm))]
    have fro : ∀ o, ((wr.setCell ⟨G, j * 4, none⟩ (.int .i64 kk)).setCell ⟨G, j * 4 + 1, none⟩ (.int .i64 (kk + 1))).frozen? ⟨G, o, none⟩ = wr.frozen? ⟨G, o, none⟩ := fun o => by
     rw [World.frozen?_setCell, World.frozen?_setCell]
    have d2 := (far (j * 4 + 2) (by omega) (by omega)).trans p3
    have d3 := (far (j * 4 + 3) (by omega) (by omega)).trans p4
    have D0 := hide d0
    have D1 := hide d1
    have D3 := hide d3
    have FA := hide far
    have FO := hide fro
    have SW : Hid (G < ((wr.setCell ⟨G, j * 4, none⟩ (.int .i64 kk)).setCell ⟨G, j * 4 + 1, none⟩ (.int .i64 (kk + 1))).heap.size) := show _ < _ by rw [setCell_size, setCell_size]; exact lw
    obtain ⟨qx, _, cx, _, _, ex, _⟩ := px
    obtain ⟨qy, _, cy, _, _, ey, _⟩ := py
    rw [ex] at d2
    have EX := hide ex
    have EY := hide ey
    have EM := hide em
    have IV : Hid (lo ≤ l j ∧ l j ≤ m j ∧ m j ≤ hh j ∧ hh j ≤ hi ∧ (G < l j ∨ hh j ≤ G)) := ⟨i1, i2, i3, i4, i5⟩
    clear et em sz sz2 hf1 d0 d1 d3 far fro ex ey p3 p4 i1 i2 i3 i4 i5
    go_wp2_with fail
    generalize (wr.setCell ⟨G, j * 4, none⟩ (.int .i64 kk)).setCell ⟨G, j * 4 + 1, none⟩ (.int .i64 (kk + 1)) = U at PX PY KW d2 D0 D1 D3 FA FO SW ⊢
    rw [EX.out] at PX
    obtain ⟨k2, e2⟩ : ∃ k2, kk + 1 + 1 = k2 := ⟨_, rfl⟩
    rw [e2]
    have E2 : Hid (k2 = k + offT ts j + 2) := show _ = _ by have := HK.out; omega
    have b2 : 0 ≤ k2 ∧ k2 ≤ 10000000002 := by omega
    clear e2 d2 p1 p2 f1 f2
    refine (markTrmMonoS t.x k2 (l j) (m j) _ _ PX.out XS.out (by omega) (by omega)).mono ?_
    rintro e u ⟨rfl, QX, hk⟩
    have iv := IV.out
    have D0' := (World.cell?_of_block (w := U) (a := ⟨G, j * 4, none⟩) (hk.block G SW.out (by omega))).trans D0.out
    have D1' := (World.cell?_of_block (w := U) (a := ⟨G, j * 4 + 1, none⟩) (hk.block G SW.out (by omega))).trans D1.out
    have d3 := (World.cell?_of_block (w := U) (a := ⟨G, j * 4 + 3, none⟩) (hk.block G SW.out (by omega))).trans D3.out
    have FA' : ∀ o, o ≠ j * 4 → o ≠ j * 4 + 1 → u.cell? ⟨G, o, none⟩ = wr.cell? ⟨G, o, none⟩ := fun o h1 h2 => (World.cell?_of_block (w := U) (a := ⟨G, o, none⟩) (hk.block G SW.out (by omega))).trans (FA.out o h1 h2)
    have FO' : ∀ o, u.frozen? ⟨G, o, none⟩ = wr.frozen? ⟨G, o, none⟩ := fun o => (World.frozen?_of_block (w := U) (a := ⟨G, o, none⟩) (hk.block G SW.out (by omega))).trans (FO.out o)
    have SW' : G < u.heap.size := Nat.lt_of_lt_of_le SW.out hk.size
    have KW' := KW.out.trans (hk.mono (fun b _ h => Or.inr ⟨h.1, by have := h.2; omega⟩))
    have PY' := PY.out.keep hk (fun b h1 h2 h3 => by omega)
    rw [EY.out] at d3 PY'
    replace D0 := hide D0'
    replace D1 := hide D1'
    replace FA := hide FA'
    replace FO := hide FO'
    replace SW := hide SW'
    replace KW := hide KW'
    replace PY := hide PY'
    replace QX := hide QX
    clear D0' D1' FA' FO' SW' KW' PY' PX D3 hk iv
    obtain ⟨k3, e3⟩ : ∃ k3, k2 + offs t.x t.x.length = k3 := ⟨_, rfl⟩
    rw [e3]
    have E3 := hide e3
    have b3 : 0 ≤ k3 ∧ k3 ≤ 20000000000 := by have := XO.out; omega
    clear e3
    go_wp2_with fail
    refine (markTrmMonoS t.y k3 (m j) (hh j) _ _ PY.out YS.out (by omega) (by omega)).mono ?_
    rintro e u' ⟨rfl, QY, hk⟩
    have iv := IV.out
    have D0' := (World.cell?_of_block (w := u) (a := ⟨G, j * 4, none⟩) (hk.block G SW.out (by omega))).trans D0.out
    have D1' := (World.cell?_of_block (w := u) (a := ⟨G, j * 4 + 1, none⟩) (hk.block G SW.out (by omega))).trans D1.out
    have FA' : ∀ o, o ≠ j * 4 → o ≠ j * 4 + 1 → u'.cell? ⟨G, o, none⟩ = wr.cell? ⟨G, o, none⟩ := fun o h1 h2 => (World.cell?_of_block (w := u) (a := ⟨G, o, none⟩) (hk.block G SW.out (by omega))).trans (FA.out o h1 h2)
    have FO' : ∀ o, u'.frozen? ⟨G, o, none⟩ = wr.frozen? ⟨G, o, none⟩ := fun o => (World.frozen?_of_block (w := u) (a := ⟨G, o, none⟩) (hk.block G SW.out (by omega))).trans (FO.out o)
    have KW' := KW.out.trans (hk.mono (fun b _ h => Or.inr ⟨by have := h.1; omega, h.2⟩))
    have QX' := QX.out.keep hk (fun b h1 h2 h3 => by omega)
    rw [← EX.out] at QX'
    rw [← EY.out] at QY
    have NW := WT.mark HP.out EM.out KW' D0' D1' FA' FO' QX' QY
    have eM : (⟨kk, kk + 1, markP t.x k2, markP t.y k3⟩ : At) = markT1 ts k j t := by
     unfold markT1
     rw [← E3.out, E2.out, HK.out]
    rw [eM, MX.out] at NW
    have NW2 := hide NW
    have QK := hide (HB.out.trans (KW'.mono (fun b _ h => by
     rcases h with h | h
     · subst h; exact ⟨GG.out.1, GG.out.2.1⟩
     · omega)))
    obtain ⟨k4, e4⟩ : ∃ k4, k3 + offs t.y t.y.length = k4 := ⟨_, rfl⟩
    have QE : Hid (k4 = k + offT ts (j + 1)) := show _ = _ by have := E3.out; have := E2.out; have := ON.out; omega
    have b4 : 0 ≤ k4 ∧ k4 ≤ 10000000000 := by have := XO.out; have := YO.out; have := LT.out; have := E3.out; have := E2.out; omega
    rw [e4]
    clear D0' D1' FA' FO' KW' QX' QY eM NW hk iv e4 d3 D0 D1 FA FO SW KW PY QX HP HB
    go_wp2
    exact ⟨⟨j + 1, k4, by omega, by go_num, rfl, QE, b4.1, b4.2, NW2, QK⟩, by simp [intOf]; omega⟩
end Go.Proofs.YtggilenddbobnaaGreat.Tab
namespace Go.Proofs.YtggilenddbobnaaGreat.Tab
set_option linter.unusedVariables false
open Go.ChangeShapes Go.WideShapes Go.ChangeAt Go.RowKit IntS Pol
set_option maxRecDepth 8000 in
set_option maxHeartbeats 4000000 in
theorem markTabTab (ts : List At) (k : Int) (lo hi : Nat) (v : Value) (w : World) (h : WTab w lo hi v ts) (hs : ts.length + totT ts ≤ 1000000000) (k0 : 0 ≤ k) (k1 : k ≤ 1000000000) :
 Calls Tryz.prog 12 #[.agg #[v], .int .i64 k] w fun e w' => e = .returned (.int .i64 (k + offT ts ts.length)) ∧ WTab w' lo hi v (markT ts k) ∧ Keep (fun b => lo ≤ b ∧ b < hi) w w' := by
 have bV : Below w.heap.size w (w.alloc (.cells #[v] 32)) := (Below.refl _ _).alloc (Nat.le_refl _) _
 have H := hide (h.below bV)
 have BW := hide bV
 have HS := hide hs
 obtain ⟨a, G, cap, l, m, hh, sx, sy, rfl, _⟩ := h
 clear bV hs
 go_enter Tryz.func12, Tryz.ntmps12
 go_wp2_with fail
 refine (markTabAtomS ts k lo hi _ _ H.out HS.out k0 k1).mono ?_
 rintro e u ⟨rfl, M, K⟩
 have KK := hide ((Keep.of_below BW.out).trans K)
 have MM := hide M
 clear M K H
 go_wp2
 go_ret
 exact ⟨rfl, MM.out, KK.out⟩
set_option maxRecDepth 8000 in
set_option maxHeartbeats 8000000 in
theorem heldTabAtomS (ts : List At) (k : Int) (B : Nat) (v : Value) (w : World) (h : TRow w B v (markT ts k)) (hs : ts.length + totT ts ≤ 1000000000) (k0 : 0 ≤ k) (k1 : k ≤ 1000000000) :
 Calls Tryz.prog 37 #[v, .int .i64 k] w fun e w' => e = .returned (.int .i64 (k + offT ts ts.length)) ∧ Below w.heap.size w w' := by
 obtain ⟨a, cap, off, rfl, h2, h3, hz, h4⟩ := h
 unfold maxLen at h3
 clear hz
 obtain ⟨n, en⟩ : ∃ n, ts.length = n := ⟨_, rfl⟩
 have EN := hide en
 have HS : Hid (n + totT ts ≤ 1000000000) := show _ ≤ _ by omega
 rw [markT_len, en] at h2 ⊢
 have H4 := hide h4
 obtain ⟨KE, eKE⟩ : ∃ KE, k + offT ts n = KE := ⟨_, rfl⟩
 rw [eKE]
 have EKE := hide eKE
 clear en h4 hs eKE
 go_enter Tryz.func37, Tryz.ntmps37
 by_cases n0 : n = 0
 · subst n0
   have OZ : Hid (k = KE) := show _ = _ by rw [← EKE.out]; unfold offT; simp [totT]
   go_wp2
   refine wp_loop_rounds 1 ?_
   rw [rounds_succ]
   go_wp2
   go_ret
   exact ⟨ret_int OZ.out, Below.refl _ _⟩
 · obtain ⟨rfl, hc⟩ := H4.out.resolve_left (fun e => n0 (by have := congrArg List.length e; rw [markT_len, EN.out] at this; exact this))
   have HC := hide hc
   clear hc H4
   go_wp2
   go_loopw [1, 5] (fun q i wr => ∃ (j : Nat) (kk : Int), j ≤ n ∧ i = .int .i64 j ∧ q = .int .i64 kk ∧ Hid (kk = k + offT ts j) ∧ 0 ≤ kk ∧ kk ≤ 10000000000 ∧ Hid (Below w.heap.size w wr)) (fun _ i _ => n - (intOf i).toNat)
   case atStart => exact ⟨0, k, by omega, rfl, rfl, by show _ = _; unfold offT; simp [totT], k0, by omega, Below.refl _ _⟩
   case round =>
    obtain ⟨j, kk, hj, rfl, rfl, HK, kk0, kk1, HB⟩ := hrel
    by_cases hlt : j < n
    case neg =>
     obtain rfl : j = n := by omega
     have HD : Hid (kk = KE) := HK.out.trans EKE.out
     go_wp2
     go_ret
     exact ⟨ret_int HD.out, HB.out⟩
    obtain ⟨t, et⟩ : ∃ t, ts[j]? = some t := ⟨_, List.getElem?_eq_getElem (by rw [EN.out]; exact hlt)⟩
    have AA := (HC.out j _ (markT_at et)).below HB.out
    have sz := totT_at et
    have sz2 := totT_le (ts := ts) j
    have ON := hide (offT_next et)
    have XS : Hid (t.x.length + tot t.x ≤ 1000000000) := show _ ≤ _ by have := HS.out; unfold szA at sz; omega
    have YS : Hid (t.y.length + tot t.y ≤ 1000000000) := show _ ≤ _ by have := HS.out; unfold szA at sz; omega
    have LT : Hid (offT ts j ≤ 3000000000) := show _ ≤ _ by have := HS.out; unfold offT; omega
    have XO : Hid (0 ≤ offs t.x t.x.length ∧ offs t.x t.x.length ≤ 1000000000) := ⟨by rw [offs_full]; omega, by rw [offs_full]; have := XS.out; omega⟩
    have YO : Hid (0 ≤ offs t.y t.y.length ∧ offs t.y t.y.length ≤ 1000000000) := ⟨by rw [offs_full]; omega, by rw [offs_full]; have := YS.out; omega⟩
    obtain ⟨k2, e2⟩ : ∃ k2, kk + 1 + 1 = k2 := ⟨_, rfl⟩
    obtain ⟨k3, e3⟩ : ∃ k3, k2 + offs t.x t.x.length = k3 := ⟨_, rfl⟩
    unfold markT1 AtAt at AA
    simp only [mark_len] at AA
    rw [← HK.out, show kk + 2 = k2 by omega, e3] at AA
    obtain ⟨c0, c1, qx, cx, bx, qy, cy, b, c2, px, c3, py⟩ := AA
    have PX := hide px
    have PY := hide py
    have E3 := hide e3
    have E2 : Hid (k2 = kk + 2) := show _ = _ by omega
    have b2 : 0 ≤ k2 ∧ k2 ≤ 10000000002 := by omega
    have b3 : 0 ≤ k3 ∧ k3 ≤ 20000000000 := by have := XO.out; omega
    have lj : ((j : Nat) : Int) < (n : Nat) := by omega
    have nk : (kk != kk) = false := by simp
    have nk1 : (kk + 1 != kk + 1) = false := by simp
    have C3 := hide c3
    clear et sz sz2 px py e3 c3
    go_wp2_with fail
    clear e2
    refine (heldTrmMonoS t.x k2 bx _ _ PX.out XS.out (by omega) (by omega)).mono ?_
    rintro e u ⟨rfl, hb⟩
    rw [E3.out]
    have HY := hide (PY.out.below hb)
    have c3 := cell_below hb C3.out
    have HB2 := hide (HB.out.trans (hb.mono HB.out.size))
    have q3 : ¬ k3 < 0 := by omega
    clear hb PX PY HB c0 c1 c2
    go_wp2_with fail
    refine (heldTrmMonoS t.y k3 b _ _ HY.out YS.out (by omega) (by omega)).mono ?_
    rintro e u2 ⟨rfl, hb⟩
    have HB3 := hide (HB2.out.trans (hb.mono HB2.out.size))
    obtain ⟨k4, e4⟩ : ∃ k4, k3 + offs t.y t.y.length = k4 := ⟨_, rfl⟩
    have QE : Hid (k4 = k + offT ts (j + 1)) := show _ = _ by have := E3.out; have := E2.out; have := ON.out; have := HK.out; omega
    have b4 : 0 ≤ k4 ∧ k4 ≤ 10000000000 := by have := XO.out; have := YO.out; have := LT.out; have := E3.out; have := E2.out; have := HK.out; omega
    rw [e4]
    have q4 : ¬ k4 < 0 := by omega
    clear e4 hb c3 HY HB2
    go_wp2
    exact ⟨⟨j + 1, k4, by omega, by go_num, rfl, QE, b4.1, b4.2, HB3⟩, by simp [intOf]; omega⟩
theorem heldTabTab (ts : List At) (k : Int) (B : Nat) (v : Value) (w : World) (h : TRow w B v (markT ts k)) (hs : ts.length + totT ts ≤ 1000000000) (k0 : 0 ≤ k) (k1 : k ≤ 1000000000) :
 Calls Tryz.prog 14 #[.agg #[v], .int .i64 k] w fun e w' => e = .returned (.int .i64 (k + offT ts ts.length)) ∧ Below w.heap.size w w' := by
 have bV : Below w.heap.size w (w.alloc (.cells #[v] 32)) := (Below.refl _ _).alloc (Nat.le_refl _) _
 have H := hide (h.below bV)
 have BW := hide bV
 have HS := hide hs
 have OO : 0 ≤ k + offT ts ts.length := by unfold offT; omega
 obtain ⟨KE, eKE⟩ : ∃ KE, k + offT ts ts.length = KE := ⟨_, rfl⟩
 have EKE := hide eKE
 rw [eKE] at OO ⊢
 have qn : ¬ KE < 0 := by omega
 obtain ⟨a, cap, off, rfl, _⟩ := h
 clear bV hs eKE
 go_enter Tryz.func14, Tryz.ntmps14
 go_wp2_with fail
 refine (heldTabAtomS ts k B _ _ H.out HS.out k0 k1).mono ?_
 rintro e u ⟨rfl, hb⟩
 rw [EKE.out]
 replace BW := hide (BW.out.trans (hb.mono BW.out.size))
 clear hb H
 go_wp2
 go_ret
 exact ⟨rfl, BW.out⟩
end Go.Proofs.YtggilenddbobnaaGreat.Tab
namespace Go.Proofs.YtggilenddbobnaaGreat.PhaseIn
open Go
section
variable {P : Program} {ops : Array Oper} {Q : Exit → Act → World → Prop} {md : Region.Mode} {S : World → Prop} {n : Nat}
theorem any_list {fuel : Nat} {listed : Array Bool} {a : Act} {w : World} (l : List Nat) (hr : Region.ready md ops listed = l) (hne : l ≠ [])
 (h : ∀ i ∈ l, ∃ o, ops[i]? = some o ∧ Region.wanted o (yielded ops a.tmps) = true ∧ ∀ K : Act → World → Prop, (∀ a' w', S w' → wpAnyW P md ops Q S n fuel (listed.setIfInBounds i true) a' w' → K a' w') → Oper.wpIn Fence.wide 0 P o a w K Q) : wpAnyW P md ops Q S n (fuel + 1) listed a w := by
 refine ⟨fun h0 => (hne (by rw [← hr]; exact h0)).elim, fun k hk => ?_⟩
 rw [hr] at hk
 obtain ⟨o, ho, hw, hh⟩ := h k hk
 unfold wpOpIn
 simp only [ho]
 rw [if_pos hw]
 exact hh _ (fun a' w' h1 h2 => ⟨fun _ => h1, h2⟩)
/-- How many of two are still to come. -/
def left2 (b1 b2 : Bool) : Nat := (if b1 then 0 else 1) + (if b2 then 0 else 1)
def free2 (za zb : Nat) (b1 b2 : Bool) : List Nat := (if b1 then [] else [za]) ++ (if b2 then [] else [zb])
theorem wanted_none {o : Oper} (h : o.guard = none) {y} : Region.wanted o y = true := by simp [Region.wanted, h]
theorem layer {F : Nat} (c za zb : Nat) (oc oa ob : Oper) (hc0 : ops[c]? = some oc) (ha0 : ops[za]? = some oa) (hb0 : ops[zb]? = some ob) (gc : oc.guard = none) (ga : oa.guard = none) (gb : ob.guard = none)
 (L : Bool → Bool → Array Bool) (I J : Bool → Bool → Act → World → Prop)
 (hr : ∀ b1 b2, Region.ready md ops (L b1 b2) = c :: free2 za zb b1 b2) (la : ∀ b2, (L false b2).setIfInBounds za true = L true b2) (lb : ∀ b1, (L b1 false).setIfInBounds zb true = L b1 true)
 (next : ∀ b1 b2 a w, J b1 b2 a w → wpAnyW P md ops Q S n (F + left2 b1 b2) ((L b1 b2).setIfInBounds c true) a w)
 (hc : ∀ b1 b2 a w (K : Act → World → Prop), I b1 b2 a w → (∀ a' w', S w' → J b1 b2 a' w' → K a' w') → Oper.wpIn Fence.wide 0 P oc a w K Q)
 (ha : ∀ b2 a w (K : Act → World → Prop), I false b2 a w → (∀ a' w', S w' → I true b2 a' w' → K a' w') → Oper.wpIn Fence.wide 0 P oa a w K Q)
 (hb : ∀ b1 a w (K : Act → World → Prop), I b1 false a w → (∀ a' w', S w' → I b1 true a' w' → K a' w') → Oper.wpIn Fence.wide 0 P ob a w K Q) :
 ∀ b1 b2 a w, I b1 b2 a w → wpAnyW P md ops Q S n (F + left2 b1 b2 + 1) (L b1 b2) a w := by
 have call (b1 b2 : Bool) (a : Act) (w : World) (h : I b1 b2 a w) : ∃ o, ops[c]? = some o ∧ Region.wanted o (yielded ops a.tmps) = true ∧ ∀ K : Act → World → Prop, (∀ a' w', S w' → wpAnyW P md ops Q S n (F + left2 b1 b2) ((L b1 b2).setIfInBounds c true) a' w' → K a' w') → Oper.wpIn Fence.wide 0 P o a w K Q :=
  ⟨oc, hc0, wanted_none gc, fun K hK => hc b1 b2 a w K h (fun a' w' h1 h2 => hK a' w' h1 (next b1 b2 a' w' h2))⟩
 have tt : ∀ a w, I true true a w → wpAnyW P md ops Q S n (F + left2 true true + 1) (L true true) a w := fun a w h =>
  any_list [c] (hr true true) (by simp) (fun i hi => by
   obtain rfl : i = c := by simpa using hi
   exact call true true a w h)
 have ft : ∀ a w, I false true a w → wpAnyW P md ops Q S n (F + left2 false true + 1) (L false true) a w := fun a w h =>
  any_list [c, za] (hr false true) (by simp) (fun i hi => by
   have hi2 : i = c ∨ i = za := by simpa using hi
   rcases hi2 with rfl | rfl
   · exact call false true a w h
   · exact ⟨oa, ha0, wanted_none ga, fun K hK => ha true a w K h (fun a' w' h1 h2 => hK a' w' h1 (by rw [la]; exact tt a' w' h2))⟩)
 have tf : ∀ a w, I true false a w → wpAnyW P md ops Q S n (F + left2 true false + 1) (L true false) a w := fun a w h =>
  any_list [c, zb] (hr true false) (by simp) (fun i hi => by
   have hi2 : i = c ∨ i = zb := by simpa using hi
   rcases hi2 with rfl | rfl
   · exact call true false a w h
   · exact ⟨ob, hb0, wanted_none gb, fun K hK => hb true a w K h (fun a' w' h1 h2 => hK a' w' h1 (by rw [lb]; exact tt a' w' h2))⟩)
 have ff : ∀ a w, I false false a w → wpAnyW P md ops Q S n (F + left2 false false + 1) (L false false) a w := fun a w h =>
  any_list [c, za, zb] (hr false false) (by simp) (fun i hi => by
   have hi2 : i = c ∨ i = za ∨ i = zb := by simpa using hi
   rcases hi2 with rfl | rfl | rfl
   · exact call false false a w h
   · exact ⟨oa, ha0, wanted_none ga, fun K hK => ha false a w K h (fun a' w' h1 h2 => hK a' w' h1 (by rw [la]; exact tf a' w' h2))⟩
   · exact ⟨ob, hb0, wanted_none gb, fun K hK => hb false a w K h (fun a' w' h1 h2 => hK a' w' h1 (by rw [lb]; exact ft a' w' h2))⟩)
 intro b1 b2 a w h
 cases b1 <;> cases b2
 · exact ff a w h
 · exact ft a w h
 · exact tf a w h
 · exact tt a w h
theorem last {F : Nat} (za zb : Nat) (oa ob : Oper) (ha0 : ops[za]? = some oa) (hb0 : ops[zb]? = some ob) (ga : oa.guard = none) (gb : ob.guard = none)
 (L : Bool → Bool → Array Bool) (I : Bool → Bool → Act → World → Prop)
 (hr : ∀ b1 b2, (b1 && b2) = false → Region.ready md ops (L b1 b2) = free2 za zb b1 b2) (la : ∀ b2, (L false b2).setIfInBounds za true = L true b2) (lb : ∀ b1, (L b1 false).setIfInBounds zb true = L b1 true)
 (ha : ∀ b2 a w (K : Act → World → Prop), I false b2 a w → (∀ a' w', S w' → I true b2 a' w' → K a' w') → Oper.wpIn Fence.wide 0 P oa a w K Q)
 (hb : ∀ b1 a w (K : Act → World → Prop), I b1 false a w → (∀ a' w', S w' → I b1 true a' w' → K a' w') → Oper.wpIn Fence.wide 0 P ob a w K Q)
 (fin : ∀ a w, I true true a w → wpAnyW P md ops Q S n F (L true true) a w) :
 ∀ b1 b2 a w, I b1 b2 a w → wpAnyW P md ops Q S n (F + left2 b1 b2) (L b1 b2) a w := by
 have ft : ∀ a w, I false true a w → wpAnyW P md ops Q S n (F + left2 false true) (L false true) a w := fun a w h =>
  any_list [za] (hr false true rfl) (by simp) (fun i hi => by
   obtain rfl : i = za := by simpa using hi
   exact ⟨oa, ha0, wanted_none ga, fun K hK => ha true a w K h (fun a' w' h1 h2 => hK a' w' h1 (by rw [la]; exact fin a' w' h2))⟩)
 have tf : ∀ a w, I true false a w → wpAnyW P md ops Q S n (F + left2 true false) (L true false) a w := fun a w h =>
  any_list [zb] (hr true false rfl) (by simp) (fun i hi => by
   obtain rfl : i = zb := by simpa using hi
   exact ⟨ob, hb0, wanted_none gb, fun K hK => hb true a w K h (fun a' w' h1 h2 => hK a' w' h1 (by rw [lb]; exact fin a' w' h2))⟩)
 have ff : ∀ a w, I false false a w → wpAnyW P md ops Q S n (F + left2 false false) (L false false) a w := fun a w h =>
  any_list [za, zb] (hr false false rfl) (by simp) (fun i hi => by
   have hi2 : i = za ∨ i = zb := by simpa using hi
   rcases hi2 with rfl | rfl
   · exact ⟨oa, ha0, wanted_none ga, fun K hK => ha false a w K h (fun a' w' h1 h2 => hK a' w' h1 (by rw [la]; exact tf a' w' h2))⟩
   · exact ⟨ob, hb0, wanted_none gb, fun K hK => hb false a w K h (fun a' w' h1 h2 => hK a' w' h1 (by rw [lb]; exact ft a' w' h2))⟩)
 intro b1 b2 a w h
 cases b1 <;> cases b2
 · exact ff a w h
 · exact ft a w h
 · exact tf a w h
 · exact fin a w h
theorem thru {F : Nat} (L L4 : Bool → Bool → Array Bool) (J' J : Bool → Bool → Act → World → Prop) (lst : ∀ b1 b2 a w, J b1 b2 a w → wpAnyW P md ops Q S n (F + left2 b1 b2) (L4 b1 b2) a w)
 (tk : ∀ b1 b2 a w, J' b1 b2 a w → (∀ a', J b1 b2 a' w → wpAnyW P md ops Q S n (F + left2 b1 b2) (L4 b1 b2) a' w) → wpAnyW P md ops Q S n (F + left2 b1 b2 + 3) (L b1 b2) a w) :
 ∀ b1 b2 a w, J' b1 b2 a w → wpAnyW P md ops Q S n (F + left2 b1 b2 + 3) (L b1 b2) a w := fun b1 b2 a w h => tk b1 b2 a w h (fun a' h' => lst b1 b2 a' w h')
end
end Go.Proofs.YtggilenddbobnaaGreat.PhaseIn
