/-
  Sums copied one by one: the specification's l8Polys, the program's copiedSums.
-/
import Derived.Test.YtclccaigkcilcaaDtO
import Derived.Test.YtclccaigkcilcaaDtP
import Derived.Test.YtclccaigkcilcaaPolU
import Derived.Test.YtclccaigkcilcaaTabCs
import Derived.Test.YtclccaigkcilcaaFlat
namespace Go.Proofs.Ytclccaigkcilcaa.Dt
set_option linter.unusedVariables false
set_option linter.unusedSimpArgs false
open Go.ChangeShapes Go.WideShapes Go.ChangeAt Go.RowKit IntS Pol
theorem box_below (w : World) (o : Obj) : Below w.heap.size w (w.alloc o) := (Below.refl _ _).alloc (Nat.le_refl _) _
theorem take_snoc {α : Type} {xs : List α} {k : Nat} {x : α} (h : xs[k]? = some x) : xs.take k ++ [x] = xs.take (k + 1) := by rw [List.take_add_one, h]; rfl
theorem take_length_le {α : Type} {xs : List α} {k : Nat} (h : k ≤ xs.length) : (xs.take k).length = k := by rw [List.length_take]; omega
theorem poly_small {p : List Mono} {N : Nat} (hs : polyK.sz p ≤ N) : p.length ≤ N ∧ ∀ x ∈ p, x.2.length ≤ N := by
  have e : polyK.sz p = p.length + sum monoR.sz p := rfl
  refine ⟨by omega, fun x hx => ?_⟩
  obtain ⟨j, hj⟩ := List.mem_iff_getElem?.1 hx
  have h1 := sum_one (f := monoR.sz) hj
  have h2 : monoR.sz x = intsK.sz x.2 := rfl
  rw [ints_sz] at h2
  omega
theorem sums_small {qs : List (List Mono)} {N : Nat} (hs : sumsK.sz qs ≤ N) : qs.length ≤ N ∧ ∀ (i : Nat) p, qs[i]? = some p → polyK.sz p ≤ N := by
  have e : sumsK.sz qs = qs.length + sum (last polyK).sz qs := rfl
  refine ⟨by omega, fun i p hi => ?_⟩
  have h1 := sum_one (f := (last polyK).sz) hi
  have h2 : (last polyK).sz p = polyK.sz p := rfl
  omega
theorem infoSumD : ∃ i, Try.prog.info? 35 = some i ∧ i.zero = some (.agg #[.slice none 0 0]) ∧ i.size = 1 ∧ i.bytes = 24 := by
  have hinfo : (Try.prog.info? 35).map (fun i => (i.zero, i.size, i.bytes)) = some (some (.agg #[.slice none 0 0]), 1, 24) := by kernel_rfl
  obtain ⟨i, hi, h⟩ := Option.map_eq_some_iff.1 hinfo
  simp only [Prod.mk.injEq] at h
  exact ⟨i, hi, h.1, h.2.1, h.2.2⟩
theorem l4CopyD (p : List Mono) (v : Value) (w : World) (h : polyK.rd w v p) (hs : polyK.sz p ≤ 1048576) :
    Calls Try.prog 31 #[v] w fun e w' => ∃ a c, e = .returned (.agg #[.slice a p.length c]) ∧ polyK.ow w' (New w w') (.slice a p.length c) p ∧ Below w.heap.size w w' := by
  obtain ⟨B, hr⟩ := poly_to h
  obtain ⟨h1, h2⟩ := poly_small hs
  refine (l4CopyW p B v w hr (by omega) (fun x hx => Nat.le_trans (h2 x hx) (by omega))).mono ?_
  rintro e w' ⟨a, l, c, rfl, WP, hb⟩
  have ow := poly_ow (A := New w w') WP (fun b h1 h2 => ⟨h1, h2⟩)
  obtain ⟨a', c', ev, -⟩ := LRd.form (polyK.od ow)
  cases ev
  exact ⟨a, c, rfl, ow, hb⟩
theorem copiedSumD (p : List Mono) (v : Value) (w : World) (h : polyK.rd w v p) (hs : polyK.sz p ≤ 1048576) :
    Calls Try.prog 61 #[.agg #[v]] w fun e w' => ∃ a c, e = .returned (.agg #[.slice a p.length c]) ∧ polyK.ow w' (New w w') (.slice a p.length c) p ∧ Below w.heap.size w w' := by
  obtain ⟨B, hr⟩ := poly_to h
  obtain ⟨h1, h2⟩ := poly_small hs
  refine (copiedSumW p B v w hr h1 h2).mono ?_
  rintro e w' ⟨G, rfl, WP, hb⟩
  exact ⟨_, _, rfl, poly_ow (A := New w w') WP (fun b h1 h2 => ⟨h1, h2⟩), hb⟩
set_option maxRecDepth 8000 in
set_option maxHeartbeats 4000000 in
theorem l8Polys (qs : List (List Mono)) (v : Value) (w : World) (h : sumsK.rd w v qs) (hs : sumsK.sz qs ≤ 1048576) :
    Calls Try.prog 32 #[v] w fun e w' => ∃ q cap, e = .returned (.slice q qs.length cap) ∧ sumsK.ow w' (New w w') (.slice q qs.length cap) qs ∧ Below w.heap.size w w' := by
  obtain ⟨LN, SM⟩ := sums_small hs
  replace SM := hide SM
  have FI : Hid (∀ q2 cap2 wr, OF polyR 35 wr w.heap.size q2 cap2 (qs.take qs.length) → sumsK.ow wr (New w wr) (.slice q2 qs.length cap2) qs) := fun q2 cap2 wr H => by
    rw [List.take_length] at H
    exact H.whole
  have TK : Hid (∀ k x, qs[k]? = some x → qs.take k ++ [x] = qs.take (k + 1) ∧ (qs.take k).length = k) := fun k x hx => ⟨take_snoc hx, take_length_le (Nat.le_of_lt (List.getElem?_eq_some_iff.1 hx).1)⟩
  obtain ⟨a, cap0, B, off, rfl, h2, h3, hz, h4⟩ := h
  unfold maxLen at h3
  clear hz hs
  obtain ⟨n, en⟩ : ∃ n, qs.length = n := ⟨_, rfl⟩
  have EN := hide en
  rw [en] at h2 FI LN ⊢
  have H4 := hide h4
  clear en h4
  have bo0 := box_below w (.cells #[] 35)
  have BW0 := hide bo0
  have OF0 := hide (OF.empty polyR 35 w (Nat.le_refl w.heap.size))
  have ON0 := hide (OF.nil polyR 35 w w.heap.size)
  clear bo0
  go_enter Try.func32, Try.ntmps32
  go_wp2
  go_loopw [3, 4] (fun rs i wr => ∃ (k cap2 : Nat) (q2 : Option Addr), k ≤ n ∧ i = .int .i64 k ∧ rs = .slice q2 k cap2 ∧ Hid (OF polyR 35 wr w.heap.size q2 cap2 (qs.take k)) ∧ Hid (Below w.heap.size w wr)) (fun _ i _ => n - (intOf i).toNat)
  case atStart => exact ⟨0, 0, some ⟨w.heap.size, 0, none⟩, by omega, rfl, rfl, OF0, BW0⟩
  case round =>
    clear OF0 BW0 ON0
    obtain ⟨k, cap2, q2, hk, rfl, rfl, OS, BW⟩ := hrel
    by_cases hlt : k < n
    case neg =>
      obtain rfl : k = n := by omega
      go_wp2
      go_ret
      exact ⟨q2, cap2, rfl, FI.out _ _ _ OS.out, BW.out⟩
    obtain ⟨x, et⟩ : ∃ x, qs[k]? = some x := ⟨_, List.getElem?_eq_getElem (by rw [EN.out]; exact hlt)⟩
    obtain ⟨rfl, hc⟩ := H4.out.resolve_left (fun e => by rw [e] at et; simp at et)
    obtain ⟨cs, cc, hx⟩ := hc k x et
    obtain ⟨q0, c0, rfl, k0⟩ := polyR_rd hx
    obtain ⟨tk, tl⟩ := TK.out k x et
    have TT := hide (And.intro tk tl)
    have SX := hide (SM.out k x et)
    have z0 : wr.cell? ⟨B, off + k, none⟩ = some (.slice q0 x.length c0) := by have this : wr.cell? ⟨B, off + k * 1 + 0, none⟩ = some (.slice q0 x.length c0) := cell_below BW.out (cc 0 _ rfl); rw [Nat.mul_one, Nat.add_zero] at this; exact this
    have bv : Below wr.heap.size wr wr := Below.refl _ _
    have K0 := hide (polyK.rb (polyK.rb k0 BW.out) bv)
    have OS1 := OS
    have BV := hide bv
    have lk : ((k : Nat) : Int) < (n : Nat) := by omega
    clear et hc hx cc k0 tk tl bv
    go_wp2_with fail
    refine (l4CopyD x _ _ K0.out SX.out).mono ?_
    rintro e u ⟨a1, c1, rfl, WP, hb⟩
    have bo := box_below u (.cells #[.slice a1 x.length c1] 35)
    have ball := (BV.out.trans (hb.mono BV.out.size)).trans (bo.mono (Nat.le_trans BV.out.size hb.size))
    have hvs := BV.out.size
    have hxo : polyR.ow (u.alloc (.cells #[.slice a1 x.length c1] 35)) (New wr (u.alloc (.cells #[.slice a1 x.length c1] 35))) [.slice a1 x.length c1] x := polyR_omk (polyK.ob WP bo) (fun b hb => ⟨Nat.le_trans hvs hb.1, Nat.lt_of_lt_of_le hb.2 bo.size⟩)
    obtain ⟨ti, hi, hz, hsz, hby⟩ := infoSumD
    obtain ⟨g2, cp2, u2, hrun, O2, BL, -, -⟩ := OS.out.push (P := Try.prog) ball hxo 32 32 Try.underlying32 hi hz hsz hby rfl (by decide) (by omega) ⟨u.heap.size, 0, none⟩ (fun j v hv => by
      match j, hv with
      | 0, hv =>
        cases hv
        rw [Go.WideShapes.add_plain]
        exact World.cell?_alloc_new u #[.slice a1 x.length c1] 35 0
      | j + 1, hv => simp at hv) (fun v hv => by simp at hv; subst hv; rfl) (by rw [TT.out.2]; omega) BW.out.size
    rw [TT.out.2] at hrun
    rw [TT.out.1] at O2
    have OS2 := hide O2
    have BW2 := hide ((BW.out.trans (ball.mono BW.out.size)).trans BL)
    clear O2 BL ball hxo hb bo WP hi hz hsz hby OS BW z0 K0 hvs OS1 BV
    go_wp2_with (at_builtin; refine Flat.push_list rfl _ _ rfl rfl rfl hrun ?_)
    exact ⟨⟨k + 1, cp2, some ⟨g2, 0, none⟩, by omega, by go_num, rfl, OS2, BW2⟩, by simp [intOf]; omega⟩
set_option maxRecDepth 8000 in
set_option maxHeartbeats 4000000 in
theorem copiedSums (qs : List (List Mono)) (v : Value) (w : World) (h : sumsK.rd w v qs) (hs : sumsK.sz qs ≤ 1048576) :
    Calls Try.prog 62 #[v] w fun e w' => ∃ q cap, e = .returned (.slice q qs.length cap) ∧ sumsK.ow w' (New w w') (.slice q qs.length cap) qs ∧ Below w.heap.size w w' := by
  obtain ⟨LN, SM⟩ := sums_small hs
  replace SM := hide SM
  have FI : Hid (∀ q2 cap2 wr, OF polyR 35 wr w.heap.size q2 cap2 (qs.take qs.length) → sumsK.ow wr (New w wr) (.slice q2 qs.length cap2) qs) := fun q2 cap2 wr H => by
    rw [List.take_length] at H
    exact H.whole
  have TK : Hid (∀ k x, qs[k]? = some x → qs.take k ++ [x] = qs.take (k + 1) ∧ (qs.take k).length = k) := fun k x hx => ⟨take_snoc hx, take_length_le (Nat.le_of_lt (List.getElem?_eq_some_iff.1 hx).1)⟩
  obtain ⟨a, cap0, B, off, rfl, h2, h3, hz, h4⟩ := h
  unfold maxLen at h3
  clear hz hs
  obtain ⟨n, en⟩ : ∃ n, qs.length = n := ⟨_, rfl⟩
  have EN := hide en
  rw [en] at h2 FI LN ⊢
  have H4 := hide h4
  clear en h4
  have bo0 := box_below w (.cells #[] 35)
  have BW0 := hide bo0
  have OF0 := hide (OF.empty polyR 35 w (Nat.le_refl w.heap.size))
  have ON0 := hide (OF.nil polyR 35 w w.heap.size)
  clear bo0
  go_enter Try.func62, Try.ntmps62
  go_wp2
  go_loopw [3, 8] (fun rs i wr => ∃ (k cap2 : Nat) (q2 : Option Addr), k ≤ n ∧ i = .int .i64 k ∧ rs = .slice q2 k cap2 ∧ Hid (OF polyR 35 wr w.heap.size q2 cap2 (qs.take k)) ∧ Hid (Below w.heap.size w wr)) (fun _ i _ => n - (intOf i).toNat)
  case atStart => exact ⟨0, 0, none, by omega, rfl, rfl, ON0, Below.refl _ _⟩
  case round =>
    clear OF0 BW0 ON0
    obtain ⟨k, cap2, q2, hk, rfl, rfl, OS, BW⟩ := hrel
    by_cases hlt : k < n
    case neg =>
      obtain rfl : k = n := by omega
      go_wp2
      go_ret
      exact ⟨q2, cap2, rfl, FI.out _ _ _ OS.out, BW.out⟩
    obtain ⟨x, et⟩ : ∃ x, qs[k]? = some x := ⟨_, List.getElem?_eq_getElem (by rw [EN.out]; exact hlt)⟩
    obtain ⟨rfl, hc⟩ := H4.out.resolve_left (fun e => by rw [e] at et; simp at et)
    obtain ⟨cs, cc, hx⟩ := hc k x et
    obtain ⟨q0, c0, rfl, k0⟩ := polyR_rd hx
    obtain ⟨tk, tl⟩ := TK.out k x et
    have TT := hide (And.intro tk tl)
    have SX := hide (SM.out k x et)
    have z0 : wr.cell? ⟨B, off + k, none⟩ = some (.slice q0 x.length c0) := by have this : wr.cell? ⟨B, off + k * 1 + 0, none⟩ = some (.slice q0 x.length c0) := cell_below BW.out (cc 0 _ rfl); rw [Nat.mul_one, Nat.add_zero] at this; exact this
    have bv : Below wr.heap.size wr (wr.alloc (.cells #[.slice q0 x.length c0] 35)) := box_below wr _
    have K0 := hide (polyK.rb (polyK.rb k0 BW.out) bv)
    have OS1 := OS
    have BV := hide bv
    have lk : ((k : Nat) : Int) < (n : Nat) := by omega
    clear et hc hx cc k0 tk tl bv
    go_wp2_with fail
    refine (copiedSumD x _ _ K0.out SX.out).mono ?_
    rintro e u ⟨a1, c1, rfl, WP, hb⟩
    have bo := box_below u (.cells #[.slice a1 x.length c1] 35)
    have ball := (BV.out.trans (hb.mono BV.out.size)).trans (bo.mono (Nat.le_trans BV.out.size hb.size))
    have hvs := BV.out.size
    have hxo : polyR.ow (u.alloc (.cells #[.slice a1 x.length c1] 35)) (New wr (u.alloc (.cells #[.slice a1 x.length c1] 35))) [.slice a1 x.length c1] x := polyR_omk (polyK.ob WP bo) (fun b hb => ⟨Nat.le_trans hvs hb.1, Nat.lt_of_lt_of_le hb.2 bo.size⟩)
    obtain ⟨ti, hi, hz, hsz, hby⟩ := infoSumD
    obtain ⟨g2, cp2, u2, hrun, O2, BL, -, -⟩ := OS.out.push (P := Try.prog) ball hxo 32 32 Try.underlying32 hi hz hsz hby rfl (by decide) (by omega) ⟨u.heap.size, 0, none⟩ (fun j v hv => by
      match j, hv with
      | 0, hv =>
        cases hv
        rw [Go.WideShapes.add_plain]
        exact World.cell?_alloc_new u #[.slice a1 x.length c1] 35 0
      | j + 1, hv => simp at hv) (fun v hv => by simp at hv; subst hv; rfl) (by rw [TT.out.2]; omega) BW.out.size
    rw [TT.out.2] at hrun
    rw [TT.out.1] at O2
    have OS2 := hide O2
    have BW2 := hide ((BW.out.trans (ball.mono BW.out.size)).trans BL)
    clear O2 BL ball hxo hb bo WP hi hz hsz hby OS BW z0 K0 hvs OS1 BV
    go_wp2_with (at_builtin; refine Flat.push_list rfl _ _ rfl rfl rfl hrun ?_)
    exact ⟨⟨k + 1, cp2, some ⟨g2, 0, none⟩, by omega, by go_num, rfl, OS2, BW2⟩, by simp [intOf]; omega⟩
end Go.Proofs.Ytclccaigkcilcaa.Dt
