/-
  Contracts of the laws' own szTrmPoly, eqTrmPoly and toTrmPoly.
-/
import Derived.Test.YtclccaigkcilcaaPolR
import Derived.Test.YtclccaigkcilcaaShape
namespace Go.Proofs.Ytclccaigkcilcaa.Pol
open Go.ChangeShapes Go.WideShapes Go.ChangeAt Go.RowKit IntS
/-- How many atoms there are. -/
def tot : List Mono → Nat
  | [] => 0
  | x :: r => x.2.length + tot r
theorem tot_app : ∀ a b : List Mono, tot (a ++ b) = tot a + tot b
  | [], b => by simp [tot]
  | x :: a, b => by simp [tot, tot_app a b]; omega
theorem tot_next {ps : List Mono} {k : Nat} {x : Mono} (h : ps[k]? = some x) : tot (ps.take (k + 1)) = tot (ps.take k) + x.2.length := by
  rw [List.take_add_one, h, tot_app]
  simp [tot]
theorem tot_le {ps : List Mono} (k : Nat) : tot (ps.take k) ≤ tot ps := by
  have := tot_app (ps.take k) (ps.drop k)
  rw [List.take_append_drop] at this
  omega
theorem tot_at {ps : List Mono} {k : Nat} {x : Mono} (h : ps[k]? = some x) : x.2.length ≤ tot ps := by
  have := tot_next h
  have := tot_le (ps := ps) (k + 1)
  omega
/-- A sum that is not too great. -/
def SmallP (ps : List Mono) : Prop := ps.length + tot ps ≤ 1048576
theorem szTrmMono (c : Int) (n cap : Nat) (a : Option Addr) (left : Int) (w : World) (hn : n ≤ cap) (hc : cap ≤ maxLen) (h0 : 0 ≤ left) (h1 : left ≤ 1048576) :
    Calls Try.prog 65 #[.agg #[.int .i64 c, .slice a n cap], .int .i64 left] w fun e w' => e = .returned (.int .i64 (if left < n then -1 else left - n)) ∧ Below w.heap.size w w' := by
  have BW : Hid (Below w.heap.size w (w.alloc (.cells #[.int .i64 c, .slice a n cap] 97))) := (Below.refl _ _).alloc (Nat.le_refl _) _
  have HC := hide hc
  by_cases h : left < n
  · have E : Hid ((if left < (n : Int) then (-1 : Int) else left - n) = -1) := if_pos h
    rw [E.out]
    clear h
    go_enter Try.func65, Try.ntmps65
    go_wp2_with fail
    refine (szIntS n cap a left _ hn HC.out h0 h1).mono ?_
    rintro e u ⟨rfl, rfl⟩
    rw [E.out]
    go_wp2
    go_ret
    exact ⟨rfl, BW.out⟩
  · have E : Hid ((if left < (n : Int) then (-1 : Int) else left - n) = left - n) := if_neg h
    rw [E.out]
    have h' : ¬ left - (n : Int) < 0 := by omega
    clear h
    go_enter Try.func65, Try.ntmps65
    go_wp2_with fail
    refine (szIntS n cap a left _ hn HC.out h0 h1).mono ?_
    rintro e u ⟨rfl, rfl⟩
    rw [E.out]
    go_wp2
    go_ret
    exact ⟨rfl, BW.out⟩
set_option maxRecDepth 8000 in
set_option maxHeartbeats 4000000 in
theorem szTrmMonoS (ps : List Mono) (B : Nat) (v : Value) (left : Int) (w : World) (h : PRow w B v ps) (h0 : 0 ≤ left) (h1 : left ≤ 1048576) :
    Calls Try.prog 46 #[v, .int .i64 left] w fun e w' => ∃ r : Int, e = .returned (.int .i64 r) ∧ -1 ≤ r ∧ (0 ≤ r → r = left - ps.length - tot ps) ∧ Below w.heap.size w w' := by
  obtain ⟨a, cap, off, rfl, h2, h3, hz, h4⟩ := h
  unfold maxLen at h3
  clear hz
  by_cases e1 : left < ps.length
  · have e2 : left - (ps.length : Int) < 0 := by omega
    clear h4 e1
    go_enter Try.func46, Try.ntmps46
    go_wp2
    go_ret
    exact ⟨-1, rfl, by omega, fun h => by omega, Below.refl _ _⟩
  have e2 : ¬ left - (ps.length : Int) < 0 := by omega
  obtain ⟨n, en⟩ : ∃ n, ps.length = n := ⟨_, rfl⟩
  have EN := hide en
  rw [en] at h2 e1 e2 ⊢
  have H4 := hide h4
  clear en h4
  go_enter Try.func46, Try.ntmps46
  by_cases n0 : n = 0
  · subst n0
    have e0 : Hid (tot ps = 0) := show _ = _ by rw [List.length_eq_zero_iff.1 EN.out]; rfl
    go_wp2
    refine wp_loop_rounds 1 ?_
    rw [rounds_succ]
    go_wp2
    go_ret
    exact ⟨_, rfl, by omega, fun _ => by rw [e0.out]; omega, Below.refl _ _⟩
  · obtain ⟨rfl, hc⟩ := H4.out.resolve_left (fun e => n0 (by rw [← EN.out, e]; rfl))
    have HC := hide hc
    clear hc H4
    go_wp2
    go_loopw [1, 5] (fun l i wr => ∃ (k : Nat) (r : Int), k ≤ n ∧ i = .int .i64 k ∧ l = .int .i64 r ∧ 0 ≤ r ∧ r ≤ 1048576 ∧ Hid (r = left - n - tot (ps.take k)) ∧ Hid (Below w.heap.size w wr)) (fun _ i _ => n - (intOf i).toNat)
    case atStart => exact ⟨0, left - n, by omega, rfl, rfl, by omega, by omega, by show _ = _; simp [tot], Below.refl _ _⟩
    case round =>
      obtain ⟨k, r, hk, rfl, rfl, r0, r1, HR, HB⟩ := hrel
      by_cases hlt : k < n
      · obtain ⟨x, ex⟩ : ∃ x, ps[k]? = some x := ⟨_, List.getElem?_eq_getElem (by rw [EN.out]; exact hlt)⟩
        obtain ⟨c, at_⟩ := x
        obtain ⟨g1, s, b, g2, g3⟩ := HC.out k _ ex
        have cx := cell_below HB.out g1
        have sx := cell_below HB.out g2
        obtain ⟨qa, ca, _, rfl, l2, l3, _⟩ := g3
        simp only [] at cx sx l2
        have L3 := hide l3
        have TN := hide (tot_next ex)
        clear ex g1 g2 l3
        go_wp2_with fail
        refine (szTrmMono c at_.length ca qa r _ l2 L3.out r0 r1).mono ?_
        rintro e u ⟨rfl, hb⟩
        have HB2 := hide (HB.out.trans (hb.mono HB.out.size))
        clear hb
        by_cases hs : r < at_.length
        · rw [if_pos hs]
          clear hs
          go_wp2
          go_ret
          exact ⟨-1, rfl, by omega, fun h => by omega, HB2.out⟩
        · rw [if_neg hs]
          have hs' : ¬ r - (at_.length : Int) < 0 := by omega
          have HR2 : Hid (r - at_.length = left - n - tot (ps.take (k + 1))) := show _ = _ by have := HR.out; have := TN.out; omega
          clear hs
          go_wp2
          exact ⟨⟨k + 1, r - at_.length, by omega, by go_num, by first | rfl | go_num, by omega, by omega, HR2, HB2⟩, by simp [intOf]; omega⟩
      · have HD : Hid (r = left - n - tot ps) := show _ = _ by
          have := HR.out
          rw [List.take_of_length_le (by rw [EN.out]; omega)] at this
          exact this
        go_wp2
        go_ret
        exact ⟨r, rfl, by omega, fun _ => HD.out, HB.out⟩
theorem szTrmPoly (ps : List Mono) (B : Nat) (v : Value) (left : Int) (w : World) (h : PRow w B v ps) (h0 : 0 ≤ left) (h1 : left ≤ 1048576) :
    Calls Try.prog 16 #[.agg #[v], .int .i64 left] w fun e w' => ∃ r : Int, e = .returned (.int .i64 r) ∧ -1 ≤ r ∧ (0 ≤ r → r = left - ps.length - tot ps) ∧ Below w.heap.size w w' := by
  have bV : Below w.heap.size w (w.alloc (.cells #[v] 26)) := (Below.refl _ _).alloc (Nat.le_refl _) _
  have H := hide (h.below bV)
  have BW := hide bV
  obtain ⟨a, cap, off, rfl, _⟩ := h
  clear bV
  go_enter Try.func16, Try.ntmps16
  go_wp2_with fail
  refine (szTrmMonoS ps B _ left _ H.out h0 h1).mono ?_
  rintro e u ⟨r, rfl, r0, hr, hb⟩
  have HR := hide hr
  replace BW := hide (BW.out.trans (hb.mono BW.out.size))
  clear hr hb
  by_cases hs : r < 0
  · go_wp2
    go_ret
    exact ⟨-1, rfl, by omega, fun h => by omega, BW.out⟩
  · go_wp2
    go_ret
    exact ⟨r, rfl, by omega, HR.out, BW.out⟩
theorem eqTrmMono (c : Int) (xs : List Int) (B B' : Nat) (v v' : Value) (w : World) (h : Row w B v xs) (h' : Row w B' v' xs) :
    Calls Try.prog 72 #[.agg #[.int .i64 c, v], .agg #[.int .i64 c, v']] w fun e w' => e = .returned (.bool true) ∧ Below w.heap.size w w' := by
  have bV : Below w.heap.size w ((w.alloc (.cells #[.int .i64 c, v] 74)).alloc (.cells #[.int .i64 c, v'] 74)) := ((Below.refl _ _).alloc (Nat.le_refl _) _).alloc (by simp) _
  have H := hide (h.below bV)
  have H' := hide (h'.below bV)
  have BW := hide bV
  obtain ⟨a, cap, off, rfl, _⟩ := h
  obtain ⟨a', cap', off', rfl, _⟩ := h'
  have cc : (c != c) = false := by simp
  clear bV
  go_enter Try.func72, Try.ntmps72
  go_wp2_with fail
  refine (eqIntS xs xs B B' _ _ _ H.out H'.out).mono ?_
  rintro e u ⟨rfl, hb⟩
  rw [decide_eq_true (rfl : xs = xs)]
  replace BW := hide (BW.out.trans (hb.mono BW.out.size))
  clear hb
  go_wp2
  go_ret
  exact ⟨rfl, BW.out⟩
set_option maxRecDepth 8000 in
set_option maxHeartbeats 4000000 in
theorem eqTrmMonoS (ps : List Mono) (B B' : Nat) (v v' : Value) (w : World) (h : PRow w B v ps) (h' : PRow w B' v' ps) :
    Calls Try.prog 56 #[v, v'] w fun e w' => e = .returned (.bool true) ∧ Below w.heap.size w w' := by
  obtain ⟨a, cap, off, rfl, h2, h3, hz, h4⟩ := h
  obtain ⟨a', cap', off', rfl, h2', h3', hz', h4'⟩ := h'
  unfold maxLen at h3 h3'
  clear hz hz'
  obtain ⟨n, en⟩ : ∃ n, ps.length = n := ⟨_, rfl⟩
  have EN := hide en
  rw [en] at h2 h2' ⊢
  have H4 := hide h4
  have H4' := hide h4'
  have nn : ((n : Int) != (n : Int)) = false := by simp
  clear en h4 h4'
  go_enter Try.func56, Try.ntmps56
  by_cases n0 : n = 0
  · subst n0
    go_wp2
    refine wp_loop_rounds 1 ?_
    rw [rounds_succ]
    go_wp2
    go_ret
    exact ⟨rfl, Below.refl _ _⟩
  · obtain ⟨rfl, hc⟩ := H4.out.resolve_left (fun e => n0 (by rw [← EN.out, e]; rfl))
    obtain ⟨rfl, hc'⟩ := H4'.out.resolve_left (fun e => n0 (by rw [← EN.out, e]; rfl))
    have HC := hide hc
    have HC' := hide hc'
    clear hc hc' H4 H4'
    go_wp2
    go_loopw [5] (fun i wr => ∃ k : Nat, k ≤ n ∧ i = .int .i64 k ∧ Hid (Below w.heap.size w wr)) (fun i _ => n - (intOf i).toNat)
    case atStart => exact ⟨0, by omega, rfl, Below.refl _ _⟩
    case round =>
      obtain ⟨k, hk, rfl, HB⟩ := hrel
      by_cases hlt : k < n
      · obtain ⟨x, ex⟩ : ∃ x, ps[k]? = some x := ⟨_, List.getElem?_eq_getElem (by rw [EN.out]; exact hlt)⟩
        obtain ⟨c, at_⟩ := x
        obtain ⟨g1, s, b, g2, g3⟩ := HC.out k _ ex
        obtain ⟨g1', s', b', g2', g3'⟩ := HC'.out k _ ex
        have cx := cell_below HB.out g1
        have sx := cell_below HB.out g2
        have cx' := cell_below HB.out g1'
        have sx' := cell_below HB.out g2'
        have HB2 : Hid (Below w.heap.size w wr.drew) := HB.out.drew
        have RX := hide (g3.below HB2.out)
        have RX' := hide (g3'.below HB2.out)
        obtain ⟨qa, ca, _, rfl, _⟩ := g3
        obtain ⟨qa', ca', _, rfl, _⟩ := g3'
        simp only [] at cx sx cx' sx' RX RX'
        have lk : ((k : Nat) : Int) < (n : Nat) := by omega
        clear ex g1 g2 g1' g2'
        go_wp2_with fail
        refine region_tail 8 (by kernel_rfl) (by kernel_rfl) ?_
        simp only [List.take_succ_cons, List.take_zero, List.drop_succ_cons, List.drop_zero]
        repeat still_step
        refine wpStill_nil ?_
        go_wp2_with fail
        refine (eqTrmMono c at_ b b' _ _ _ RX.out RX'.out).mono ?_
        rintro e u ⟨rfl, hb⟩
        have HB3 := hide (HB2.out.trans (hb.mono HB2.out.size))
        clear hb
        go_wp2
        exact ⟨⟨k + 1, by omega, by go_num, HB3⟩, by simp [intOf]; omega⟩
      · go_wp2
        go_ret
        exact ⟨rfl, HB.out⟩
theorem eqTrmPoly (ps : List Mono) (B B' : Nat) (v v' : Value) (w : World) (h : PRow w B v ps) (h' : PRow w B' v' ps) :
    Calls Try.prog 29 #[.agg #[v], .agg #[v']] w fun e w' => e = .returned (.bool true) ∧ Below w.heap.size w w' := by
  have bV : Below w.heap.size w ((w.alloc (.cells #[v] 35)).alloc (.cells #[v'] 35)) := ((Below.refl _ _).alloc (Nat.le_refl _) _).alloc (by simp) _
  have H := hide (h.below bV)
  have H' := hide (h'.below bV)
  have BW := hide bV
  obtain ⟨a, cap, off, rfl, _⟩ := h
  obtain ⟨a', cap', off', rfl, _⟩ := h'
  clear bV
  go_enter Try.func29, Try.ntmps29
  go_wp2_with fail
  refine (eqTrmMonoS ps B B' _ _ _ H.out H'.out).mono ?_
  rintro e u ⟨rfl, hb⟩
  replace BW := hide (BW.out.trans (hb.mono BW.out.size))
  clear hb
  go_wp2
  go_ret
  exact ⟨rfl, BW.out⟩
end Go.Proofs.Ytclccaigkcilcaa.Pol
