/-
  The laws' own comparisons: of ints (laInts), of machines that are the same (laMach); and laOk.
-/
import Derived.Test.YtmmlhmhlfmafgaaMchM
import Derived.Test.YtmmlhmhlfmafgaaWrdC
namespace Go.Proofs.Ytmmlhmhlfmafgaa.La
set_option linter.unusedVariables false
set_option linter.unusedSimpArgs false
open Go.ChangeShapes Go.WideShapes Go.ChangeAt Go.RowKit IntS
open Mch (Rec M mv RMach)
set_option maxHeartbeats 2000000 in
theorem laInts (xs ys : List Int) (B B' : Nat) (v v' : Value) (w : World) (h : Row w B v xs) (h' : Row w B' v' ys) :
    Calls Try.prog 9 #[v, v'] w fun e w' => e = .returned (.bool (decide (xs = ys))) ∧ Below w.heap.size w w' := by
  obtain ⟨a, cap, off, rfl, h2, h3, hz, h4⟩ := h
  obtain ⟨a', cap', off', rfl, h2', h3', hz', h4'⟩ := h'
  unfold maxLen at h3 h3'
  clear hz hz'
  by_cases hl : xs.length = ys.length
  · have hl2 : ((xs.length : Int) != (ys.length : Int)) = false := by rw [hl]; simp
    obtain ⟨n, hn⟩ : ∃ n, xs.length = n := ⟨_, rfl⟩
    have hn' : ys.length = n := by omega
    rw [hn] at h2 hl2 ⊢
    rw [hn'] at h2' hl2 ⊢
    have EN := hide hn
    have EN' := hide hn'
    have H4 := hide h4
    have H4' := hide h4'
    clear hn hn' h4 h4' hl
    by_cases h0 : n = 0
    · subst h0
      have e1 : xs = [] := List.length_eq_zero_iff.1 EN.out
      have e2 : ys = [] := List.length_eq_zero_iff.1 EN'.out
      have hd : Hid (decide (xs = ys) = true) := show _ = true by rw [e1, e2]; rfl
      clear e1 e2 H4 H4' EN EN'
      go_enter Try.func9, Try.ntmps9
      go_wp2
      refine wp_loop_rounds 1 ?_
      rw [rounds_succ]
      go_wp2
      go_ret
      exact ⟨ret_bool hd.out.symm, Below.refl _ _⟩
    · obtain ⟨rfl, hc⟩ := H4.out.resolve_left (fun e => h0 (by rw [← EN.out, e]; rfl))
      obtain ⟨rfl, hc'⟩ := H4'.out.resolve_left (fun e => h0 (by rw [← EN'.out, e]; rfl))
      have HC := hide hc
      have HC' := hide hc'
      clear hc hc' H4 H4'
      go_enter Try.func9, Try.ntmps9
      go_wp2
      go_loopw [5] (fun i wr => ∃ k : Nat, k ≤ n ∧ i = .int .i64 k ∧ Hid (∀ j : Nat, j < k → xs[j]? = ys[j]?) ∧ Hid (Below w.heap.size w wr)) (fun i _ => n - (intOf i).toNat)
      case atStart => exact ⟨0, by omega, rfl, fun j hj => by omega, Below.refl _ _⟩
      case round =>
        obtain ⟨k, hk, rfl, HE, HB⟩ := hrel
        by_cases hlt : k < n
        · obtain ⟨x, ex⟩ : ∃ x, xs[k]? = some x := ⟨_, List.getElem?_eq_getElem (by rw [EN.out]; exact hlt)⟩
          obtain ⟨y, ey⟩ : ∃ y, ys[k]? = some y := ⟨_, List.getElem?_eq_getElem (by rw [EN'.out]; exact hlt)⟩
          have cx := cell_below HB.out (HC.out k x ex)
          have cy := cell_below HB.out (HC'.out k y ey)
          have EX := hide ex
          have EY := hide ey
          clear ex ey
          by_cases e : x = y
          · subst e
            have ne : (x != x) = false := by simp
            go_wp2
            go_region
            go_wp2
            have HX : Hid (∀ j : Nat, j < k + 1 → xs[j]? = ys[j]?) := fun j hj => by
              by_cases ej : j = k
              · subst ej; rw [EX.out, EY.out]
              · exact HE.out j (by omega)
            have HD : Hid (Below w.heap.size w wr.drew) := HB.out.drew
            refine ⟨?_, by simp [intOf]; omega⟩
            exact ⟨k + 1, by omega, by go_num, HX, HD⟩
          · have ne : (x != y) = true := by simpa using e
            have hd : Hid (decide (xs = ys) = false) := decide_eq_false (fun h => e (by have := EX.out; rw [h, EY.out] at this; exact (Option.some.inj this).symm))
            clear e
            go_wp2
            go_region
            go_wp2
            go_ret
            exact ⟨ret_bool hd.out.symm, HB.out.drew⟩
        · have hd : Hid (decide (xs = ys) = true) := decide_eq_true (by
            apply List.ext_getElem?
            intro j
            by_cases hj : j < k
            · exact HE.out j hj
            · rw [List.getElem?_eq_none (by rw [EN.out]; omega), List.getElem?_eq_none (by rw [EN'.out]; omega)])
          go_wp2
          go_ret
          exact ⟨ret_bool hd.out.symm, HB.out⟩
  · have hn : decide (xs = ys) = false := decide_eq_false (fun e => hl (by rw [e]))
    have hl2 : ((xs.length : Int) == (ys.length : Int)) = false := beq_eq_false_iff_ne.2 (by omega)
    have HN := hide hn
    clear hn h4 h4'
    go_enter Try.func9, Try.ntmps9
    go_wp2
    go_ret
    exact ⟨ret_bool HN.out.symm, Below.refl _ _⟩
theorem laOk (w : World) : Calls Try.prog 14 #[] w fun e w' => e = .returned (.bool true) ∧ w' = w := by
  go_enter Try.func14, Try.ntmps14
  go_wp2
  go_ret
  exact ⟨rfl, rfl⟩
theorem self_true (xs : List Int) : decide (xs = xs) = true := decide_eq_true rfl
/-- Two boxes behind one another. -/
structure Two (n : Nat) (A B : List Value) (w u : World) : Prop where
  a : Rec n A u
  b : Rec (n + 1) B u
  bw : Below n w u
theorem Two.new (w : World) (A B : List Value) (t t' : TypeId) : Two w.heap.size A B w ((w.alloc (.cells A.toArray t)).alloc (.cells B.toArray t')) := by
  have hb := Rec.new (w.alloc (.cells A.toArray t)) B t'
  have e : (w.alloc (.cells A.toArray t)).heap.size = w.heap.size + 1 := by simp
  rw [e] at hb
  exact ⟨(Rec.new w A t).alloc _, hb, ((Below.refl _ _).alloc (Nat.le_refl _) _).alloc (by simp) _⟩
theorem Two.below {n : Nat} {A B : List Value} {w u u' : World} (h : Two n A B w u) (hb : Below u.heap.size u u') : Two n A B w u' := ⟨h.a.below hb, h.b.below hb, h.bw.trans (hb.mono (Nat.le_of_lt h.a.lt))⟩
end Go.Proofs.Ytmmlhmhlfmafgaa.La
