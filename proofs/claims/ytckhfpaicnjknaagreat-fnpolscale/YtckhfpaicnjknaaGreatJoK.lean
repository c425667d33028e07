/-
  The laws' own comparisons: of ints (laInts), of sums (laPoly); laOk, laWords, laDeg.
-/
import Derived.Test.YtckhfpaicnjknaaGreatPolRg
import Derived.Test.YtckhfpaicnjknaaGreatPolT
import Derived.Test.YtckhfpaicnjknaaGreatPolF
import Derived.Test.YtckhfpaicnjknaaGreatPolOf
namespace Go.Proofs.YtckhfpaicnjknaaGreat.La
set_option linter.unusedVariables false
set_option linter.unusedSimpArgs false
open Go.ChangeShapes Go.WideShapes Go.ChangeAt Go.RowKit IntS
open Pol (Rec Mono PRow region_head head_yes head_no head_nil degL)
set_option maxHeartbeats 2000000 in
theorem laInts (xs ys : List Int) (B B' : Nat) (v v' : Value) (w : World) (h : Row w B v xs) (h' : Row w B' v' ys) :
    Calls Tryz.prog 35 #[v, v'] w fun e w' => e = .returned (.bool (decide (xs = ys))) ∧ Below w.heap.size w w' := by
  obtain ⟨a, cap, off, rfl, h2, h3, hz, h4⟩ := h
  obtain ⟨a', cap', off', rfl, h2', h3', hz', h4'⟩ := h'
  unfold maxLen at h3 h3'
  clear hz hz'
  by_cases hl : xs.length = ys.length
  · have hl2 : ((xs.length : Int) != (ys.length : Int)) = false := by rw [hl]; simp
    obtain ⟨n, hn⟩ : ∃ n, xs.length = n := ⟨_, rfl⟩
    have hn' : ys.length = n := by omega
    rw [hn] at h2 hl2 ⊢
    rw [hn'] at h2' hl2 ⊢
    have EN := hide hn
    have EN' := hide hn'
    have H4 := hide h4
    have H4' := hide h4'
    clear hn hn' h4 h4' hl
    by_cases h0 : n = 0
    · subst h0
      have e1 : xs = [] := List.length_eq_zero_iff.1 EN.out
      have e2 : ys = [] := List.length_eq_zero_iff.1 EN'.out
      have hd : Hid (decide (xs = ys) = true) := show _ = true by rw [e1, e2]; rfl
      clear e1 e2 H4 H4' EN EN'
      go_enter Tryz.func35, Tryz.ntmps35
      go_wp2
      refine wp_loop_rounds 1 ?_
      rw [rounds_succ]
      go_wp2
      go_ret
      exact ⟨ret_bool hd.out.symm, Below.refl _ _⟩
    · obtain ⟨rfl, hc⟩ := H4.out.resolve_left (fun e => h0 (by rw [← EN.out, e]; rfl))
      obtain ⟨rfl, hc'⟩ := H4'.out.resolve_left (fun e => h0 (by rw [← EN'.out, e]; rfl))
      have HC := hide hc
      have HC' := hide hc'
      clear hc hc' H4 H4'
      go_enter Tryz.func35, Tryz.ntmps35
      go_wp2
      go_loopw [5] (fun i wr => ∃ k : Nat, k ≤ n ∧ i = .int .i64 k ∧ Hid (∀ j : Nat, j < k → xs[j]? = ys[j]?) ∧ Hid (Below w.heap.size w wr)) (fun i _ => n - (intOf i).toNat)
      case atStart => exact ⟨0, by omega, rfl, fun j hj => by omega, Below.refl _ _⟩
      case round =>
        obtain ⟨k, hk, rfl, HE, HB⟩ := hrel
        by_cases hlt : k < n
        · obtain ⟨x, ex⟩ : ∃ x, xs[k]? = some x := ⟨_, List.getElem?_eq_getElem (by rw [EN.out]; exact hlt)⟩
          obtain ⟨y, ey⟩ : ∃ y, ys[k]? = some y := ⟨_, List.getElem?_eq_getElem (by rw [EN'.out]; exact hlt)⟩
          have cx := cell_below HB.out (HC.out k x ex)
          have cy := cell_below HB.out (HC'.out k y ey)
          have EX := hide ex
          have EY := hide ey
          clear ex ey
          by_cases e : x = y
          · subst e
            have ne : (x != x) = false := by simp
            go_wp2
            go_region
            go_wp2
            have HX : Hid (∀ j : Nat, j < k + 1 → xs[j]? = ys[j]?) := fun j hj => by
              by_cases ej : j = k
              · subst ej; rw [EX.out, EY.out]
              · exact HE.out j (by omega)
            have HD : Hid (Below w.heap.size w wr.drew) := HB.out.drew
            refine ⟨?_, by simp [intOf]; omega⟩
            exact ⟨k + 1, by omega, by go_num, HX, HD⟩
          · have ne : (x != y) = true := by simpa using e
            have hd : Hid (decide (xs = ys) = false) := decide_eq_false (fun h => e (by have := EX.out; rw [h, EY.out] at this; exact (Option.some.inj this).symm))
            clear e
            go_wp2
            go_region
            go_wp2
            go_ret
            exact ⟨ret_bool hd.out.symm, HB.out.drew⟩
        · have hd : Hid (decide (xs = ys) = true) := decide_eq_true (by
            apply List.ext_getElem?
            intro j
            by_cases hj : j < k
            · exact HE.out j hj
            · rw [List.getElem?_eq_none (by rw [EN.out]; omega), List.getElem?_eq_none (by rw [EN'.out]; omega)])
          go_wp2
          go_ret
          exact ⟨ret_bool hd.out.symm, HB.out⟩
  · have hn : decide (xs = ys) = false := decide_eq_false (fun e => hl (by rw [e]))
    have hl2 : ((xs.length : Int) == (ys.length : Int)) = false := beq_eq_false_iff_ne.2 (by omega)
    have HN := hide hn
    clear hn h4 h4'
    go_enter Tryz.func35, Tryz.ntmps35
    go_wp2
    go_ret
    exact ⟨ret_bool HN.out.symm, Below.refl _ _⟩
theorem laOk (w : World) : Calls Tryz.prog 12 #[] w fun e w' => e = .returned (.bool true) ∧ w' = w := by
  go_enter Tryz.func12, Tryz.ntmps12
  go_wp2
  go_ret
  exact ⟨rfl, rfl⟩
/-- Two boxes behind one another. -/
structure Two (n : Nat) (A B : List Value) (w u : World) : Prop where
  a : Rec n A u
  b : Rec (n + 1) B u
  bw : Below n w u
theorem Two.new (w : World) (A B : List Value) (t t' : TypeId) : Two w.heap.size A B w ((w.alloc (.cells A.toArray t)).alloc (.cells B.toArray t')) := by
  have hb := Rec.new (w.alloc (.cells A.toArray t)) B t'
  have e : (w.alloc (.cells A.toArray t)).heap.size = w.heap.size + 1 := by simp
  rw [e] at hb
  exact ⟨(Rec.new w A t).alloc _, hb, ((Below.refl _ _).alloc (Nat.le_refl _) _).alloc (by simp) _⟩
theorem Two.below {n : Nat} {A B : List Value} {w u u' : World} (h : Two n A B w u) (hb : Below u.heap.size u u') : Two n A B w u' := ⟨h.a.below hb, h.b.below hb, h.bw.trans (hb.mono (Nat.le_of_lt h.a.lt))⟩
set_option maxRecDepth 8000 in
set_option maxHeartbeats 8000000 in
theorem laPoly (ps qs : List Mono) (B B' : Nat) (v v' : Value) (w : World) (h : PRow w B v ps) (h' : PRow w B' v' qs) :
    Calls Tryz.prog 10 #[.agg #[v], .agg #[v']] w fun e w' => e = .returned (.bool (decide (ps = qs))) ∧ Below w.heap.size w w' := by
  have TT := hide (Two.new w [v] [v'] 25 25)
  have H := hide (h.below TT.out.bw)
  have H' := hide (h'.below TT.out.bw)
  obtain ⟨a, cap, off, rfl, h2, h3, hz, h4⟩ := h
  obtain ⟨a', cap', off', rfl, h2', h3', hz', h4'⟩ := h'
  unfold maxLen at h3 h3'
  clear hz hz' h4 h4'
  have a0 := TT.out.a.cell 0 _ rfl
  have b0 := TT.out.b.cell 0 _ rfl
  by_cases hl : ps.length = qs.length
  case neg =>
    have HN : Hid (decide (ps = qs) = false) := decide_eq_false (fun e => hl (by rw [e]))
    have hl2 : ((ps.length : Int) != (qs.length : Int)) = true := bne_iff_ne.2 (by omega)
    have BW := hide TT.out.bw
    go_enter Tryz.func10, Tryz.ntmps10
    go_wp2
    go_ret
    exact ⟨ret_bool HN.out.symm, BW.out⟩
  obtain ⟨n, en⟩ : ∃ n, qs.length = n := ⟨_, rfl⟩
  have en' : ps.length = n := hl.trans en
  rw [en] at h2' a0 b0 H H' TT ⊢
  rw [en'] at h2 a0 b0 H H' TT ⊢
  have EN := hide en
  have EN' := hide en'
  clear en en' hl
  have ne0 : ((n : Int) != (n : Int)) = false := by simp
  obtain ⟨D, eD⟩ : ∃ D : Bool, decide (ps = qs) = D := ⟨_, rfl⟩
  have ED := hide eD
  rw [eD]
  clear eD
  go_enter Tryz.func10, Tryz.ntmps10
  go_wp2
  generalize ((w.alloc (.cells #[.slice a n cap] 25)).alloc (.cells #[.slice a' n cap'] 25)) = V at TT H H' a0 b0 ⊢
  go_loopw [5] (fun i wr => ∃ k : Nat, k ≤ n ∧ i = .int .i64 k ∧ Hid (∀ j : Nat, j < k → ps[j]? = qs[j]?) ∧ Hid (Below V.heap.size V wr)) (fun i _ => n - (intOf i).toNat)
  case atStart => exact ⟨0, by omega, rfl, fun j hj => by omega, Below.refl _ _⟩
  case round =>
    clear a0 b0
    obtain ⟨k, hk, rfl, HE, HB⟩ := hrel
    have BW : Hid (Below w.heap.size w wr) := TT.out.bw.trans (HB.out.mono TT.out.bw.size)
    have T1 := hide (TT.out.below HB.out)
    have a0 := T1.out.a.cell 0 _ rfl
    have b0 := T1.out.b.cell 0 _ rfl
    by_cases hlt : k < n
    case neg =>
      have HD : Hid (D = true) := ED.out.symm.trans (decide_eq_true (by
        apply List.ext_getElem?
        intro j
        by_cases hj : j < k
        · exact HE.out j hj
        · rw [List.getElem?_eq_none (by rw [EN'.out]; omega), List.getElem?_eq_none (by rw [EN.out]; omega)]))
      clear T1 HE
      go_wp2
      go_ret
      exact ⟨ret_bool HD.out.symm, BW.out⟩
    obtain ⟨x, ex⟩ : ∃ x, ps[k]? = some x := ⟨_, List.getElem?_eq_getElem (by rw [EN'.out]; exact hlt)⟩
    obtain ⟨y, ey⟩ : ∃ y, qs[k]? = some y := ⟨_, List.getElem?_eq_getElem (by rw [EN.out]; exact hlt)⟩
    have P1 := H.out.below HB.out
    have P2 := H'.out.below HB.out
    obtain ⟨_, _, o1, e1, _, _, _, h4⟩ := P1
    obtain ⟨_, _, o2, e2, _, _, _, h4'⟩ := P2
    injection e1 with i1 i2 i3
    injection e2 with j1 j2 j3
    subst i1 i3 j1 j3
    clear i2 j2
    obtain ⟨rfl, q1⟩ := h4.resolve_left (fun e => by rw [e] at ex; simp at ex)
    obtain ⟨rfl, q2⟩ := h4'.resolve_left (fun e => by rw [e] at ey; simp at ey)
    obtain ⟨c1, s1, d1, f1, r1⟩ := q1 k x ex
    obtain ⟨c2, s2, d2, f2, r2⟩ := q2 k y ey
    obtain ⟨x, xs⟩ := x
    obtain ⟨y, ys⟩ := y
    simp only [] at c1 c2 r1 r2
    have R1 := hide r1
    have R2 := hide r2
    obtain ⟨qa, ca, _, rfl, _⟩ := r1
    obtain ⟨qb, cb, _, rfl, _⟩ := r2
    have EX := hide ex
    have EY := hide ey
    have lk : ((k : Nat) : Int) < (n : Nat) := by omega
    clear ex ey q1 q2 h4 h4'
    by_cases e : x = y
    case neg =>
      have ne : (x != y) = true := by simpa using e
      have HD : Hid (D = false) := ED.out.symm.trans (decide_eq_false (fun h => e (by have := EX.out; rw [h, EY.out] at this; exact (congrArg Prod.fst (Option.some.inj this)).symm)))
      clear e T1 HE
      go_wp2_with fail
      refine region_head 26 (by kernel_rfl) (by kernel_rfl) ?_
      simp only [List.take_succ_cons, List.take_zero, List.drop_succ_cons, List.drop_zero]
      refine head_yes (by kernel_rfl) (fun K hK => ?_)
      go_simp
      refine hK _ ?_
      clear hK K
      refine head_yes (by kernel_rfl) (fun K hK => ?_)
      go_simp
      refine hK _ ?_
      clear hK K
      refine head_yes (by kernel_rfl) (fun K hK => ?_)
      go_simp
      refine hK _ ?_
      clear hK K
      refine head_yes (by kernel_rfl) (fun K hK => ?_)
      go_simp
      refine hK _ ?_
      clear hK K
      refine head_yes (by kernel_rfl) (fun K hK => ?_)
      go_simp
      refine hK _ ?_
      clear hK K
      refine head_yes (by kernel_rfl) (fun K hK => ?_)
      go_simp
      refine hK _ ?_
      clear hK K
      refine head_yes (by kernel_rfl) (fun K hK => ?_)
      go_simp
      refine hK _ ?_
      clear hK K
      refine head_yes (by kernel_rfl) (fun K hK => ?_)
      go_simp
      refine hK _ ?_
      clear hK K
      refine head_yes (by kernel_rfl) (fun K hK => ?_)
      go_simp
      refine hK _ ?_
      clear hK K
      refine head_yes (by kernel_rfl) (fun K hK => ?_)
      go_simp
      refine hK _ ?_
      clear hK K
      refine head_yes (by kernel_rfl) (fun K hK => ?_)
      go_simp
      refine hK _ ?_
      clear hK K
      refine head_yes (by kernel_rfl) (fun K hK => ?_)
      go_simp
      refine hK _ ?_
      clear hK K
      refine head_yes (by kernel_rfl) (fun K hK => ?_)
      go_simp
      refine hK _ ?_
      clear hK K
      refine head_yes (by kernel_rfl) (fun K hK => ?_)
      go_simp
      refine hK _ ?_
      clear hK K
      refine head_no (by kernel_rfl) ?_
      simp only [Act.put, List.setIfInBounds_toArray, List.set]
      refine head_no (by kernel_rfl) ?_
      simp only [Act.put, List.setIfInBounds_toArray, List.set]
      refine head_no (by kernel_rfl) ?_
      simp only [Act.put, List.setIfInBounds_toArray, List.set]
      refine head_no (by kernel_rfl) ?_
      simp only [Act.put, List.setIfInBounds_toArray, List.set]
      refine head_no (by kernel_rfl) ?_
      simp only [Act.put, List.setIfInBounds_toArray, List.set]
      refine head_no (by kernel_rfl) ?_
      simp only [Act.put, List.setIfInBounds_toArray, List.set]
      refine head_no (by kernel_rfl) ?_
      simp only [Act.put, List.setIfInBounds_toArray, List.set]
      refine head_no (by kernel_rfl) ?_
      simp only [Act.put, List.setIfInBounds_toArray, List.set]
      refine head_no (by kernel_rfl) ?_
      simp only [Act.put, List.setIfInBounds_toArray, List.set]
      refine head_no (by kernel_rfl) ?_
      simp only [Act.put, List.setIfInBounds_toArray, List.set]
      refine head_no (by kernel_rfl) ?_
      simp only [Act.put, List.setIfInBounds_toArray, List.set]
      refine head_no (by kernel_rfl) ?_
      simp only [Act.put, List.setIfInBounds_toArray, List.set]
      refine head_nil ?_
      go_wp2
      go_ret
      exact ⟨ret_bool HD.out.symm, BW.out.drew⟩
    subst e
    have ne : (x != x) = false := by simp
    go_wp2_with fail
    refine region_head 26 (by kernel_rfl) (by kernel_rfl) ?_
    simp only [List.take_succ_cons, List.take_zero, List.drop_succ_cons, List.drop_zero]
    refine head_yes (by kernel_rfl) (fun K hK => ?_)
    go_simp
    refine hK _ ?_
    clear hK K
    refine head_yes (by kernel_rfl) (fun K hK => ?_)
    go_simp
    refine hK _ ?_
    clear hK K
    refine head_yes (by kernel_rfl) (fun K hK => ?_)
    go_simp
    refine hK _ ?_
    clear hK K
    refine head_yes (by kernel_rfl) (fun K hK => ?_)
    go_simp
    refine hK _ ?_
    clear hK K
    refine head_yes (by kernel_rfl) (fun K hK => ?_)
    go_simp
    refine hK _ ?_
    clear hK K
    refine head_yes (by kernel_rfl) (fun K hK => ?_)
    go_simp
    refine hK _ ?_
    clear hK K
    refine head_yes (by kernel_rfl) (fun K hK => ?_)
    go_simp
    refine hK _ ?_
    clear hK K
    refine head_yes (by kernel_rfl) (fun K hK => ?_)
    go_simp
    refine hK _ ?_
    clear hK K
    refine head_yes (by kernel_rfl) (fun K hK => ?_)
    go_simp
    refine hK _ ?_
    clear hK K
    refine head_yes (by kernel_rfl) (fun K hK => ?_)
    go_simp
    refine hK _ ?_
    clear hK K
    refine head_yes (by kernel_rfl) (fun K hK => ?_)
    go_simp
    refine hK _ ?_
    clear hK K
    refine head_yes (by kernel_rfl) (fun K hK => ?_)
    go_simp
    refine hK _ ?_
    clear hK K
    refine head_yes (by kernel_rfl) (fun K hK => ?_)
    go_simp
    refine hK _ ?_
    clear hK K
    refine head_yes (by kernel_rfl) (fun K hK => ?_)
    go_simp
    refine hK _ ?_
    clear hK K
    refine head_yes (by kernel_rfl) (fun K hK => ?_)
    go_simp
    refine hK _ ?_
    clear hK K
    refine head_yes (by kernel_rfl) (fun K hK => ?_)
    go_simp
    refine hK _ ?_
    clear hK K
    refine head_yes (by kernel_rfl) (fun K hK => ?_)
    go_simp
    refine hK _ ?_
    clear hK K
    refine head_yes (by kernel_rfl) (fun K hK => ?_)
    go_simp
    refine hK _ ?_
    clear hK K
    refine head_yes (by kernel_rfl) (fun K hK => ?_)
    go_simp
    refine hK _ ?_
    clear hK K
    refine head_yes (by kernel_rfl) (fun K hK => ?_)
    go_simp
    refine hK _ ?_
    clear hK K
    refine head_yes (by kernel_rfl) (fun K hK => ?_)
    go_simp
    refine hK _ ?_
    clear hK K
    refine head_yes (by kernel_rfl) (fun K hK => ?_)
    go_simp
    refine hK _ ?_
    clear hK K
    refine head_yes (by kernel_rfl) (fun K hK => ?_)
    go_simp
    refine hK _ ?_
    clear hK K
    refine head_yes (by kernel_rfl) (fun K hK => ?_)
    go_simp
    refine hK _ ?_
    clear hK K
    refine head_yes (by kernel_rfl) (fun K hK => ?_)
    go_simp
    refine hK _ ?_
    clear hK K
    refine head_yes (by kernel_rfl) (fun K hK => ?_)
    go_simp
    refine hK _ ?_
    clear hK K
    refine head_nil ?_
    have BD : Hid (Below wr.heap.size wr wr.drew) := (Below.refl _ _).drew
    go_wp2_with fail
    refine (laInts xs ys _ _ _ _ _ (R1.out.below BD.out) (R2.out.below BD.out)).mono ?_
    rintro e u ⟨rfl, hb⟩
    have BU : Hid (Below wr.heap.size wr u) := BD.out.trans (hb.mono BD.out.size)
    clear hb BD a0 b0 c1 c2 f1 f2
    cases et : decide (xs = ys) with
    | false =>
      have HD : Hid (D = false) := ED.out.symm.trans (decide_eq_false (fun h => (of_decide_eq_false et) (by have := EX.out; rw [h, EY.out] at this; exact (congrArg Prod.snd (Option.some.inj this)).symm)))
      have B2 : Hid (Below w.heap.size w u) := BW.out.trans (BU.out.mono BW.out.size)
      clear et T1 HE
      go_wp2
      go_ret
      exact ⟨ret_bool HD.out.symm, B2.out⟩
    | true =>
      obtain rfl := of_decide_eq_true et
      have HX : Hid (∀ j : Nat, j < k + 1 → ps[j]? = qs[j]?) := fun j hj => by
        by_cases ej : j = k
        · subst ej; rw [EX.out, EY.out]
        · exact HE.out j (by omega)
      have B2 : Hid (Below V.heap.size V u) := HB.out.trans (BU.out.mono HB.out.size)
      clear et T1 HE EX EY
      go_wp2
      exact ⟨⟨k + 1, by omega, by go_num, HX, B2⟩, by simp [intOf]; omega⟩
/-- The words that are left of numbers. -/
theorem wordsRow (xs : List Int) : ∀ x ∈ xs.map (fun x => x % 65536), 0 ≤ x ∧ x < 65536 := fun x hx => by
  obtain ⟨y, _, rfl⟩ := List.mem_map.1 hx
  omega
end Go.Proofs.YtckhfpaicnjknaaGreat.La
namespace Go.Proofs.YtckhfpaicnjknaaGreat.La
set_option linter.unusedVariables false
set_option linter.unusedSimpArgs false
open Go.ChangeShapes Go.WideShapes Go.ChangeAt Go.RowKit IntS
open Pol (Rec Mono PRow wpList_pushI)
def wordsOf (xs : List Int) : List Int := xs.map fun x => x % 65536
theorem words_len (xs : List Int) : (wordsOf xs).length = xs.length := by simp [wordsOf]
theorem words_ok (xs : List Int) : ∀ x ∈ wordsOf xs, 0 ≤ x ∧ x < 65536 := fun x hx => by
  obtain ⟨y, _, rfl⟩ := List.mem_map.1 hx
  omega
theorem words_snoc {xs : List Int} {k : Nat} {x : Int} (h : xs[k]? = some x) : wordsOf (xs.take k) ++ [x % 65536] = wordsOf (xs.take (k + 1)) := by
  unfold wordsOf
  rw [List.take_add_one, h, List.map_append]
  rfl
theorem own_read {w : World} {lo : Nat} {v : Value} {xs : List Int} (h : IntS.Own w lo v xs) (hn : ¬ v = .slice none 0 0) : ∃ B, Row w B v xs := by
  obtain ⟨g, cap, rfl, _, _, h4⟩ := h.form hn
  exact ⟨g, h4.row⟩
theorem own_nil (w : World) {lo : Nat} (hlo : lo ≤ w.heap.size) : IntS.Own (w.alloc (.cells #[] 3)) lo (.slice (some ⟨w.heap.size, 0, none⟩) 0 0) [] :=
  ⟨rfl, Or.inr ⟨w.heap.size, 0, #[], rfl, hlo, by show (w.heap.push _)[w.heap.size]? = _; exact Array.getElem?_push_size, Nat.le_refl _, by unfold maxLen; omega, rfl, rfl⟩⟩
theorem own_below {w w' : World} {lo g n cap : Nat} {xs : List Int} (h : IntS.Own w lo (.slice (some ⟨g, 0, none⟩) n cap) xs) (hb : Below w.heap.size w w') : IntS.Own w' lo (.slice (some ⟨g, 0, none⟩) n cap) xs := by
  have hg : g < w.heap.size := by
    obtain ⟨g', cap', e, _, h2, _⟩ := h.form (by simp)
    cases e
    exact h2
  exact h.turn (B := g + 1) (Turn.of_below hb) (by omega) hg
set_option maxRecDepth 8000 in
set_option maxHeartbeats 8000000 in
theorem laWords (xs : List Int) (B : Nat) (v : Value) (w : World) (h : Row w B v xs) (hx : xs.length ≤ 1000) :
    Calls Tryz.prog 14 #[v] w fun e w' => ∃ g c B', e = .returned (.slice (some ⟨g, 0, none⟩) (wordsOf xs).length c) ∧ Row w' B' (.slice (some ⟨g, 0, none⟩) (wordsOf xs).length c) (wordsOf xs) ∧ Below w.heap.size w w' := by
  have O0 := hide (own_nil w (Nat.le_refl _))
  have B0 : Hid (Below w.heap.size w (w.alloc (.cells #[] 3))) := (Below.refl _ _).alloc (Nat.le_refl _) _
  obtain ⟨a, cap, off, rfl, h2, h3, hz, h4⟩ := h
  unfold maxLen at h3
  obtain ⟨n, en⟩ : ∃ n, xs.length = n := ⟨_, rfl⟩
  have EN := hide en
  rw [words_len, en]
  rw [en] at h2 hx
  have H4 := hide h4
  clear en h4 hz
  go_enter Tryz.func14, Tryz.ntmps14
  go_wp2
  generalize w.alloc (.cells #[] 3) = V at O0 B0 ⊢
  go_loopw [3, 4] (fun s i wr => ∃ (k g cp : Nat), k ≤ n ∧ i = .int .i64 (k : Int) ∧ s = .slice (some ⟨g, 0, none⟩) k cp ∧ Hid (IntS.Own wr w.heap.size (.slice (some ⟨g, 0, none⟩) k cp) (wordsOf (xs.take k))) ∧ Hid (Below w.heap.size w wr)) (fun _ i _ => n - (intOf i).toNat)
  case atStart => exact ⟨0, w.heap.size, 0, by omega, rfl, rfl, by rw [List.take_zero]; exact O0, B0⟩
  case round =>
    clear O0 B0
    obtain ⟨k, g, cp, hk, rfl, rfl, OO, BB⟩ := hrel
    by_cases hlt : k < n
    case neg =>
      obtain rfl : k = n := by omega
      have FIN : Hid (∃ B', Row wr B' (.slice (some ⟨g, 0, none⟩) k cp) (wordsOf xs)) := by
        have := own_read OO.out (by simp)
        rw [List.take_of_length_le (by rw [EN.out]; exact Nat.le_refl _)] at this
        exact this
      clear OO
      go_wp2
      go_ret
      obtain ⟨B', r⟩ := FIN.out
      exact ⟨_, cp, B', rfl, r, BB.out⟩
    obtain ⟨x, ex⟩ : ∃ x, xs[k]? = some x := ⟨_, List.getElem?_eq_getElem (by rw [EN.out]; exact hlt)⟩
    obtain ⟨rfl, hc⟩ := H4.out.resolve_left (fun e => by rw [e] at ex; simp at ex)
    have cx := cell_below BB.out (hc k x ex)
    have lk : ((k : Nat) : Int) < (n : Nat) := by omega
    have WX := hide (words_snoc ex)
    have lw : Hid ((wordsOf (xs.take k)).length = k) := show _ = _ by rw [words_len, List.length_take, EN.out]; omega
    clear hc ex
    go_wp2_with fail
    refine (Wrd.specWrap x wr).mono ?_
    rintro e u ⟨rfl, hu⟩
    rw [hu]
    clear hu u
    have b1 : Below wr.heap.size wr (wr.alloc (.cells #[.int .i64 (x % 65536)] 3)) := (Below.refl _ _).alloc (Nat.le_refl _) _
    have O1 := hide (own_below OO.out b1)
    have B1 := hide (BB.out.trans (b1.mono BB.out.size))
    have C1 : Hid ((wr.alloc (.cells #[.int .i64 (x % 65536)] 3)).cell? ((⟨wr.heap.size, 0, none⟩ : Addr).add 0) = some (.int .i64 (x % 65536))) := show _ = _ by rw [Go.WideShapes.add_plain]; simp
    have L1 : Hid ((wordsOf (xs.take k)).length ≤ 1000000) := show _ ≤ _ by rw [lw.out]; omega
    clear b1 OO BB cx
    go_wp2_with (at_builtin; refine wpList_pushI rfl _ _ rfl w.heap.size (.slice (some ⟨g, 0, none⟩) k cp) (wordsOf (xs.take k)) rfl O1.out B1.out.size ⟨wr.heap.size, 0, none⟩ (x % 65536) rfl C1.out L1.out ?_; intro G2 cp2 u2 hO hb _; rw [lw.out] at hO ⊢; have ON := hide (show IntS.Own u2 w.heap.size (.slice (some ⟨G2, 0, none⟩) (k + 1) cp2) (wordsOf (xs.take (k + 1))) by rw [← WX.out]; exact hO.out); have BN := hide (B1.out.trans hb.out); clear hO hb; refine Hid.out ?_)
    refine hide ?_
    clear O1 B1 C1 L1 WX lw
    go_wp2
    exact ⟨⟨k + 1, G2, cp2, by omega, by go_num, rfl, ON, BN⟩, by simp [intOf]; omega⟩
end Go.Proofs.YtckhfpaicnjknaaGreat.La
