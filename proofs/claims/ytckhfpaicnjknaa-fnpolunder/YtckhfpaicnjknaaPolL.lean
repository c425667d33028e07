/-
  Whether all atoms of a sum are below a number: the program's PolUnder and the specification's.
-/
import Derived.Test.YtckhfpaicnjknaaPolF
namespace Go.Proofs.Ytckhfpaicnjknaa.Pol
open Go.ChangeShapes Go.WideShapes Go.ChangeAt Go.RowKit IntS
def rowAt (ps : List Mono) (n : Int) (i : Nat) : Bool := (List.range (ps.getD i (0, [])).2.length).all fun j => decide ((ps.getD i (0, [])).2.getD j 0 < n)
theorem under_rows (ps : List Mono) (n : Int) : underB ps n = (List.range ps.length).all (rowAt ps n) := rfl
theorem row_no {ps : List Mono} {n : Int} {k j : Nat} {c x : Int} {at_ : List Int} (h : ps[k]? = some (c, at_)) (hx : at_[j]? = some x) (hn : n ≤ x) : rowAt ps n k = false := by
  unfold rowAt
  rw [getD_part h]
  exact all_no (k := j) (List.getElem?_eq_some_iff.1 hx).1 (by rw [getD_at hx]; exact decide_eq_false (by omega))
theorem row_yes {ps : List Mono} {n : Int} {k : Nat} {c : Int} {at_ : List Int} (h : ps[k]? = some (c, at_)) (hx : ∀ (j : Nat) x, at_[j]? = some x → x < n) : rowAt ps n k = true := by
  unfold rowAt
  rw [getD_part h]
  exact all_yes fun j hj => by
    rw [getD_at (List.getElem?_eq_getElem hj)]
    exact decide_eq_true (hx j _ (List.getElem?_eq_getElem hj))
set_option maxRecDepth 4000 in
set_option maxHeartbeats 8000000 in
theorem implUnder (ps : List Mono) (q : Int) (B : Nat) (v : Value) (w : World) (h : PRow w B v ps) :
    Calls Try.prog 29 #[.agg #[v], .int .i64 q] w fun e w' => e = .returned (.bool (underB ps q)) ∧ Below w.heap.size w w' := by
  obtain ⟨a, cap, off, rfl, h2, h3, hz, h4⟩ := h
  unfold maxLen at h3
  clear hz
  have bV : Below w.heap.size w (w.alloc (.cells #[.slice a ps.length cap] 25)) := (Below.refl _ _).alloc (Nat.le_refl _) _
  have BW := hide bV
  clear bV
  have HM := hide (under_rows ps q)
  obtain ⟨RES, eRES⟩ : ∃ r, underB ps q = r := ⟨_, rfl⟩
  rw [eRES]
  replace HM := hide (eRES.symm.trans HM.out)
  clear eRES
  obtain ⟨n, en⟩ : ∃ n, ps.length = n := ⟨_, rfl⟩
  have EN := hide en
  rw [en] at h2 BW HM ⊢
  have H4 := hide h4
  clear en h4
  go_enter Try.func29, Try.ntmps29
  by_cases h0 : n = 0
  · subst h0
    have HD : Hid (RES = true) := HM.out.trans rfl
    go_wp2
    refine wp_loop_rounds 1 ?_
    rw [rounds_succ]
    go_wp2
    go_ret
    exact ⟨ret_bool HD.out.symm, BW.out⟩
  · obtain ⟨rfl, hc⟩ := H4.out.resolve_left (fun e => h0 (by rw [← EN.out, e]; rfl))
    have HC := hide hc
    clear hc H4
    go_wp2
    have ZZ : Hid ((w.alloc (.cells #[.slice (some ⟨B, off, none⟩) n cap] 25)).cell? ⟨w.heap.size, 0, none⟩ = some (.slice (some ⟨B, off, none⟩) n cap)) := show _ = _ by rw [World.cell?_alloc_new]; rfl
    have HV : Hid (∀ (i : Nat) x, ps[i]? = some x → (w.alloc (.cells #[.slice (some ⟨B, off, none⟩) n cap] 25)).cell? ⟨B, off + i * 2, none⟩ = some (.int .i64 x.1) ∧ ∃ s b, (w.alloc (.cells #[.slice (some ⟨B, off, none⟩) n cap] 25)).cell? ⟨B, off + i * 2 + 1, none⟩ = some s ∧ Row (w.alloc (.cells #[.slice (some ⟨B, off, none⟩) n cap] 25)) b s x.2) := fun i x hx => by
      obtain ⟨g1, s, b, g2, g3⟩ := HC.out i x hx
      have bb := (Below.refl w.heap.size w).alloc (Nat.le_refl _) (.cells #[.slice (some ⟨B, off, none⟩) n cap] 25)
      exact ⟨cell_below bb g1, s, b, cell_below bb g2, g3.below bb⟩
    generalize w.alloc (.cells #[.slice (some ⟨B, off, none⟩) n cap] 25) = V at BW HV ZZ ⊢
    go_loopw [12] (fun i wr => ∃ k : Nat, k ≤ n ∧ i = .int .i64 k ∧ Hid (∀ j, j < k → rowAt ps q j = true) ∧ Hid (Below V.heap.size V wr)) (fun i _ => n - (intOf i).toNat)
    case atStart => exact ⟨0, by omega, rfl, fun j hj => by omega, Below.refl _ _⟩
    case round =>
      obtain ⟨k, hk, rfl, HE, HB⟩ := hrel
      have z0 := cell_below HB.out ZZ.out
      by_cases hlt : k < n
      case neg =>
        have HD : Hid (RES = true) := HM.out.trans (all_yes fun j hj => HE.out j (by omega))
        go_wp2
        go_ret
        exact ⟨ret_bool HD.out.symm, BW.out.trans (HB.out.mono BW.out.size)⟩
      obtain ⟨x, ex⟩ : ∃ x, ps[k]? = some x := ⟨_, List.getElem?_eq_getElem (by rw [EN.out]; exact hlt)⟩
      obtain ⟨c, at_⟩ := x
      obtain ⟨g1, s, b, g2, g3⟩ := HV.out k _ ex
      have cx := cell_below HB.out g1
      have sx := cell_below HB.out g2
      replace g3 := g3.below HB.out
      have EX := hide ex
      obtain ⟨qa, ca, oa, rfl, l2, l3, _, l4⟩ := g3
      unfold maxLen at l3
      simp only [] at cx sx l2 l4
      have lk : ((k : Nat) : Int) < (n : Nat) := by omega
      have NX : Hid (rowAt ps q k = true → ∀ j, j < k + 1 → rowAt ps q j = true) := fun hr j hj => by
        by_cases ej : j = k
        · subst ej; exact hr
        · exact HE.out j (by omega)
      clear ex g1 g2
      obtain ⟨m, em⟩ : ∃ m, at_.length = m := ⟨_, rfl⟩
      have EM := hide em
      rw [em] at sx l2
      have L4 := hide l4
      clear em l4
      by_cases m0 : m = 0
      · subst m0
        have HX := hide (NX.out (row_yes EX.out (fun j y hy => by rw [List.length_eq_zero_iff.1 EM.out] at hy; simp at hy)))
        have BX := hide (HB.out.trans (((Below.refl wr.heap.size wr).alloc (Nat.le_refl _) (.cells #[.int .i64 c, .slice qa 0 ca] 59)).mono HB.out.size))
        go_wp2
        refine wp_loop_rounds 1 ?_
        rw [rounds_succ]
        go_wp2
        exact ⟨⟨k + 1, by omega, by go_num, HX, BX⟩, by simp [intOf]; omega⟩
      · obtain ⟨rfl, hc2⟩ := L4.out.resolve_left (fun e => m0 (by rw [← EM.out, e]; rfl))
        have bX := (Below.refl wr.heap.size wr).alloc (Nat.le_refl _) (.cells #[.int .i64 c, .slice (some ⟨b, oa, none⟩) m ca] 59)
        have HC2 := hide (fun (j : Nat) (y : Int) (hy : at_[j]? = some y) => cell_below bX (hc2 j y hy))
        have BX := hide (HB.out.trans (bX.mono HB.out.size))
        clear hc2 L4 bX
        go_wp2
        generalize wr.alloc (.cells #[.int .i64 c, .slice (some ⟨b, oa, none⟩) m ca] 59) = U at HC2 BX ⊢
        clear cx sx z0
        go_loopw [19] (fun i w2 => ∃ j : Nat, j ≤ m ∧ i = .int .i64 j ∧ Hid (∀ (t : Nat) y, t < j → at_[t]? = some y → y < q) ∧ w2 = U) (fun i _ => m - (intOf i).toNat)
        case atStart => exact ⟨0, by omega, rfl, fun t y ht => by omega, rfl⟩
        case round =>
          obtain ⟨j, hj, rfl, HT, rfl⟩ := hrel
          by_cases jlt : j < m
          · obtain ⟨y, ey⟩ : ∃ y, at_[j]? = some y := ⟨_, List.getElem?_eq_getElem (by rw [EM.out]; exact jlt)⟩
            have cy := HC2.out j y ey
            have EY := hide ey
            have lj : ((j : Nat) : Int) < (m : Nat) := by omega
            clear ey
            by_cases hb : q ≤ y
            · have HD : Hid (RES = false) := HM.out.trans (all_no (k := k) hlt (row_no EX.out EY.out hb))
              go_wp2
              go_ret
              exact ⟨ret_bool HD.out.symm, BW.out.trans (BX.out.mono BW.out.size)⟩
            · have HX : Hid (∀ (t : Nat) z, t < j + 1 → at_[t]? = some z → z < q) := fun t z ht hz => by
                by_cases et : t = j
                · subst et
                  rw [EY.out] at hz
                  obtain rfl := Option.some.inj hz
                  omega
                · exact HT.out t z (by omega) hz
              go_wp2
              exact ⟨⟨j + 1, by omega, by go_num, HX, trivial⟩, by simp [intOf]; omega⟩
          · have HX := hide (NX.out (row_yes EX.out (fun t y hy => HT.out t y (by have := (List.getElem?_eq_some_iff.1 hy).1; rw [EM.out] at this; omega) hy)))
            go_wp2
            exact ⟨⟨k + 1, by omega, by go_num, HX, BX⟩, by simp [intOf]; omega⟩
set_option maxRecDepth 4000 in
set_option maxHeartbeats 8000000 in
theorem specUnder (ps : List Mono) (q : Int) (B : Nat) (v : Value) (w : World) (h : PRow w B v ps) :
    Calls Try.prog 30 #[.agg #[v], .int .i64 q] w fun e w' => e = .returned (.bool (underB ps q)) ∧ Below w.heap.size w w' := by
  obtain ⟨a, cap, off, rfl, h2, h3, hz, h4⟩ := h
  unfold maxLen at h3
  clear hz
  have bV : Below w.heap.size w (w.alloc (.cells #[.slice a ps.length cap] 25)) := (Below.refl _ _).alloc (Nat.le_refl _) _
  have BW := hide bV
  clear bV
  have HM := hide (under_rows ps q)
  obtain ⟨RES, eRES⟩ : ∃ r, underB ps q = r := ⟨_, rfl⟩
  rw [eRES]
  replace HM := hide (eRES.symm.trans HM.out)
  clear eRES
  obtain ⟨n, en⟩ : ∃ n, ps.length = n := ⟨_, rfl⟩
  have EN := hide en
  rw [en] at h2 BW HM ⊢
  have H4 := hide h4
  clear en h4
  go_enter Try.func30, Try.ntmps30
  by_cases h0 : n = 0
  · subst h0
    have HD : Hid (RES = true) := HM.out.trans rfl
    go_wp2
    refine wp_loop_rounds 1 ?_
    rw [rounds_succ]
    go_wp2
    go_ret
    exact ⟨ret_bool HD.out.symm, BW.out⟩
  · obtain ⟨rfl, hc⟩ := H4.out.resolve_left (fun e => h0 (by rw [← EN.out, e]; rfl))
    have HC := hide hc
    clear hc H4
    go_wp2
    have ZZ : Hid ((w.alloc (.cells #[.slice (some ⟨B, off, none⟩) n cap] 25)).cell? ⟨w.heap.size, 0, none⟩ = some (.slice (some ⟨B, off, none⟩) n cap)) := show _ = _ by rw [World.cell?_alloc_new]; rfl
    have HV : Hid (∀ (i : Nat) x, ps[i]? = some x → (w.alloc (.cells #[.slice (some ⟨B, off, none⟩) n cap] 25)).cell? ⟨B, off + i * 2, none⟩ = some (.int .i64 x.1) ∧ ∃ s b, (w.alloc (.cells #[.slice (some ⟨B, off, none⟩) n cap] 25)).cell? ⟨B, off + i * 2 + 1, none⟩ = some s ∧ Row (w.alloc (.cells #[.slice (some ⟨B, off, none⟩) n cap] 25)) b s x.2) := fun i x hx => by
      obtain ⟨g1, s, b, g2, g3⟩ := HC.out i x hx
      have bb := (Below.refl w.heap.size w).alloc (Nat.le_refl _) (.cells #[.slice (some ⟨B, off, none⟩) n cap] 25)
      exact ⟨cell_below bb g1, s, b, cell_below bb g2, g3.below bb⟩
    generalize w.alloc (.cells #[.slice (some ⟨B, off, none⟩) n cap] 25) = V at BW HV ZZ ⊢
    go_loopw [5] (fun i wr => ∃ k : Nat, k ≤ n ∧ i = .int .i64 k ∧ Hid (∀ j, j < k → rowAt ps q j = true) ∧ Hid (Below V.heap.size V wr)) (fun i _ => n - (intOf i).toNat)
    case atStart => exact ⟨0, by omega, rfl, fun j hj => by omega, Below.refl _ _⟩
    case round =>
      obtain ⟨k, hk, rfl, HE, HB⟩ := hrel
      have z0 := cell_below HB.out ZZ.out
      by_cases hlt : k < n
      case neg =>
        have HD : Hid (RES = true) := HM.out.trans (all_yes fun j hj => HE.out j (by omega))
        go_wp2
        go_ret
        exact ⟨ret_bool HD.out.symm, BW.out.trans (HB.out.mono BW.out.size)⟩
      obtain ⟨x, ex⟩ : ∃ x, ps[k]? = some x := ⟨_, List.getElem?_eq_getElem (by rw [EN.out]; exact hlt)⟩
      obtain ⟨c, at_⟩ := x
      obtain ⟨g1, s, b, g2, g3⟩ := HV.out k _ ex
      have cx := cell_below HB.out g1
      have sx := cell_below HB.out g2
      replace g3 := g3.below HB.out
      have EX := hide ex
      obtain ⟨qa, ca, oa, rfl, l2, l3, _, l4⟩ := g3
      unfold maxLen at l3
      simp only [] at cx sx l2 l4
      have lk : ((k : Nat) : Int) < (n : Nat) := by omega
      have NX : Hid (rowAt ps q k = true → ∀ j, j < k + 1 → rowAt ps q j = true) := fun hr j hj => by
        by_cases ej : j = k
        · subst ej; exact hr
        · exact HE.out j (by omega)
      clear ex g1 g2
      obtain ⟨m, em⟩ : ∃ m, at_.length = m := ⟨_, rfl⟩
      have EM := hide em
      rw [em] at sx l2
      have L4 := hide l4
      clear em l4
      by_cases m0 : m = 0
      · subst m0
        have HX := hide (NX.out (row_yes EX.out (fun j y hy => by rw [List.length_eq_zero_iff.1 EM.out] at hy; simp at hy)))
        have BX := HB
        go_wp2
        refine wp_loop_rounds 1 ?_
        rw [rounds_succ]
        go_wp2
        exact ⟨⟨k + 1, by omega, by go_num, HX, BX⟩, by simp [intOf]; omega⟩
      · obtain ⟨rfl, hc2⟩ := L4.out.resolve_left (fun e => m0 (by rw [← EM.out, e]; rfl))
        have HC2 := hide hc2
        have BX := HB
        clear hc2 L4
        go_wp2
        go_loopw [6] (fun i w2 => ∃ j : Nat, j ≤ m ∧ i = .int .i64 j ∧ Hid (∀ (t : Nat) y, t < j → at_[t]? = some y → y < q) ∧ w2 = wr) (fun i _ => m - (intOf i).toNat)
        case atStart => exact ⟨0, by omega, rfl, fun t y ht => by omega, rfl⟩
        case round =>
          obtain ⟨j, hj, rfl, HT, rfl⟩ := hrel
          by_cases jlt : j < m
          · obtain ⟨y, ey⟩ : ∃ y, at_[j]? = some y := ⟨_, List.getElem?_eq_getElem (by rw [EM.out]; exact jlt)⟩
            have cy := HC2.out j y ey
            have EY := hide ey
            have lj : ((j : Nat) : Int) < (m : Nat) := by omega
            clear ey
            by_cases hb : q ≤ y
            · have HD : Hid (RES = false) := HM.out.trans (all_no (k := k) hlt (row_no EX.out EY.out hb))
              go_wp2
              go_ret
              exact ⟨ret_bool HD.out.symm, BW.out.trans (BX.out.mono BW.out.size)⟩
            · have HX : Hid (∀ (t : Nat) z, t < j + 1 → at_[t]? = some z → z < q) := fun t z ht hz => by
                by_cases et : t = j
                · subst et
                  rw [EY.out] at hz
                  obtain rfl := Option.some.inj hz
                  omega
                · exact HT.out t z (by omega) hz
              go_wp2
              exact ⟨⟨j + 1, by omega, by go_num, HX, trivial⟩, by simp [intOf]; omega⟩
          · have HX := hide (NX.out (row_yes EX.out (fun t y hy => HT.out t y (by have := (List.getElem?_eq_some_iff.1 hy).1; rw [EM.out] at this; omega) hy)))
            go_wp2
            exact ⟨⟨k + 1, by omega, by go_num, HX, BX⟩, by simp [intOf]; omega⟩
end Go.Proofs.Ytckhfpaicnjknaa.Pol
