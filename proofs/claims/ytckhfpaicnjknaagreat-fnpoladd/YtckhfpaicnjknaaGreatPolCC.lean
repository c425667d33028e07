/-
  The walk of the specification's l4Merge.
-/
import Derived.Test.YtckhfpaicnjknaaGreatPolBB
import Derived.Test.YtckhfpaicnjknaaGreatPhaseIn
namespace Go.Proofs.YtckhfpaicnjknaaGreat.Pol
set_option linter.unusedVariables false
open Go.ChangeShapes Go.WideShapes Go.ChangeAt Go.RowKit IntS
/-- The list so far. -/
structure MergeP (w : World) (L : List Int) (g cap : Nat) (u : World) : Prop where
  own : IntS.Own u w.heap.size (.slice (some ⟨g, 0, none⟩) L.length cap) L
  lt : g < u.heap.size
  bw : Below w.heap.size w u
theorem MergeP.below {w u u' : World} {L : List Int} {g cap : Nat} (h : MergeP w L g cap u) (hb : Below u.heap.size u u') : MergeP w L g cap u' := by
  have := h.lt
  exact ⟨h.own.turn (Turn.of_below hb) (B := u.heap.size) (by omega) h.lt, Nat.lt_of_lt_of_le h.lt hb.size, h.bw.trans (hb.mono h.bw.size)⟩
theorem MergeP.base {w u : World} {L : List Int} {g cap : Nat} (h : MergeP w L g cap u) : w.heap.size ≤ g := by
  obtain ⟨g', cap', e, k1, _⟩ := h.own.form (fun e => by cases e)
  cases e
  exact k1
theorem MergeP.next {w u u' : World} {L L' : List Int} {g cap g' cap' : Nat} (h : MergeP w L g cap u) (ho : IntS.Own u' w.heap.size (.slice (some ⟨g', 0, none⟩) L'.length cap') L') (hl : g' < u'.heap.size) (ht : Turn g u u') : MergeP w L' g' cap' u' :=
  ⟨ho, hl, h.bw.trans (ht.below h.base h.bw.size)⟩
theorem merge_new (w : World) : MergeP w [] w.heap.size 0 (w.alloc (.cells #[] 3)) :=
  ⟨own_empty (heap_new w 3), by simp, (Below.refl _ _).alloc (Nat.le_refl _) _⟩
theorem row_drop {w : World} {B n cap i : Nat} {ad : Addr} {xs : List Int} (h : Row w B (.slice (some ad) n cap) xs) (hi : i ≤ n) : Row w B (.slice (some (ad.add i)) (n - i) (cap - i)) (xs.drop i) := by
  obtain ⟨a, c, off, e, h2, h3, hz, h4⟩ := h
  cases e
  refine ⟨some (ad.add i), cap - i, off + i, by rw [List.length_drop], by rw [List.length_drop]; omega, by omega, (fun h => by cases h), ?_⟩
  rcases h4 with h4 | ⟨h4, h5⟩
  · subst h4
    exact Or.inl (by simp)
  · cases h4
    refine Or.inr ⟨by rw [Go.WideShapes.add_plain], fun j x hx => ?_⟩
    rw [List.getElem?_drop] at hx
    rw [Nat.add_assoc]
    exact h5 _ _ hx
theorem row_void {w : World} {B : Nat} {ad : Addr} {xs : List Int} {i : Nat} (h : xs.length ≤ i) : Row w B (.slice (some ad) 0 0) (xs.drop i) := by
  rw [List.drop_eq_nil_of_le h]
  exact ⟨some ad, 0, 0, rfl, Nat.le_refl _, Nat.zero_le _, (fun h => by cases h), Or.inl rfl⟩
theorem row_nil {w : World} {B : Nat} {xs : List Int} {i : Nat} (h : xs.length ≤ i) : Row w B (.slice none 0 0) (xs.drop i) := by
  rw [List.drop_eq_nil_of_le h]
  exact ⟨none, 0, 0, rfl, Nat.le_refl _, Nat.zero_le _, (fun _ => rfl), Or.inl rfl⟩
set_option maxRecDepth 8000 in
set_option maxHeartbeats 16000000 in
theorem l4Merge (xs ys : List Int) (B B' : Nat) (v v' : Value) (w : World) (h : Row w B v xs) (h' : Row w B' v' ys) (hl : xs.length ≤ 1000) (hl' : ys.length ≤ 1000) :
    Calls Tryz.prog 46 #[v, v'] w fun e w' => ∃ B2 a l c, e = .returned (.slice a l c) ∧ Row w' B2 (.slice a l c) (mergeL xs ys) ∧ Below w.heap.size w w' := by
  have HX := hide h
  obtain ⟨a, cap, off, rfl, h2, h3, hz, h4⟩ := h
  obtain ⟨a', cap', off', rfl, h2', h3', hz', h4'⟩ := h'
  unfold maxLen at h3 h3'
  obtain ⟨n, en⟩ : ∃ n, xs.length = n := ⟨_, rfl⟩
  obtain ⟨m, em⟩ : ∃ m, ys.length = m := ⟨_, rfl⟩
  have EN := hide en
  have EM := hide em
  have H4 := hide h4
  have H4' := hide h4'
  have P0 := hide (merge_new w)
  rw [en] at h2 hl HX
  rw [em] at h2' hl'
  rw [en, em]
  clear en em h4 h4'
  go_enter Tryz.func46, Tryz.ntmps46
  go_wp2
  generalize w.alloc (.cells #[] 3) = V at P0 ⊢
  go_loopw [5, 6, 7] (fun q i k wr => ∃ (ni nk g gc : Nat) (L : List Int), ni ≤ n ∧ nk ≤ m ∧ q = .slice (some ⟨g, 0, none⟩) L.length gc ∧ i = .int .i64 ni ∧ k = .int .i64 nk ∧ Hid (MergeP w L g gc wr) ∧ Hid (L ++ mergeL (xs.drop ni) (ys.drop nk) = mergeL xs ys) ∧ Hid (L.length ≤ ni + nk)) (fun _ _ k _ => m - (intOf k).toNat)
  case atStart => exact ⟨0, 0, w.heap.size, 0, [], by omega, by omega, rfl, rfl, rfl, P0, rfl, Nat.le_refl _⟩
  case round =>
    obtain ⟨ni, nk, g, gc, L, hi, hk, rfl, rfl, rfl, PP, HL, HN⟩ := hrel
    clear P0
    by_cases hlt : nk < m
    case neg =>
      have HR := hide (show L ++ xs.drop ni = mergeL xs ys by have := HL.out; rw [merge_end (by rw [EM.out]; omega)] at this; exact this)
      have ln : ((ni : Nat) : Int) ≤ (n : Nat) := by omega
      have lc : ((ni : Nat) : Int) ≤ (cap : Nat) := by omega
      have LX : Hid ((xs.drop ni).length ≤ 1000000) := show _ ≤ _ by rw [List.length_drop, EN.out]; omega
      have LL : Hid (L.length ≤ 1000000) := show _ ≤ _ by have := HN.out; omega
      have HXW := hide (HX.out.below PP.out.bw)
      cases a with
      | none =>
        have hc0 := hz rfl
        subst hc0
        obtain rfl : n = 0 := by omega
        obtain rfl : ni = 0 := by omega
        have RW := hide (show Row wr B _ (xs.drop 0) from row_nil (by rw [EN.out]; exact Nat.le_refl _))
        go_wp2_with (at_builtin; refine wpList_join rfl _ _ rfl w.heap.size g gc L rfl PP.out.own PP.out.bw.size _ B (xs.drop 0) rfl RW.out LX.out LL.out ?_; intro g2 c2 u2 hR hT)
        have BZ := PP.out.bw.trans (hT.out.below PP.out.base PP.out.bw.size)
        exact bodyPost_ret (v := .slice (some ⟨g2, 0, none⟩) (L ++ xs.drop 0).length c2) (by simp [results, Tryz.results46, go_sem]) rfl ⟨g2, _, _, _, rfl, by rw [← HR.out]; exact hR.out, BZ⟩
      | some ad =>
        obtain ⟨ab, ao, af⟩ := ad
        by_cases e : ni = cap
        · subst e
          have RW := hide (show Row wr B _ (xs.drop ni) from row_void (ad := ⟨ab, ao, af⟩) (by rw [EN.out]; omega))
          go_wp2_with (at_builtin; refine wpList_join rfl _ _ rfl w.heap.size g gc L rfl PP.out.own PP.out.bw.size _ B (xs.drop ni) rfl RW.out LX.out LL.out ?_; intro g2 c2 u2 hR hT)
          have BZ := PP.out.bw.trans (hT.out.below PP.out.base PP.out.bw.size)
          exact bodyPost_ret (v := .slice (some ⟨g2, 0, none⟩) (L ++ xs.drop ni).length c2) (by simp [results, Tryz.results46, go_sem]) rfl ⟨g2, _, _, _, rfl, by rw [← HR.out]; exact hR.out, BZ⟩
        · have lc2 : ((ni : Nat) : Int) < (cap : Nat) := by omega
          have RW := hide (show Row wr B _ (xs.drop ni) from row_drop (ad := ⟨ab, ao, af⟩) HXW.out hi)
          go_wp2_with (at_builtin; refine wpList_join rfl _ _ rfl w.heap.size g gc L rfl PP.out.own PP.out.bw.size _ B (xs.drop ni) rfl RW.out LX.out LL.out ?_; intro g2 c2 u2 hR hT)
          have BZ := PP.out.bw.trans (hT.out.below PP.out.base PP.out.bw.size)
          exact bodyPost_ret (v := .slice (some ⟨g2, 0, none⟩) (L ++ xs.drop ni).length c2) (by simp [results, Tryz.results46, go_sem]) rfl ⟨g2, _, _, _, rfl, by rw [← HR.out]; exact hR.out, BZ⟩
    obtain ⟨y, ey⟩ : ∃ y, ys[nk]? = some y := ⟨_, List.getElem?_eq_getElem (by rw [EM.out]; exact hlt)⟩
    obtain ⟨rfl, hc'⟩ := H4'.out.resolve_left (fun e => by rw [e] at ey; simp at ey)
    have CY := hide (hc' nk y ey)
    have EY := hide ey
    clear ey hc'
    have lk : ((nk : Nat) : Int) < (m : Nat) := by omega
    go_wp2
    go_loopw [5, 6] (fun q i wr => ∃ (ni g gc : Nat) (L : List Int), ni ≤ n ∧ q = .slice (some ⟨g, 0, none⟩) L.length gc ∧ i = .int .i64 ni ∧ Hid (MergeP w L g gc wr) ∧ Hid (L ++ mergeL (xs.drop ni) (ys.drop nk) = mergeL xs ys) ∧ Hid (L.length ≤ ni + nk)) (fun _ i _ => n - (intOf i).toNat)
    case atStart => exact ⟨ni, g, gc, L, hi, rfl, rfl, PP, HL, HN⟩
    case round =>
      clear PP HL HN hi
      obtain ⟨ni, g, gc, L, hi, rfl, rfl, PP, HL, HN⟩ := hrel
      have DR : Below wr.heap.size wr wr.drew := (Below.refl _ _).drew
      have PD := hide (PP.out.below DR)
      have cy := cell_below PP.out.bw CY.out
      have A3 : Hid (L.length ≤ 1000000000000) := show _ ≤ _ by have := HN.out; omega
      clear DR
      by_cases hin : ni < n
      · have li : ((ni : Nat) : Int) < (n : Nat) := by omega
        obtain ⟨x, ex⟩ : ∃ x, xs[ni]? = some x := ⟨_, List.getElem?_eq_getElem (by rw [EN.out]; exact hin)⟩
        obtain ⟨rfl, hc⟩ := H4.out.resolve_left (fun e => by rw [e] at ex; simp at ex)
        have CX := hide (hc ni x ex)
        have EX := hide ex
        clear ex hc
        have cx := cell_below PP.out.bw CX.out
        by_cases hxy : x ≤ y
        · have HL2 := hide (show (L ++ [x]) ++ mergeL (xs.drop (ni + 1)) (ys.drop nk) = mergeL xs ys by
            have := HL.out
            rw [merge_take EX.out EY.out hxy] at this
            rw [List.append_assoc]
            exact this)
          have NL : Hid ((L ++ [x]).length ≤ ni + 1 + nk) := show _ ≤ _ by rw [List.length_append]; have := HN.out; simp; omega
          go_wp2_with fail
          refine (wpIn_wide (n := 0)).1 ?_
          have hHeld : wr.drew.cell? ⟨B, off + ni, none⟩ = some (.int .i64 x) ∧ wr.drew.cell? ⟨B', off' + nk, none⟩ = some (.int .i64 y) := ⟨cx, cy⟩
          refine PhaseIn.region (S := fun w' => w'.cell? ⟨B, off + ni, none⟩ = some (.int .i64 x) ∧ w'.cell? ⟨B', off' + nk, none⟩ = some (.int .i64 y)) 15 (by kernel_rfl) ?_
          refine PhaseIn.takeD (i := 0) (v := ?_) [0, 3, 4, 5, 6, 7, 8, 9, 10, 11, 12, 13, 14] 15 rfl (by rfl) (by kernel_rfl) (by kernel_rfl) (by kernel_rfl) (by kernel_rfl) (by kernel_rfl) (fun _ _ _ h => h) (Or.inl ⟨by kernel_rfl, ?_⟩) hHeld ?_
          rotate_left
          · intro w' hSw
            (try dsimp only at hSw)
            go_simp
            first | done | with_reducible rfl
          try simp only [Act.put, List.setIfInBounds_toArray, List.set]
          refine PhaseIn.takeD (i := 1) (v := ?_) [1, 2, 3, 4, 5, 6, 7, 8, 9, 10, 11, 12, 13, 14] 16 rfl (by rfl) (by kernel_rfl) (by kernel_rfl) (by kernel_rfl) (by kernel_rfl) (by kernel_rfl) (fun _ _ _ h => h) (Or.inl ⟨by kernel_rfl, ?_⟩) hHeld ?_
          rotate_left
          · intro w' hSw
            (try dsimp only at hSw)
            go_simp
            first | done | with_reducible rfl
          try simp only [Act.put, List.setIfInBounds_toArray, List.set]
          refine PhaseIn.takeD (i := 2) (v := ?_) [2, 3, 4, 5, 6, 7, 8, 9, 10, 11, 12, 13, 14] 17 rfl (by rfl) (by kernel_rfl) (by kernel_rfl) (by kernel_rfl) (by kernel_rfl) (by kernel_rfl) (fun _ _ _ h => h) (Or.inl ⟨by kernel_rfl, ?_⟩) hHeld ?_
          rotate_left
          · intro w' hSw
            (try dsimp only at hSw)
            go_simp
            first | done | with_reducible rfl
          try simp only [Act.put, List.setIfInBounds_toArray, List.set]
          refine PhaseIn.takeD (i := 3) (v := ?_) [3, 4, 5, 6, 7, 8, 9, 10, 11, 12, 13, 14] 18 rfl (by rfl) (by kernel_rfl) (by kernel_rfl) (by kernel_rfl) (by kernel_rfl) (by kernel_rfl) (fun _ _ _ h => h) (Or.inl ⟨by kernel_rfl, ?_⟩) hHeld ?_
          rotate_left
          · intro w' hSw
            (try dsimp only at hSw)
            go_simp
            first | done | with_reducible rfl
          try simp only [Act.put, List.setIfInBounds_toArray, List.set]
          refine PhaseIn.takeD (i := 4) (v := ?_) [4, 5, 6, 7, 8, 9, 10, 11, 12, 13, 14] 19 rfl (by rfl) (by kernel_rfl) (by kernel_rfl) (by kernel_rfl) (by kernel_rfl) (by kernel_rfl) (fun _ _ _ h => h) (Or.inl ⟨by kernel_rfl, ?_⟩) hHeld ?_
          rotate_left
          · intro w' hSw
            (try dsimp only at hSw)
            go_simp
            first | done | with_reducible rfl
          try simp only [Act.put, List.setIfInBounds_toArray, List.set]
          refine PhaseIn.takeD (i := 5) (v := ?_) [5, 7, 8, 13, 14] 20 rfl (by rfl) (by kernel_rfl) (by kernel_rfl) (by kernel_rfl) (by kernel_rfl) (by kernel_rfl) (fun _ _ _ h => h) (Or.inl ⟨by kernel_rfl, ?_⟩) hHeld ?_
          rotate_left
          · intro w' hSw
            (try dsimp only at hSw)
            go_simp
            first | done | with_reducible rfl
          try simp only [Act.put, List.setIfInBounds_toArray, List.set]
          refine PhaseIn.takeD (i := 6) (v := ?_) [6, 7, 8, 13, 14] 21 rfl (by rfl) (by kernel_rfl) (by kernel_rfl) (by kernel_rfl) (by kernel_rfl) (by kernel_rfl) (fun _ _ _ h => h) (Or.inl ⟨by kernel_rfl, ?_⟩) hHeld ?_
          rotate_left
          · intro w' hSw
            (try dsimp only at hSw)
            go_simp
            first | done | with_reducible rfl
          try simp only [Act.put, List.setIfInBounds_toArray, List.set]
          refine PhaseIn.takeD (i := 7) (v := ?_) [7, 8, 13, 14] 22 rfl (by rfl) (by kernel_rfl) (by kernel_rfl) (by kernel_rfl) (by kernel_rfl) (by kernel_rfl) (fun _ _ _ h => h) (Or.inl ⟨by kernel_rfl, ?_⟩) hHeld ?_
          rotate_left
          · intro w' hSw
            (try dsimp only at hSw)
            go_simp
            first | done | with_reducible rfl
          try simp only [Act.put, List.setIfInBounds_toArray, List.set]
          refine PhaseIn.takeD (i := 8) (v := ?_) [8, 13, 14] 23 rfl (by rfl) (by kernel_rfl) (by kernel_rfl) (by kernel_rfl) (by kernel_rfl) (by kernel_rfl) (fun _ _ _ h => h) (Or.inl ⟨by kernel_rfl, ?_⟩) hHeld ?_
          rotate_left
          · intro w' hSw
            (try dsimp only at hSw)
            go_simp
            first | done | with_reducible rfl
          try simp only [Act.put, List.setIfInBounds_toArray, List.set]
          refine PhaseIn.takeD (i := 9) (v := ?_) [9, 11, 12, 13, 14] 24 rfl (by rfl) (by kernel_rfl) (by kernel_rfl) (by kernel_rfl) (by kernel_rfl) (by kernel_rfl) (fun _ _ _ h => h) (Or.inl ⟨by kernel_rfl, ?_⟩) hHeld ?_
          rotate_left
          · intro w' hSw
            (try dsimp only at hSw)
            go_simp
            first | done | with_reducible rfl
          try simp only [Act.put, List.setIfInBounds_toArray, List.set]
          refine PhaseIn.takeD (i := 10) (v := ?_) [10, 11, 12, 13, 14] 25 rfl (by rfl) (by kernel_rfl) (by kernel_rfl) (by kernel_rfl) (by kernel_rfl) (by kernel_rfl) (fun _ _ _ h => h) (Or.inl ⟨by kernel_rfl, ?_⟩) hHeld ?_
          rotate_left
          · intro w' hSw
            (try dsimp only at hSw)
            go_simp
            first | done | with_reducible rfl
          try simp only [Act.put, List.setIfInBounds_toArray, List.set]
          refine PhaseIn.takeD (i := 11) (v := ?_) [11, 12, 13, 14] 26 rfl (by rfl) (by kernel_rfl) (by kernel_rfl) (by kernel_rfl) (by kernel_rfl) (by kernel_rfl) (fun _ _ _ h => h) (Or.inl ⟨by kernel_rfl, ?_⟩) hHeld ?_
          rotate_left
          · intro w' hSw
            (try dsimp only at hSw)
            go_simp
            first | done | with_reducible rfl
          try simp only [Act.put, List.setIfInBounds_toArray, List.set]
          refine PhaseIn.takeD (i := 12) (v := ?_) [12, 13, 14] 27 rfl (by rfl) (by kernel_rfl) (by kernel_rfl) (by kernel_rfl) (by kernel_rfl) (by kernel_rfl) (fun _ _ _ h => h) (Or.inl ⟨by kernel_rfl, ?_⟩) hHeld ?_
          rotate_left
          · intro w' hSw
            (try dsimp only at hSw)
            go_simp
            first | done | with_reducible rfl
          try simp only [Act.put, List.setIfInBounds_toArray, List.set]
          refine PhaseIn.takeD (i := 13) (v := ?_) [13, 14] 28 rfl (by rfl) (by kernel_rfl) (by kernel_rfl) (by kernel_rfl) (by kernel_rfl) (by kernel_rfl) (fun _ _ _ h => h) (Or.inl ⟨by kernel_rfl, ?_⟩) hHeld ?_
          rotate_left
          · intro w' hSw
            (try dsimp only at hSw)
            go_simp
            first | done | with_reducible rfl
          try simp only [Act.put, List.setIfInBounds_toArray, List.set]
          refine PhaseIn.takeD (i := 14) (v := ?_) [14] 29 rfl (by rfl) (by kernel_rfl) (by kernel_rfl) (by kernel_rfl) (by kernel_rfl) (by kernel_rfl) (fun _ _ _ h => h) (Or.inl ⟨by kernel_rfl, ?_⟩) hHeld ?_
          rotate_left
          · intro w' hSw
            (try dsimp only at hSw)
            go_simp
            first | done | with_reducible rfl
          try simp only [Act.put, List.setIfInBounds_toArray, List.set]
          refine PhaseIn.done (by kernel_rfl) ?_ _
          clear hHeld
          clear cx cy
          have cx := cell_below PD.out.bw CX.out
          generalize wr.drew = U at PD cx ⊢
          have bX : Below U.heap.size U (U.alloc (.cells #[.int .i64 x] 3)) := (Below.refl _ _).alloc (Nat.le_refl _) _
          have SA := hide (PD.out.below bX)
          have A1 : Hid ((U.alloc (.cells #[.int .i64 x] 3)).cell? ((⟨U.heap.size, 0, none⟩ : Addr).add 0) = some (.int .i64 x)) := show _ = _ by
            rw [Go.WideShapes.add_plain, World.cell?_alloc_new]
            rfl
          clear bX
          go_wp2_with (at_builtin; refine wpList_push rfl _ _ rfl w.heap.size g gc L rfl SA.out.own SA.out.bw.size ⟨U.heap.size, 0, none⟩ x rfl A1.out A3.out ?_; intro g2 c2 u2 h1 h2 h3 h4; have NX := hide (SA.out.next h1 h3 h4); clear h1 h2 h3 h4)
          exact ⟨⟨ni + 1, g2, c2, L ++ [x], by omega, by rw [List.length_append]; rfl, by go_num, NX, HL2, NL⟩, by simp [intOf]; omega⟩
        · have hyx : y < x := by omega
          have HL2 := hide (show (L ++ [y]) ++ mergeL (xs.drop ni) (ys.drop (nk + 1)) = mergeL xs ys by
            have := HL.out
            rw [merge_put EX.out EY.out hxy] at this
            rw [List.append_assoc]
            exact this)
          have NL : Hid ((L ++ [y]).length ≤ ni + (nk + 1)) := show _ ≤ _ by rw [List.length_append]; have := HN.out; simp; omega
          go_wp2_with fail
          refine (wpIn_wide (n := 0)).1 ?_
          have hHeld : wr.drew.cell? ⟨B, off + ni, none⟩ = some (.int .i64 x) ∧ wr.drew.cell? ⟨B', off' + nk, none⟩ = some (.int .i64 y) := ⟨cx, cy⟩
          refine PhaseIn.region (S := fun w' => w'.cell? ⟨B, off + ni, none⟩ = some (.int .i64 x) ∧ w'.cell? ⟨B', off' + nk, none⟩ = some (.int .i64 y)) 15 (by kernel_rfl) ?_
          refine PhaseIn.takeD (i := 0) (v := ?_) [0, 3, 4, 5, 6, 7, 8, 9, 10, 11, 12, 13, 14] 15 rfl (by rfl) (by kernel_rfl) (by kernel_rfl) (by kernel_rfl) (by kernel_rfl) (by kernel_rfl) (fun _ _ _ h => h) (Or.inl ⟨by kernel_rfl, ?_⟩) hHeld ?_
          rotate_left
          · intro w' hSw
            (try dsimp only at hSw)
            go_simp
            first | done | with_reducible rfl
          try simp only [Act.put, List.setIfInBounds_toArray, List.set]
          refine PhaseIn.takeD (i := 1) (v := ?_) [1, 2, 3, 4, 5, 6, 7, 8, 9, 10, 11, 12, 13, 14] 16 rfl (by rfl) (by kernel_rfl) (by kernel_rfl) (by kernel_rfl) (by kernel_rfl) (by kernel_rfl) (fun _ _ _ h => h) (Or.inl ⟨by kernel_rfl, ?_⟩) hHeld ?_
          rotate_left
          · intro w' hSw
            (try dsimp only at hSw)
            go_simp
            first | done | with_reducible rfl
          try simp only [Act.put, List.setIfInBounds_toArray, List.set]
          refine PhaseIn.takeD (i := 2) (v := ?_) [2, 3, 4, 5, 6, 7, 8, 9, 10, 11, 12, 13, 14] 17 rfl (by rfl) (by kernel_rfl) (by kernel_rfl) (by kernel_rfl) (by kernel_rfl) (by kernel_rfl) (fun _ _ _ h => h) (Or.inl ⟨by kernel_rfl, ?_⟩) hHeld ?_
          rotate_left
          · intro w' hSw
            (try dsimp only at hSw)
            go_simp
            first | done | with_reducible rfl
          try simp only [Act.put, List.setIfInBounds_toArray, List.set]
          refine PhaseIn.takeD (i := 3) (v := ?_) [3, 4, 5, 6, 7, 8, 9, 10, 11, 12, 13, 14] 18 rfl (by rfl) (by kernel_rfl) (by kernel_rfl) (by kernel_rfl) (by kernel_rfl) (by kernel_rfl) (fun _ _ _ h => h) (Or.inl ⟨by kernel_rfl, ?_⟩) hHeld ?_
          rotate_left
          · intro w' hSw
            (try dsimp only at hSw)
            go_simp
            first | done | with_reducible rfl
          try simp only [Act.put, List.setIfInBounds_toArray, List.set]
          refine PhaseIn.takeD (i := 4) (v := ?_) [4, 5, 6, 7, 8, 9, 10, 11, 12, 13, 14] 19 rfl (by rfl) (by kernel_rfl) (by kernel_rfl) (by kernel_rfl) (by kernel_rfl) (by kernel_rfl) (fun _ _ _ h => h) (Or.inl ⟨by kernel_rfl, ?_⟩) hHeld ?_
          rotate_left
          · intro w' hSw
            (try dsimp only at hSw)
            go_simp
            first | done | with_reducible rfl
          try simp only [Act.put, List.setIfInBounds_toArray, List.set]
          refine PhaseIn.takeD (i := 5) (v := ?_) [5, 7, 8, 13, 14] 20 rfl (by rfl) (by kernel_rfl) (by kernel_rfl) (by kernel_rfl) (by kernel_rfl) (by kernel_rfl) (fun _ _ _ h => h) (Or.inl ⟨by kernel_rfl, ?_⟩) hHeld ?_
          rotate_left
          · intro w' hSw
            (try dsimp only at hSw)
            go_simp
            first | done | with_reducible rfl
          try simp only [Act.put, List.setIfInBounds_toArray, List.set]
          refine PhaseIn.takeD (i := 6) (v := ?_) [6, 7, 8, 13, 14] 21 rfl (by rfl) (by kernel_rfl) (by kernel_rfl) (by kernel_rfl) (by kernel_rfl) (by kernel_rfl) (fun _ _ _ h => h) (Or.inl ⟨by kernel_rfl, ?_⟩) hHeld ?_
          rotate_left
          · intro w' hSw
            (try dsimp only at hSw)
            go_simp
            first | done | with_reducible rfl
          try simp only [Act.put, List.setIfInBounds_toArray, List.set]
          refine PhaseIn.takeD (i := 7) (v := ?_) [7, 8, 13, 14] 22 rfl (by rfl) (by kernel_rfl) (by kernel_rfl) (by kernel_rfl) (by kernel_rfl) (by kernel_rfl) (fun _ _ _ h => h) (Or.inl ⟨by kernel_rfl, ?_⟩) hHeld ?_
          rotate_left
          · intro w' hSw
            (try dsimp only at hSw)
            go_simp
            first | done | with_reducible rfl
          try simp only [Act.put, List.setIfInBounds_toArray, List.set]
          refine PhaseIn.takeD (i := 8) (v := ?_) [8, 13, 14] 23 rfl (by rfl) (by kernel_rfl) (by kernel_rfl) (by kernel_rfl) (by kernel_rfl) (by kernel_rfl) (fun _ _ _ h => h) (Or.inl ⟨by kernel_rfl, ?_⟩) hHeld ?_
          rotate_left
          · intro w' hSw
            (try dsimp only at hSw)
            go_simp
            first | done | with_reducible rfl
          try simp only [Act.put, List.setIfInBounds_toArray, List.set]
          refine PhaseIn.takeD (i := 9) (v := ?_) [9, 11, 12, 13, 14] 24 rfl (by rfl) (by kernel_rfl) (by kernel_rfl) (by kernel_rfl) (by kernel_rfl) (by kernel_rfl) (fun _ _ _ h => h) (Or.inl ⟨by kernel_rfl, ?_⟩) hHeld ?_
          rotate_left
          · intro w' hSw
            (try dsimp only at hSw)
            go_simp
            first | done | with_reducible rfl
          try simp only [Act.put, List.setIfInBounds_toArray, List.set]
          refine PhaseIn.takeD (i := 10) (v := ?_) [10, 11, 12, 13, 14] 25 rfl (by rfl) (by kernel_rfl) (by kernel_rfl) (by kernel_rfl) (by kernel_rfl) (by kernel_rfl) (fun _ _ _ h => h) (Or.inl ⟨by kernel_rfl, ?_⟩) hHeld ?_
          rotate_left
          · intro w' hSw
            (try dsimp only at hSw)
            go_simp
            first | done | with_reducible rfl
          try simp only [Act.put, List.setIfInBounds_toArray, List.set]
          refine PhaseIn.takeD (i := 11) (v := ?_) [11, 12, 13, 14] 26 rfl (by rfl) (by kernel_rfl) (by kernel_rfl) (by kernel_rfl) (by kernel_rfl) (by kernel_rfl) (fun _ _ _ h => h) (Or.inl ⟨by kernel_rfl, ?_⟩) hHeld ?_
          rotate_left
          · intro w' hSw
            (try dsimp only at hSw)
            go_simp
            first | done | with_reducible rfl
          try simp only [Act.put, List.setIfInBounds_toArray, List.set]
          refine PhaseIn.takeD (i := 12) (v := ?_) [12, 13, 14] 27 rfl (by rfl) (by kernel_rfl) (by kernel_rfl) (by kernel_rfl) (by kernel_rfl) (by kernel_rfl) (fun _ _ _ h => h) (Or.inl ⟨by kernel_rfl, ?_⟩) hHeld ?_
          rotate_left
          · intro w' hSw
            (try dsimp only at hSw)
            go_simp
            first | done | with_reducible rfl
          try simp only [Act.put, List.setIfInBounds_toArray, List.set]
          refine PhaseIn.takeD (i := 13) (v := ?_) [13, 14] 28 rfl (by rfl) (by kernel_rfl) (by kernel_rfl) (by kernel_rfl) (by kernel_rfl) (by kernel_rfl) (fun _ _ _ h => h) (Or.inl ⟨by kernel_rfl, ?_⟩) hHeld ?_
          rotate_left
          · intro w' hSw
            (try dsimp only at hSw)
            go_simp
            first | done | with_reducible rfl
          try simp only [Act.put, List.setIfInBounds_toArray, List.set]
          refine PhaseIn.takeD (i := 14) (v := ?_) [14] 29 rfl (by rfl) (by kernel_rfl) (by kernel_rfl) (by kernel_rfl) (by kernel_rfl) (by kernel_rfl) (fun _ _ _ h => h) (Or.inl ⟨by kernel_rfl, ?_⟩) hHeld ?_
          rotate_left
          · intro w' hSw
            (try dsimp only at hSw)
            go_simp
            first | done | with_reducible rfl
          try simp only [Act.put, List.setIfInBounds_toArray, List.set]
          refine PhaseIn.done (by kernel_rfl) ?_ _
          clear hHeld
          clear cy
          have cy := cell_below PD.out.bw CY.out
          generalize wr.drew = U at PD cy ⊢
          have bX : Below U.heap.size U (U.alloc (.cells #[.int .i64 y] 3)) := (Below.refl _ _).alloc (Nat.le_refl _) _
          have SA := hide (PD.out.below bX)
          have A1 : Hid ((U.alloc (.cells #[.int .i64 y] 3)).cell? ((⟨U.heap.size, 0, none⟩ : Addr).add 0) = some (.int .i64 y)) := show _ = _ by
            rw [Go.WideShapes.add_plain, World.cell?_alloc_new]
            rfl
          clear bX
          go_wp2_with (at_builtin; refine wpList_push rfl _ _ rfl w.heap.size g gc L rfl SA.out.own SA.out.bw.size ⟨U.heap.size, 0, none⟩ y rfl A1.out A3.out ?_; intro g2 c2 u2 h1 h2 h3 h4; have NX := hide (SA.out.next h1 h3 h4); clear h1 h2 h3 h4)
          exact ⟨⟨ni, nk + 1, g2, c2, L ++ [y], hi, by omega, by rw [List.length_append]; rfl, rfl, by go_num, NX, HL2, NL⟩, by simp [intOf]; omega⟩
      · have li : ¬ ((ni : Nat) : Int) < (n : Nat) := by omega
        have HL2 := hide (show (L ++ [y]) ++ mergeL (xs.drop ni) (ys.drop (nk + 1)) = mergeL xs ys by
          have := HL.out
          rw [merge_rest (by rw [EN.out]; omega) EY.out] at this
          rw [List.append_assoc]
          exact this)
        have NL : Hid ((L ++ [y]).length ≤ ni + (nk + 1)) := show _ ≤ _ by rw [List.length_append]; have := HN.out; simp; omega
        go_wp2_with fail
        refine (wpIn_wide (n := 0)).1 ?_
        have hHeld : True := trivial
        refine PhaseIn.region (S := fun _ => True) 15 (by kernel_rfl) ?_
        refine PhaseIn.takeD (i := 0) (v := ?_) [0, 3, 4, 5, 6, 7, 8, 9, 10, 11, 12, 13, 14] 15 rfl (by rfl) (by kernel_rfl) (by kernel_rfl) (by kernel_rfl) (by kernel_rfl) (by kernel_rfl) (fun _ _ _ h => h) (Or.inl ⟨by kernel_rfl, ?_⟩) hHeld ?_
        rotate_left
        · intro w' hSw
          (try dsimp only at hSw)
          go_simp
          first | done | with_reducible rfl
        try simp only [Act.put, List.setIfInBounds_toArray, List.set]
        refine PhaseIn.takeD (i := 1) (v := ?_) [1, 2, 3, 4, 5, 6, 7, 8, 9, 10, 11, 12, 13, 14] 16 rfl (by rfl) (by kernel_rfl) (by kernel_rfl) (by kernel_rfl) (by kernel_rfl) (by kernel_rfl) (fun _ _ _ h => h) (Or.inl ⟨by kernel_rfl, ?_⟩) hHeld ?_
        rotate_left
        · intro w' hSw
          (try dsimp only at hSw)
          go_simp
          first | done | with_reducible rfl
        try simp only [Act.put, List.setIfInBounds_toArray, List.set]
        refine PhaseIn.takeD (i := 2) (v := ?_) [2, 3, 4, 5, 6, 7, 8, 9, 10, 11, 12, 13, 14] 17 rfl (by rfl) (by kernel_rfl) (by kernel_rfl) (by kernel_rfl) (by kernel_rfl) (by kernel_rfl) (fun _ _ _ h => h) (Or.inl ⟨by kernel_rfl, ?_⟩) hHeld ?_
        rotate_left
        · intro w' hSw
          (try dsimp only at hSw)
          go_simp
          first | done | with_reducible rfl
        try simp only [Act.put, List.setIfInBounds_toArray, List.set]
        refine PhaseIn.takeD (i := 3) (v := ?_) [3, 4, 5, 6, 7, 8, 9, 10, 11, 12, 13, 14] 18 rfl (by rfl) (by kernel_rfl) (by kernel_rfl) (by kernel_rfl) (by kernel_rfl) (by kernel_rfl) (fun _ _ _ h => h) (Or.inl ⟨by kernel_rfl, ?_⟩) hHeld ?_
        rotate_left
        · intro w' hSw
          (try dsimp only at hSw)
          go_simp
          first | done | with_reducible rfl
        try simp only [Act.put, List.setIfInBounds_toArray, List.set]
        refine PhaseIn.takeD (i := 4) (v := .bool false) [4, 5, 6, 7, 8, 9, 10, 11, 12, 13, 14] 19 rfl (by rfl) (by kernel_rfl) (by kernel_rfl) (by kernel_rfl) (by kernel_rfl) (by kernel_rfl) (fun _ _ _ h => h) (Or.inl ⟨by kernel_rfl, ?_⟩) hHeld ?_
        · intro w' hSw
          (try dsimp only at hSw)
          go_simp
          first | done | with_reducible rfl
        try simp only [Act.put, List.setIfInBounds_toArray, List.set]
        refine PhaseIn.takeD (i := 5) (v := undef) [5, 7, 8, 13, 14] 20 rfl (by rfl) (by kernel_rfl) (by kernel_rfl) (by kernel_rfl) (by kernel_rfl) (by kernel_rfl) (fun _ _ _ h => h) (Or.inr ⟨by kernel_rfl, rfl⟩) hHeld ?_
        try simp only [Act.put, List.setIfInBounds_toArray, List.set]
        refine PhaseIn.takeD (i := 6) (v := undef) [6, 7, 8, 13, 14] 21 rfl (by rfl) (by kernel_rfl) (by kernel_rfl) (by kernel_rfl) (by kernel_rfl) (by kernel_rfl) (fun _ _ _ h => h) (Or.inr ⟨by kernel_rfl, rfl⟩) hHeld ?_
        try simp only [Act.put, List.setIfInBounds_toArray, List.set]
        refine PhaseIn.takeD (i := 7) (v := undef) [7, 8, 13, 14] 22 rfl (by rfl) (by kernel_rfl) (by kernel_rfl) (by kernel_rfl) (by kernel_rfl) (by kernel_rfl) (fun _ _ _ h => h) (Or.inr ⟨by kernel_rfl, rfl⟩) hHeld ?_
        try simp only [Act.put, List.setIfInBounds_toArray, List.set]
        refine PhaseIn.takeD (i := 8) (v := undef) [8, 13, 14] 23 rfl (by rfl) (by kernel_rfl) (by kernel_rfl) (by kernel_rfl) (by kernel_rfl) (by kernel_rfl) (fun _ _ _ h => h) (Or.inr ⟨by kernel_rfl, rfl⟩) hHeld ?_
        try simp only [Act.put, List.setIfInBounds_toArray, List.set]
        refine PhaseIn.takeD (i := 9) (v := undef) [9, 11, 12, 13, 14] 24 rfl (by rfl) (by kernel_rfl) (by kernel_rfl) (by kernel_rfl) (by kernel_rfl) (by kernel_rfl) (fun _ _ _ h => h) (Or.inr ⟨by kernel_rfl, rfl⟩) hHeld ?_
        try simp only [Act.put, List.setIfInBounds_toArray, List.set]
        refine PhaseIn.takeD (i := 10) (v := undef) [10, 11, 12, 13, 14] 25 rfl (by rfl) (by kernel_rfl) (by kernel_rfl) (by kernel_rfl) (by kernel_rfl) (by kernel_rfl) (fun _ _ _ h => h) (Or.inr ⟨by kernel_rfl, rfl⟩) hHeld ?_
        try simp only [Act.put, List.setIfInBounds_toArray, List.set]
        refine PhaseIn.takeD (i := 11) (v := undef) [11, 12, 13, 14] 26 rfl (by rfl) (by kernel_rfl) (by kernel_rfl) (by kernel_rfl) (by kernel_rfl) (by kernel_rfl) (fun _ _ _ h => h) (Or.inr ⟨by kernel_rfl, rfl⟩) hHeld ?_
        try simp only [Act.put, List.setIfInBounds_toArray, List.set]
        refine PhaseIn.takeD (i := 12) (v := undef) [12, 13, 14] 27 rfl (by rfl) (by kernel_rfl) (by kernel_rfl) (by kernel_rfl) (by kernel_rfl) (by kernel_rfl) (fun _ _ _ h => h) (Or.inr ⟨by kernel_rfl, rfl⟩) hHeld ?_
        try simp only [Act.put, List.setIfInBounds_toArray, List.set]
        refine PhaseIn.takeD (i := 13) (v := undef) [13, 14] 28 rfl (by rfl) (by kernel_rfl) (by kernel_rfl) (by kernel_rfl) (by kernel_rfl) (by kernel_rfl) (fun _ _ _ h => h) (Or.inr ⟨by kernel_rfl, rfl⟩) hHeld ?_
        try simp only [Act.put, List.setIfInBounds_toArray, List.set]
        refine PhaseIn.takeD (i := 14) (v := ?_) [14] 29 rfl (by rfl) (by kernel_rfl) (by kernel_rfl) (by kernel_rfl) (by kernel_rfl) (by kernel_rfl) (fun _ _ _ h => h) (Or.inl ⟨by kernel_rfl, ?_⟩) hHeld ?_
        rotate_left
        · intro w' hSw
          (try dsimp only at hSw)
          go_simp
          first | done | with_reducible rfl
        try simp only [Act.put, List.setIfInBounds_toArray, List.set]
        refine PhaseIn.done (by kernel_rfl) ?_ _
        clear hHeld
        clear cy
        have cy := cell_below PD.out.bw CY.out
        generalize wr.drew = U at PD cy ⊢
        have bX : Below U.heap.size U (U.alloc (.cells #[.int .i64 y] 3)) := (Below.refl _ _).alloc (Nat.le_refl _) _
        have SA := hide (PD.out.below bX)
        have A1 : Hid ((U.alloc (.cells #[.int .i64 y] 3)).cell? ((⟨U.heap.size, 0, none⟩ : Addr).add 0) = some (.int .i64 y)) := show _ = _ by
          rw [Go.WideShapes.add_plain, World.cell?_alloc_new]
          rfl
        clear bX
        go_wp2_with (at_builtin; refine wpList_push rfl _ _ rfl w.heap.size g gc L rfl SA.out.own SA.out.bw.size ⟨U.heap.size, 0, none⟩ y rfl A1.out A3.out ?_; intro g2 c2 u2 h1 h2 h3 h4; have NX := hide (SA.out.next h1 h3 h4); clear h1 h2 h3 h4)
        exact ⟨⟨ni, nk + 1, g2, c2, L ++ [y], hi, by omega, by rw [List.length_append]; rfl, rfl, by go_num, NX, HL2, NL⟩, by simp [intOf]; omega⟩
end Go.Proofs.YtckhfpaicnjknaaGreat.Pol
