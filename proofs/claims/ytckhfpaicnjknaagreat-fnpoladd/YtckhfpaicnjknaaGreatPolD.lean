/-
  Parts that are ok: contracts of slices.IsSorted at ints, of the program's isAtom and partOk, and of the specification's l4Mono.
-/
import Derived.Test.YtckhfpaicnjknaaGreatPolC
namespace Go.Proofs.YtckhfpaicnjknaaGreat.Pol
open Go.ChangeShapes Go.WideShapes Go.ChangeAt Go.RowKit IntS
theorem up_no {xs : List Int} {k : Nat} {x y : Int} (hx : xs[k]? = some x) (hy : xs[k + 1]? = some y) (h : y < x) : upAt xs (k + 1) = false := by
  unfold upAt
  rw [Nat.add_sub_cancel, getD_at hx, getD_at hy]
  exact decide_eq_false (by omega)
theorem up_yes {xs : List Int} {k : Nat} {x y : Int} (hx : xs[k]? = some x) (hy : xs[k + 1]? = some y) (h : ¬ y < x) : upAt xs (k + 1) = true := by
  unfold upAt
  rw [Nat.add_sub_cancel, getD_at hx, getD_at hy]
  exact decide_eq_true (by omega)
theorem up_zero (xs : List Int) : upAt xs 0 = true := decide_eq_true (Or.inl rfl)
theorem all_and {f g : Nat → Bool} (n : Nat) : (List.range n).all (fun j => f j && g j) = ((List.range n).all f && (List.range n).all g) := by
  rw [Bool.eq_iff_iff]
  simp only [Bool.and_eq_true, List.all_eq_true, List.mem_range]
  exact ⟨fun h => ⟨fun j hj => (h j hj).1, fun j hj => (h j hj).2⟩, fun h j hj => ⟨h.1 j hj, h.2 j hj⟩⟩
set_option maxRecDepth 8000 in
set_option maxHeartbeats 2000000 in
theorem isSorted (xs : List Int) (B : Nat) (v : Value) (w : World) (h : Row w B v xs) :
    Calls Tryz.prog 62 #[v] w fun e w' => e = .returned (.bool ((List.range xs.length).all (upAt xs))) ∧ Below w.heap.size w w' := by
  have HL := hide (rfl : xs.length = xs.length)
  obtain ⟨RES, eRES⟩ : ∃ r, (List.range xs.length).all (upAt xs) = r := ⟨_, rfl⟩
  rw [eRES]
  have ER := hide eRES
  clear eRES HL
  obtain ⟨a, cap, off, rfl, h2, h3, hz, h4⟩ := h
  unfold maxLen at h3
  clear hz
  obtain ⟨n, en⟩ : ∃ n, xs.length = n := ⟨_, rfl⟩
  rw [en] at h2 ⊢
  have EN := hide en
  have H4 := hide h4
  clear en h4
  rw [EN.out] at ER
  by_cases h0 : n = 0
  · subst h0
    have HD : Hid (RES = true) := ER.out.symm.trans rfl
    clear H4 EN
    go_enter Tryz.func62, Tryz.ntmps62
    go_wp2
    refine wp_loop_rounds 1 ?_
    rw [rounds_succ]
    go_wp2
    go_ret
    exact ⟨ret_bool HD.out.symm, Below.refl _ _⟩
  · obtain ⟨rfl, hc⟩ := H4.out.resolve_left (fun e => h0 (by rw [← EN.out, e]; rfl))
    have HC := hide hc
    clear hc H4
    go_enter Tryz.func62, Tryz.ntmps62
    go_wp2
    go_loopw [3] (fun i wr => ∃ k : Nat, k < n ∧ i = .int .i64 k ∧ Hid (∀ j, k < j → j < n → upAt xs j = true) ∧ Hid (Below w.heap.size w wr)) (fun i _ => (intOf i).toNat)
    case atStart => exact ⟨n - 1, by omega, by rw [show ((n - 1 : Nat) : Int) = (n : Int) - 1 by omega], fun j hj hj2 => by omega, Below.refl _ _⟩
    case round =>
      obtain ⟨p, hp, rfl, HE, HB⟩ := hrel
      by_cases hlt : 0 < p
      · obtain ⟨k, hk⟩ : ∃ k, p = k + 1 := ⟨p - 1, by omega⟩
        obtain ⟨x, ex⟩ : ∃ x, xs[k]? = some x := ⟨_, List.getElem?_eq_getElem (by rw [EN.out]; omega)⟩
        obtain ⟨y, ey⟩ : ∃ y, xs[p]? = some y := ⟨_, List.getElem?_eq_getElem (by rw [EN.out]; omega)⟩
        have cx := cell_below HB.out (HC.out k x ex)
        have cy := cell_below HB.out (HC.out p y ey)
        have EX := hide ex
        have EY := hide (hk ▸ ey : xs[k + 1]? = some y)
        have PK := hide hk
        have e1 : ((p : Nat) : Int) - 1 = (k : Nat) := by omega
        have lk : ((k : Nat) : Int) < (n : Nat) := by omega
        have wk : IntKind.i64.wrap ((k : Nat) : Int) = (k : Nat) := by rw [IntKind.wrap_i64]; omega
        have lp : ((p : Nat) : Int) < (n : Nat) := by omega
        have HB2 : Hid (Below w.heap.size w wr.drew) := HB.out.drew
        clear ex ey hk
        go_wp2_with fail
        refine region_tail 9 (by kernel_rfl) (by kernel_rfl) ?_
        simp only [List.take_succ_cons, List.take_zero, List.drop_succ_cons, List.drop_zero]
        repeat still_step
        refine wpStill_nil ?_
        go_wp2_with fail
        refine (less y x _).mono ?_
        rintro e u ⟨rfl, rfl⟩
        by_cases hb : y < x
        · have HD : Hid (RES = false) := ER.out.symm.trans (all_no (k := k + 1) (by have := PK.out; omega) (up_no EX.out EY.out hb))
          rw [decide_eq_true hb]
          clear hb
          go_wp2
          go_ret
          exact ⟨ret_bool HD.out.symm, HB2.out⟩
        · have HX : Hid (∀ j, k < j → j < n → upAt xs j = true) := fun j hj hj2 => by
            by_cases ej : j = k + 1
            · subst ej; exact up_yes EX.out EY.out hb
            · exact HE.out j (by have := PK.out; omega) hj2
          rw [decide_eq_false hb]
          clear hb
          go_wp2
          exact ⟨⟨k, by have := PK.out; omega, by first | rfl | go_num, HX, HB2⟩, by simp [intOf]; have := PK.out; omega⟩
      · have HD : Hid (RES = true) := ER.out.symm.trans (all_yes fun j hj => by
          by_cases ej : j = 0
          · subst ej; exact up_zero xs
          · exact HE.out j (by omega) hj)
        have e0 : p = 0 := by omega
        subst e0
        go_wp2
        go_ret
        exact ⟨ret_bool HD.out.symm, HB.out⟩
def atomB (k : Int) : Bool := decide (0 ≤ k ∧ k < 200)
theorem isAtom (k : Int) (w : World) : Calls Tryz.prog 61 #[.int .i64 k] w fun e w' => e = .returned (.bool (atomB k)) ∧ w' = w := by
  by_cases h0 : 0 ≤ k
  · by_cases h1 : k < 200
    · have HD : Hid (atomB k = true) := decide_eq_true ⟨h0, h1⟩
      go_enter Tryz.func61, Tryz.ntmps61
      go_wp2
      go_ret
      exact ⟨ret_bool HD.out.symm, rfl⟩
    · have HD : Hid (atomB k = false) := decide_eq_false (fun h => h1 h.2)
      go_enter Tryz.func61, Tryz.ntmps61
      go_wp2
      go_ret
      exact ⟨ret_bool HD.out.symm, rfl⟩
  · have HD : Hid (atomB k = false) := decide_eq_false (fun h => h0 h.1)
    go_enter Tryz.func61, Tryz.ntmps61
    go_wp2
    go_ret
    exact ⟨ret_bool HD.out.symm, rfl⟩
theorem atom_at {xs : List Int} {k : Nat} {x : Int} (h : xs[k]? = some x) : atomAt xs k = atomB x := by unfold atomAt atomB; rw [getD_at h]
theorem mono_coef {c : Int} {xs : List Int} (h : ¬ (1 ≤ c ∧ c ≤ 65535)) : monoB (c, xs) = false := by unfold monoB; rw [decide_eq_false h]; rfl
theorem mono_len {c : Int} {xs : List Int} (h : ¬ xs.length ≤ 4) : monoB (c, xs) = false := by unfold monoB; rw [decide_eq_false h]; simp
theorem mono_atoms {c : Int} {xs : List Int} (h1 : 1 ≤ c ∧ c ≤ 65535) (h2 : xs.length ≤ 4) : monoB (c, xs) = (List.range xs.length).all (fun j => atomAt xs j && upAt xs j) := by unfold monoB; rw [decide_eq_true h1, decide_eq_true h2]; rfl
set_option maxRecDepth 8000 in
set_option maxHeartbeats 4000000 in
theorem partOk (c : Int) (xs : List Int) (B : Nat) (v : Value) (w : World) (h : Row w B v xs) :
    Calls Tryz.prog 41 #[.agg #[.int .i64 c, v]] w fun e w' => e = .returned (.bool (monoB (c, xs))) ∧ Below w.heap.size w w' := by
  have RX := hide h
  obtain ⟨a, cap, off, rfl, h2, h3, hz, h4⟩ := h
  unfold maxLen at h3
  clear hz
  have bV : Below w.heap.size w (w.alloc (.cells #[.int .i64 c, .slice a xs.length cap] 55)) := (Below.refl _ _).alloc (Nat.le_refl _) _
  have BW := hide bV
  replace RX := hide (RX.out.below bV)
  clear bV
  by_cases e0 : c = 0
  · have HD := hide (mono_coef (c := c) (xs := xs) (by omega))
    subst e0
    clear h4
    go_enter Tryz.func41, Tryz.ntmps41
    go_wp2
    go_ret
    exact ⟨ret_bool HD.out.symm, BW.out⟩
  have e0' : (c == 0) = false := by simp [e0]
  have E0 := hide e0
  clear e0
  by_cases e1 : 0 ≤ c ∧ c < 65536
  case neg =>
    have HD := hide (mono_coef (c := c) (xs := xs) (by omega))
    have HW := hide (Wrd.wok_f e1)
    clear h4 e1
    go_enter Tryz.func41, Tryz.ntmps41
    go_wp2_with fail
    refine (Wrd.implOk c _).mono ?_
    rintro e u ⟨rfl, rfl⟩
    rw [HW.out]
    go_wp2
    go_ret
    exact ⟨ret_bool HD.out.symm, BW.out⟩
  have HW := hide (Wrd.wok_t e1.1 e1.2)
  have HC1 : Hid (1 ≤ c ∧ c ≤ 65535) := show _ ∧ _ by have := E0.out; omega
  clear e1
  by_cases e2 : xs.length ≤ 4
  case neg =>
    have HD := hide (mono_len (c := c) e2)
    have e2' : (4 : Int) < xs.length := by omega
    clear h4 e2
    go_enter Tryz.func41, Tryz.ntmps41
    go_wp2_with fail
    refine (Wrd.implOk c _).mono ?_
    rintro e u ⟨rfl, rfl⟩
    rw [HW.out]
    go_wp2
    go_ret
    exact ⟨ret_bool HD.out.symm, BW.out⟩
  have HM := hide (mono_atoms HC1.out e2)
  have e2' : ¬ (4 : Int) < xs.length := by omega
  clear e2
  obtain ⟨RES, eRES⟩ : ∃ r, monoB (c, xs) = r := ⟨_, rfl⟩
  rw [eRES]
  replace HM := hide (eRES.symm.trans HM.out)
  clear eRES
  obtain ⟨n, en⟩ : ∃ n, xs.length = n := ⟨_, rfl⟩
  have EN := hide en
  rw [en] at h2 e2' BW HM RX ⊢
  have H4 := hide h4
  clear en h4
  go_enter Tryz.func41, Tryz.ntmps41
  go_wp2_with fail
  refine (Wrd.implOk c _).mono ?_
  rintro e u ⟨rfl, rfl⟩
  rw [HW.out]
  by_cases h0 : n = 0
  · subst h0
    have HD : Hid (RES = true) := HM.out.trans rfl
    have HS0 : Hid ((List.range xs.length).all (upAt xs) = true) := show _ = _ by rw [EN.out]; rfl
    go_wp2
    refine wp_loop_rounds 1 ?_
    rw [rounds_succ]
    go_wp2_with fail
    refine (isSorted xs B _ _ RX.out).mono ?_
    rintro e u2 ⟨rfl, hb⟩
    rw [HS0.out]
    replace BW := hide (BW.out.trans (hb.mono BW.out.size))
    clear hb
    go_wp2
    go_ret
    exact ⟨ret_bool HD.out.symm, BW.out⟩
  · obtain ⟨rfl, hc⟩ := H4.out.resolve_left (fun e => h0 (by rw [← EN.out, e]; rfl))
    have HC := hide hc
    clear hc H4
    go_wp2
    have z1 : (w.alloc (.cells #[.int .i64 c, .slice (some ⟨B, off, none⟩) n cap] 55)).cell? ⟨w.heap.size, 1, none⟩ = some (.slice (some ⟨B, off, none⟩) n cap) := by rw [World.cell?_alloc_new]; rfl
    have HV := hide (fun (k : Nat) (x : Int) (hx : xs[k]? = some x) => cell_below ((Below.refl w.heap.size w).alloc (Nat.le_refl _) (.cells #[.int .i64 c, .slice (some ⟨B, off, none⟩) n cap] 55)) (HC.out k x hx))
    generalize w.alloc (.cells #[.int .i64 c, .slice (some ⟨B, off, none⟩) n cap] 55) = V at BW RX HV z1 ⊢
    go_loopw [23] (fun i wr => ∃ k : Nat, k ≤ n ∧ i = .int .i64 k ∧ Hid (∀ j, j < k → atomAt xs j = true) ∧ wr = V) (fun i _ => n - (intOf i).toNat)
    case atStart => exact ⟨0, by omega, rfl, fun j hj => by omega, rfl⟩
    case round =>
      obtain ⟨k, hk, rfl, HE, rfl⟩ := hrel
      by_cases hlt : k < n
      · obtain ⟨x, ex⟩ : ∃ x, xs[k]? = some x := ⟨_, List.getElem?_eq_getElem (by rw [EN.out]; exact hlt)⟩
        have cx := HV.out k x ex
        have EX := hide ex
        clear ex
        go_wp2_with fail
        refine (isAtom x _).mono ?_
        rintro e u ⟨rfl, rfl⟩
        cases hb : atomB x with
        | true =>
          have HX : Hid (∀ j, j < k + 1 → atomAt xs j = true) := fun j hj => by
            by_cases ej : j = k
            · subst ej; rw [atom_at EX.out]; exact hb
            · exact HE.out j (by omega)
          clear hb
          go_wp2
          exact ⟨⟨k + 1, by omega, by go_num, HX, trivial⟩, by simp [intOf]; omega⟩
        | false =>
          have HD : Hid (RES = false) := HM.out.trans (all_no (k := k) hlt (by rw [atom_at EX.out, hb]; rfl))
          clear hb
          go_wp2
          go_ret
          exact ⟨ret_bool HD.out.symm, BW.out⟩
      · have HD : Hid (RES = (List.range xs.length).all (upAt xs)) := HM.out.trans (by
          rw [all_and, all_yes (f := atomAt xs) (fun j hj => HE.out j (by omega)), EN.out]
          rfl)
        go_wp2_with fail
        refine (isSorted xs B _ _ RX.out).mono ?_
        rintro e u2 ⟨rfl, hb⟩
        replace BW := hide (BW.out.trans (hb.mono BW.out.size))
        clear hb
        rw [← HD.out]
        go_wp2
        go_ret
        exact ⟨rfl, BW.out⟩
end Go.Proofs.YtckhfpaicnjknaaGreat.Pol
