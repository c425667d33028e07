/-
  The specification's l4Mono.
-/
import Derived.Test.YtckhfpaicnjknaaGreatPolD
namespace Go.Proofs.YtckhfpaicnjknaaGreat.Pol
open Go.ChangeShapes Go.WideShapes Go.ChangeAt Go.RowKit IntS
theorem in_coef (c : Int) : inI c 1 65535 = decide (1 ≤ c ∧ c ≤ 65535) := rfl
theorem in_atom (x : Int) : inI x 0 199 = atomB x := by unfold inI atomB; congr 1; rw [eq_iff_iff]; omega
set_option maxRecDepth 8000 in
set_option maxHeartbeats 4000000 in
theorem l4Mono (c : Int) (xs : List Int) (B : Nat) (v : Value) (w : World) (h : Row w B v xs) :
    Calls Tryz.prog 36 #[.agg #[.int .i64 c, v]] w fun e w' => e = .returned (.bool (monoB (c, xs))) ∧ Below w.heap.size w w' := by
  obtain ⟨a, cap, off, rfl, h2, h3, hz, h4⟩ := h
  unfold maxLen at h3
  clear hz
  have bV : Below w.heap.size w (w.alloc (.cells #[.int .i64 c, .slice a xs.length cap] 55)) := (Below.refl _ _).alloc (Nat.le_refl _) _
  have BW := hide bV
  clear bV
  by_cases e1 : 1 ≤ c ∧ c ≤ 65535
  case neg =>
    have HD := hide (mono_coef (c := c) (xs := xs) e1)
    have HW : Hid (inI c 1 65535 = false) := decide_eq_false e1
    clear h4 e1
    go_enter Tryz.func36, Tryz.ntmps36
    go_wp2_with fail
    refine (l1In c 1 65535 _).mono ?_
    rintro e u ⟨rfl, rfl⟩
    rw [HW.out]
    go_wp2
    go_ret
    exact ⟨ret_bool HD.out.symm, BW.out⟩
  have HW : Hid (inI c 1 65535 = true) := decide_eq_true e1
  have HC1 := hide e1
  clear e1
  by_cases e2 : xs.length ≤ 4
  case neg =>
    have HD := hide (mono_len (c := c) e2)
    have e2' : (4 : Int) < xs.length := by omega
    clear h4 e2
    go_enter Tryz.func36, Tryz.ntmps36
    go_wp2_with fail
    refine (l1In c 1 65535 _).mono ?_
    rintro e u ⟨rfl, rfl⟩
    rw [HW.out]
    go_wp2
    go_ret
    exact ⟨ret_bool HD.out.symm, BW.out⟩
  have HM := hide (mono_atoms HC1.out e2)
  have e2' : ¬ (4 : Int) < xs.length := by omega
  clear e2
  obtain ⟨RES, eRES⟩ : ∃ r, monoB (c, xs) = r := ⟨_, rfl⟩
  rw [eRES]
  replace HM := hide (eRES.symm.trans HM.out)
  clear eRES
  obtain ⟨n, en⟩ : ∃ n, xs.length = n := ⟨_, rfl⟩
  have EN := hide en
  rw [en] at h2 e2' BW HM ⊢
  have H4 := hide h4
  clear en h4
  go_enter Tryz.func36, Tryz.ntmps36
  go_wp2_with fail
  refine (l1In c 1 65535 _).mono ?_
  rintro e u ⟨rfl, rfl⟩
  rw [HW.out]
  by_cases h0 : n = 0
  · subst h0
    have HD : Hid (RES = true) := HM.out.trans rfl
    go_wp2
    refine wp_loop_rounds 1 ?_
    rw [rounds_succ]
    go_wp2
    go_ret
    exact ⟨ret_bool HD.out.symm, BW.out⟩
  · obtain ⟨rfl, hc⟩ := H4.out.resolve_left (fun e => h0 (by rw [← EN.out, e]; rfl))
    have HC := hide hc
    clear hc H4
    go_wp2
    have ZZ : Hid ((w.alloc (.cells #[.int .i64 c, .slice (some ⟨B, off, none⟩) n cap] 55)).cell? ⟨w.heap.size, 1, none⟩ = some (.slice (some ⟨B, off, none⟩) n cap)) := show _ = _ by rw [World.cell?_alloc_new]; rfl
    have HV := hide (fun (k : Nat) (x : Int) (hx : xs[k]? = some x) => cell_below ((Below.refl w.heap.size w).alloc (Nat.le_refl _) (.cells #[.int .i64 c, .slice (some ⟨B, off, none⟩) n cap] 55)) (HC.out k x hx))
    generalize w.alloc (.cells #[.int .i64 c, .slice (some ⟨B, off, none⟩) n cap] 55) = V at BW HV ZZ ⊢
    go_loopw [3] (fun i wr => ∃ k : Nat, k ≤ n ∧ i = .int .i64 k ∧ Hid (∀ j, j < k → (atomAt xs j && upAt xs j) = true) ∧ Hid (Below V.heap.size V wr)) (fun i _ => n - (intOf i).toNat)
    case atStart => exact ⟨0, by omega, rfl, fun j hj => by omega, Below.refl _ _⟩
    case round =>
      obtain ⟨k, hk, rfl, HE, HB⟩ := hrel
      have z1 := cell_below HB.out ZZ.out
      by_cases hlt : k < n
      · obtain ⟨x, ex⟩ : ∃ x, xs[k]? = some x := ⟨_, List.getElem?_eq_getElem (by rw [EN.out]; exact hlt)⟩
        have cx := cell_below HB.out (HV.out k x ex)
        have EX := hide ex
        clear ex
        have HB2 : Hid (Below V.heap.size V wr.drew) := HB.out.drew
        cases hb : atomB x with
        | false =>
          have HD : Hid (RES = false) := HM.out.trans (all_no (k := k) hlt (by rw [atom_at EX.out, hb]; rfl))
          have HI : Hid (inI x 0 199 = false) := (in_atom x).trans hb
          clear hb
          go_wp2_with fail
          refine region_head 24 (by kernel_rfl) (by kernel_rfl) ?_
          simp only [List.take_succ_cons, List.take_zero, List.drop_succ_cons, List.drop_zero]
          refine head_yes (by kernel_rfl) (fun K hK => ?_)
          go_simp
          refine hK _ ?_
          clear hK K
          refine head_yes (by kernel_rfl) (fun K hK => ?_)
          go_simp
          refine hK _ ?_
          clear hK K
          refine head_yes (by kernel_rfl) (fun K hK => ?_)
          go_simp
          refine hK _ ?_
          clear hK K
          refine head_yes (by kernel_rfl) (fun K hK => ?_)
          go_simp
          refine hK _ ?_
          clear hK K
          refine head_yes (by kernel_rfl) (fun K hK => ?_)
          go_simp
          refine hK _ ?_
          clear hK K
          refine head_yes (by kernel_rfl) (fun K hK => ?_)
          go_simp
          refine ⟨_, l1In x 0 199 _, hK _ ?_⟩
          clear hK K
          rw [HI.out]
          refine head_yes (by kernel_rfl) (fun K hK => ?_)
          go_simp
          refine hK _ ?_
          clear hK K
          refine head_yes (by kernel_rfl) (fun K hK => ?_)
          go_simp
          refine hK _ ?_
          clear hK K
          refine head_no (by kernel_rfl) ?_
          simp only [Act.put, List.setIfInBounds_toArray, List.set]
          refine head_no (by kernel_rfl) ?_
          simp only [Act.put, List.setIfInBounds_toArray, List.set]
          refine head_no (by kernel_rfl) ?_
          simp only [Act.put, List.setIfInBounds_toArray, List.set]
          refine head_no (by kernel_rfl) ?_
          simp only [Act.put, List.setIfInBounds_toArray, List.set]
          refine head_no (by kernel_rfl) ?_
          simp only [Act.put, List.setIfInBounds_toArray, List.set]
          refine head_no (by kernel_rfl) ?_
          simp only [Act.put, List.setIfInBounds_toArray, List.set]
          refine head_no (by kernel_rfl) ?_
          simp only [Act.put, List.setIfInBounds_toArray, List.set]
          refine head_no (by kernel_rfl) ?_
          simp only [Act.put, List.setIfInBounds_toArray, List.set]
          refine head_no (by kernel_rfl) ?_
          simp only [Act.put, List.setIfInBounds_toArray, List.set]
          refine head_no (by kernel_rfl) ?_
          simp only [Act.put, List.setIfInBounds_toArray, List.set]
          refine head_no (by kernel_rfl) ?_
          simp only [Act.put, List.setIfInBounds_toArray, List.set]
          refine head_no (by kernel_rfl) ?_
          simp only [Act.put, List.setIfInBounds_toArray, List.set]
          refine head_no (by kernel_rfl) ?_
          simp only [Act.put, List.setIfInBounds_toArray, List.set]
          refine head_no (by kernel_rfl) ?_
          simp only [Act.put, List.setIfInBounds_toArray, List.set]
          refine head_no (by kernel_rfl) ?_
          simp only [Act.put, List.setIfInBounds_toArray, List.set]
          refine head_no (by kernel_rfl) ?_
          simp only [Act.put, List.setIfInBounds_toArray, List.set]
          refine head_nil ?_
          go_wp2
          go_ret
          exact ⟨ret_bool HD.out.symm, BW.out.trans (HB2.out.mono BW.out.size)⟩
        | true =>
          have HI : Hid (inI x 0 199 = true) := (in_atom x).trans hb
          have HA : Hid (atomAt xs k = true) := (atom_at EX.out).trans hb
          clear hb
          by_cases hk0 : k = 0
          · subst hk0
            rw [Nat.add_zero] at cx
            have HX : Hid (∀ j, j < 0 + 1 → (atomAt xs j && upAt xs j) = true) := fun j hj => by
              obtain rfl : j = 0 := by omega
              rw [HA.out, up_zero]
              rfl
            go_wp2_with fail
            refine region_head 24 (by kernel_rfl) (by kernel_rfl) ?_
            simp only [List.take_succ_cons, List.take_zero, List.drop_succ_cons, List.drop_zero]
            refine head_yes (by kernel_rfl) (fun K hK => ?_)
            go_simp
            refine hK _ ?_
            clear hK K
            refine head_yes (by kernel_rfl) (fun K hK => ?_)
            go_simp
            refine hK _ ?_
            clear hK K
            refine head_yes (by kernel_rfl) (fun K hK => ?_)
            go_simp
            refine hK _ ?_
            clear hK K
            refine head_yes (by kernel_rfl) (fun K hK => ?_)
            go_simp
            refine hK _ ?_
            clear hK K
            refine head_yes (by kernel_rfl) (fun K hK => ?_)
            go_simp
            refine hK _ ?_
            clear hK K
            refine head_yes (by kernel_rfl) (fun K hK => ?_)
            go_simp
            refine ⟨_, l1In x 0 199 _, hK _ ?_⟩
            clear hK K
            rw [HI.out]
            refine head_yes (by kernel_rfl) (fun K hK => ?_)
            go_simp
            refine hK _ ?_
            clear hK K
            refine head_yes (by kernel_rfl) (fun K hK => ?_)
            go_simp
            refine hK _ ?_
            clear hK K
            refine head_yes (by kernel_rfl) (fun K hK => ?_)
            go_simp
            refine hK _ ?_
            clear hK K
            refine head_yes (by kernel_rfl) (fun K hK => ?_)
            go_simp
            refine hK _ ?_
            clear hK K
            refine head_yes (by kernel_rfl) (fun K hK => ?_)
            go_simp
            refine hK _ ?_
            clear hK K
            refine head_no (by kernel_rfl) ?_
            simp only [Act.put, List.setIfInBounds_toArray, List.set]
            refine head_no (by kernel_rfl) ?_
            simp only [Act.put, List.setIfInBounds_toArray, List.set]
            refine head_no (by kernel_rfl) ?_
            simp only [Act.put, List.setIfInBounds_toArray, List.set]
            refine head_no (by kernel_rfl) ?_
            simp only [Act.put, List.setIfInBounds_toArray, List.set]
            refine head_no (by kernel_rfl) ?_
            simp only [Act.put, List.setIfInBounds_toArray, List.set]
            refine head_no (by kernel_rfl) ?_
            simp only [Act.put, List.setIfInBounds_toArray, List.set]
            refine head_no (by kernel_rfl) ?_
            simp only [Act.put, List.setIfInBounds_toArray, List.set]
            refine head_no (by kernel_rfl) ?_
            simp only [Act.put, List.setIfInBounds_toArray, List.set]
            refine head_no (by kernel_rfl) ?_
            simp only [Act.put, List.setIfInBounds_toArray, List.set]
            refine head_no (by kernel_rfl) ?_
            simp only [Act.put, List.setIfInBounds_toArray, List.set]
            refine head_no (by kernel_rfl) ?_
            simp only [Act.put, List.setIfInBounds_toArray, List.set]
            refine head_no (by kernel_rfl) ?_
            simp only [Act.put, List.setIfInBounds_toArray, List.set]
            refine head_yes (by kernel_rfl) (fun K hK => ?_)
            go_simp
            refine hK _ ?_
            clear hK K
            refine head_nil ?_
            go_wp2
            exact ⟨⟨1, by omega, by first | rfl | go_num, HX, HB2⟩, by simp [intOf]; omega⟩
          · obtain ⟨p, hp⟩ : ∃ p, k = p + 1 := ⟨k - 1, by omega⟩
            obtain ⟨y, ey⟩ : ∃ y, xs[p]? = some y := ⟨_, List.getElem?_eq_getElem (by rw [EN.out]; omega)⟩
            have cy := cell_below HB.out (HV.out p y ey)
            have EY := hide ey
            have PK := hide hp
            have hk1 : (0 : Int) < (k : Nat) := by omega
            have hk2 : 0 < k := by omega
            have e1 : ((k : Nat) : Int) - 1 = (p : Nat) := by omega
            have lp : ((p : Nat) : Int) < (n : Nat) := by omega
            have lk : ((k : Nat) : Int) < (n : Nat) := by omega
            have wp : IntKind.i64.wrap ((p : Nat) : Int) = (p : Nat) := by rw [IntKind.wrap_i64]; omega
            clear ey hp hk0
            by_cases hf : x < y
            · have HD : Hid (RES = false) := HM.out.trans (all_no (k := k) hlt (by rw [HA.out, show upAt xs k = false by have := PK.out; subst this; exact up_no EY.out EX.out hf]; rfl))
              go_wp2_with fail
              refine region_head 24 (by kernel_rfl) (by kernel_rfl) ?_
              simp only [List.take_succ_cons, List.take_zero, List.drop_succ_cons, List.drop_zero]
              refine head_yes (by kernel_rfl) (fun K hK => ?_)
              go_simp
              refine hK _ ?_
              clear hK K
              refine head_yes (by kernel_rfl) (fun K hK => ?_)
              go_simp
              refine hK _ ?_
              clear hK K
              refine head_yes (by kernel_rfl) (fun K hK => ?_)
              go_simp
              refine hK _ ?_
              clear hK K
              refine head_yes (by kernel_rfl) (fun K hK => ?_)
              go_simp
              refine hK _ ?_
              clear hK K
              refine head_yes (by kernel_rfl) (fun K hK => ?_)
              go_simp
              refine hK _ ?_
              clear hK K
              refine head_yes (by kernel_rfl) (fun K hK => ?_)
              go_simp
              refine ⟨_, l1In x 0 199 _, hK _ ?_⟩
              clear hK K
              rw [HI.out]
              refine head_yes (by kernel_rfl) (fun K hK => ?_)
              go_simp
              refine hK _ ?_
              clear hK K
              refine head_yes (by kernel_rfl) (fun K hK => ?_)
              go_simp
              refine hK _ ?_
              clear hK K
              refine head_yes (by kernel_rfl) (fun K hK => ?_)
              go_simp
              refine hK _ ?_
              clear hK K
              refine head_yes (by kernel_rfl) (fun K hK => ?_)
              go_simp
              refine hK _ ?_
              clear hK K
              refine head_yes (by kernel_rfl) (fun K hK => ?_)
              go_simp
              refine hK _ ?_
              clear hK K
              refine head_yes (by kernel_rfl) (fun K hK => ?_)
              go_simp
              refine hK _ ?_
              clear hK K
              refine head_yes (by kernel_rfl) (fun K hK => ?_)
              go_simp
              refine hK _ ?_
              clear hK K
              refine head_yes (by kernel_rfl) (fun K hK => ?_)
              go_simp
              refine hK _ ?_
              clear hK K
              refine head_yes (by kernel_rfl) (fun K hK => ?_)
              go_simp
              refine hK _ ?_
              clear hK K
              refine head_yes (by kernel_rfl) (fun K hK => ?_)
              go_simp
              refine hK _ ?_
              clear hK K
              refine head_yes (by kernel_rfl) (fun K hK => ?_)
              go_simp
              refine hK _ ?_
              clear hK K
              refine head_yes (by kernel_rfl) (fun K hK => ?_)
              go_simp
              refine hK _ ?_
              clear hK K
              refine head_yes (by kernel_rfl) (fun K hK => ?_)
              go_simp
              refine hK _ ?_
              clear hK K
              refine head_yes (by kernel_rfl) (fun K hK => ?_)
              go_simp
              refine hK _ ?_
              clear hK K
              refine head_yes (by kernel_rfl) (fun K hK => ?_)
              go_simp
              refine hK _ ?_
              clear hK K
              refine head_yes (by kernel_rfl) (fun K hK => ?_)
              go_simp
              refine hK _ ?_
              clear hK K
              refine head_yes (by kernel_rfl) (fun K hK => ?_)
              go_simp
              refine hK _ ?_
              clear hK K
              refine head_yes (by kernel_rfl) (fun K hK => ?_)
              go_simp
              refine hK _ ?_
              clear hK K
              refine head_nil ?_
              go_wp2
              go_ret
              exact ⟨ret_bool HD.out.symm, BW.out.trans (HB2.out.mono BW.out.size)⟩
            · have HX : Hid (∀ j, j < k + 1 → (atomAt xs j && upAt xs j) = true) := fun j hj => by
                by_cases ej : j = k
                · subst ej
                  rw [HA.out, show upAt xs j = true by have := PK.out; subst this; exact up_yes EY.out EX.out hf]
                  rfl
                · exact HE.out j (by omega)
              go_wp2_with fail
              refine region_head 24 (by kernel_rfl) (by kernel_rfl) ?_
              simp only [List.take_succ_cons, List.take_zero, List.drop_succ_cons, List.drop_zero]
              refine head_yes (by kernel_rfl) (fun K hK => ?_)
              go_simp
              refine hK _ ?_
              clear hK K
              refine head_yes (by kernel_rfl) (fun K hK => ?_)
              go_simp
              refine hK _ ?_
              clear hK K
              refine head_yes (by kernel_rfl) (fun K hK => ?_)
              go_simp
              refine hK _ ?_
              clear hK K
              refine head_yes (by kernel_rfl) (fun K hK => ?_)
              go_simp
              refine hK _ ?_
              clear hK K
              refine head_yes (by kernel_rfl) (fun K hK => ?_)
              go_simp
              refine hK _ ?_
              clear hK K
              refine head_yes (by kernel_rfl) (fun K hK => ?_)
              go_simp
              refine ⟨_, l1In x 0 199 _, hK _ ?_⟩
              clear hK K
              rw [HI.out]
              refine head_yes (by kernel_rfl) (fun K hK => ?_)
              go_simp
              refine hK _ ?_
              clear hK K
              refine head_yes (by kernel_rfl) (fun K hK => ?_)
              go_simp
              refine hK _ ?_
              clear hK K
              refine head_yes (by kernel_rfl) (fun K hK => ?_)
              go_simp
              refine hK _ ?_
              clear hK K
              refine head_yes (by kernel_rfl) (fun K hK => ?_)
              go_simp
              refine hK _ ?_
              clear hK K
              refine head_yes (by kernel_rfl) (fun K hK => ?_)
              go_simp
              refine hK _ ?_
              clear hK K
              refine head_yes (by kernel_rfl) (fun K hK => ?_)
              go_simp
              refine hK _ ?_
              clear hK K
              refine head_yes (by kernel_rfl) (fun K hK => ?_)
              go_simp
              refine hK _ ?_
              clear hK K
              refine head_yes (by kernel_rfl) (fun K hK => ?_)
              go_simp
              refine hK _ ?_
              clear hK K
              refine head_yes (by kernel_rfl) (fun K hK => ?_)
              go_simp
              refine hK _ ?_
              clear hK K
              refine head_yes (by kernel_rfl) (fun K hK => ?_)
              go_simp
              refine hK _ ?_
              clear hK K
              refine head_yes (by kernel_rfl) (fun K hK => ?_)
              go_simp
              refine hK _ ?_
              clear hK K
              refine head_yes (by kernel_rfl) (fun K hK => ?_)
              go_simp
              refine hK _ ?_
              clear hK K
              refine head_yes (by kernel_rfl) (fun K hK => ?_)
              go_simp
              refine hK _ ?_
              clear hK K
              refine head_yes (by kernel_rfl) (fun K hK => ?_)
              go_simp
              refine hK _ ?_
              clear hK K
              refine head_yes (by kernel_rfl) (fun K hK => ?_)
              go_simp
              refine hK _ ?_
              clear hK K
              refine head_yes (by kernel_rfl) (fun K hK => ?_)
              go_simp
              refine hK _ ?_
              clear hK K
              refine head_yes (by kernel_rfl) (fun K hK => ?_)
              go_simp
              refine hK _ ?_
              clear hK K
              refine head_yes (by kernel_rfl) (fun K hK => ?_)
              go_simp
              refine hK _ ?_
              clear hK K
              refine head_nil ?_
              go_wp2
              exact ⟨⟨k + 1, by omega, by go_num, HX, HB2⟩, by simp [intOf]; omega⟩
      · have HD : Hid (RES = true) := HM.out.trans (all_yes fun j hj => HE.out j (by omega))
        go_wp2
        go_ret
        exact ⟨ret_bool HD.out.symm, BW.out.trans (HB.out.mono BW.out.size)⟩
end Go.Proofs.YtckhfpaicnjknaaGreat.Pol
