/-
  The specification's TabOk.
-/
import Derived.Test.YtagfgbkclopoeaaTabS
namespace Go.Proofs.Ytagfgbkclopoeaa.Tab
set_option linter.unusedVariables false
open Go.ChangeShapes Go.WideShapes Go.ChangeAt Go.RowKit IntS Pol
def rowT (ts : List At) (k : Nat) : Bool := atomB (ts.getD k ⟨0, 0, [], []⟩) k && (List.range k).all fun j => !sameB (ts.getD j ⟨0, 0, [], []⟩) (ts.getD k ⟨0, 0, [], []⟩)
/-- Whether atoms are ok. -/
def tabB (ts : List At) : Bool := decide (ts.length ≤ 200) && (List.range ts.length).all (rowT ts)
theorem getD_atom {ts : List At} {i : Nat} {x : At} (h : ts[i]? = some x) : ts.getD i ⟨0, 0, [], []⟩ = x := by rw [List.getD_eq_getElem?_getD, h]; rfl
theorem tab_long {ts : List At} (h : ¬ ts.length ≤ 200) : tabB ts = false := by unfold tabB; rw [decide_eq_false h]; rfl
theorem tab_rows {ts : List At} (h : ts.length ≤ 200) : tabB ts = (List.range ts.length).all (rowT ts) := by unfold tabB; rw [decide_eq_true h]; rfl
theorem row_atom {ts : List At} {k : Nat} {t : At} (ht : ts[k]? = some t) (h : atomB t k = false) : rowT ts k = false := by unfold rowT; rw [getD_atom ht, h]; rfl
theorem row_same {ts : List At} {k j : Nat} {s t : At} (ht : ts[k]? = some t) (hs : ts[j]? = some s) (hj : j < k) (h : sameB s t = true) : rowT ts k = false := by
  unfold rowT
  rw [all_no (f := fun j => !sameB (ts.getD j ⟨0, 0, [], []⟩) (ts.getD k ⟨0, 0, [], []⟩)) hj (by rw [getD_atom ht, getD_atom hs, h]; rfl), Bool.and_false]
theorem row_good {ts : List At} {k : Nat} {t : At} (ht : ts[k]? = some t) (ha : atomB t k = true) (h : ∀ (j : Nat) s, j < k → ts[j]? = some s → sameB s t = false) : rowT ts k = true := by
  unfold rowT
  rw [getD_atom ht, ha, all_yes (fun j hj => ?_)]
  · rfl
  · obtain ⟨s, hs⟩ : ∃ s, ts[j]? = some s := ⟨_, List.getElem?_eq_getElem (by have := (List.getElem?_eq_some_iff.1 ht).1; omega)⟩
    rw [getD_atom hs, h j s hj hs]
    rfl
set_option maxRecDepth 8000 in
set_option maxHeartbeats 8000000 in
theorem specTab (ts : List At) (B : Nat) (v : Value) (w : World) (h : TRow w B v ts) :
    Calls Try.prog 24 #[.agg #[v]] w fun e w' => e = .returned (.bool (tabB ts)) ∧ Below w.heap.size w w' := by
  obtain ⟨a, cap, off, rfl, h2, h3, hz, h4⟩ := h
  unfold maxLen at h3
  clear hz
  have bV : Below w.heap.size w (w.alloc (.cells #[.slice a ts.length cap] 34)) := (Below.refl _ _).alloc (Nat.le_refl _) _
  have H4 : Hid (ts = [] ∨ (a = some ⟨B, off, none⟩ ∧ ∀ (i : Nat) t, ts[i]? = some t → AtAt (w.alloc (.cells #[.slice a ts.length cap] 34)) B (off + i * 4) t)) := h4.imp id (fun q => ⟨q.1, fun i t ht => (q.2 i t ht).below bV⟩)
  have BW := hide bV
  have ZZ : Hid ((w.alloc (.cells #[.slice a ts.length cap] 34)).cell? ⟨w.heap.size, 0, none⟩ = some (.slice a ts.length cap)) := show _ = _ by rw [World.cell?_alloc_new]; rfl
  clear bV h4
  by_cases hl : ts.length ≤ 200
  case neg =>
    have HD := hide (tab_long hl)
    generalize ts.length = n at *
    have hl' : ¬ ((n : Int) ≤ 200) := by omega
    go_enter Try.func24, Try.ntmps24
    go_wp2
    go_ret
    exact ⟨ret_bool HD.out.symm, BW.out⟩
  have HM := hide (tab_rows hl)
  obtain ⟨RES, eRES⟩ : ∃ r, tabB ts = r := ⟨_, rfl⟩
  rw [eRES]
  replace HM := hide (eRES.symm.trans HM.out)
  clear eRES
  obtain ⟨n, en⟩ : ∃ n, ts.length = n := ⟨_, rfl⟩
  have EN := hide en
  rw [en] at h2 BW HM H4 ZZ hl ⊢
  clear en
  go_enter Try.func24, Try.ntmps24
  by_cases h0 : n = 0
  · subst h0
    have HD : Hid (RES = true) := HM.out.trans rfl
    go_wp2
    refine wp_loop_rounds 1 ?_
    rw [rounds_succ]
    go_wp2
    go_ret
    exact ⟨ret_bool HD.out.symm, BW.out⟩
  · obtain ⟨rfl, hc⟩ := H4.out.resolve_left (fun e => h0 (by rw [← EN.out, e]; rfl))
    have HC := hide hc
    clear hc H4
    go_wp2
    generalize w.alloc (.cells #[.slice (some ⟨B, off, none⟩) n cap] 34) = V at BW HC ZZ ⊢
    go_loopw [3] (fun i wr => ∃ k : Nat, k ≤ n ∧ i = .int .i64 k ∧ Hid (∀ j, j < k → rowT ts j = true) ∧ Hid (Below V.heap.size V wr)) (fun i _ => n - (intOf i).toNat)
    case atStart => exact ⟨0, by omega, rfl, fun j hj => by omega, Below.refl _ _⟩
    case round =>
      obtain ⟨k, hk, rfl, HE, HB⟩ := hrel
      have z0 := cell_below HB.out ZZ.out
      by_cases hlt : k < n
      case neg =>
        have HD : Hid (RES = true) := HM.out.trans (all_yes fun j hj => HE.out j (by omega))
        go_wp2
        go_ret
        exact ⟨ret_bool HD.out.symm, BW.out.trans (HB.out.mono BW.out.size)⟩
      obtain ⟨t, et⟩ : ∃ t, ts[k]? = some t := ⟨_, List.getElem?_eq_getElem (by rw [EN.out]; exact hlt)⟩
      have AA := hide (HC.out k t et)
      obtain ⟨c0, c1, qx, cx, bx, qy, cy, b, c2, px, c3, py⟩ := (HC.out k t et).below HB.out
      have PX := hide px
      have PY := hide py
      have ET := hide et
      have lk : ((k : Nat) : Int) < (n : Nat) := by omega
      have NX : Hid (rowT ts k = true → ∀ j, j < k + 1 → rowT ts j = true) := fun hr j hj => by
        by_cases ej : j = k
        · subst ej; exact hr
        · exact HE.out j (by omega)
      clear et px py
      go_wp2_with fail
      refine (l5Atom t k qx cx qy cy bx b _ PX.out PY.out).mono ?_
      rintro e u ⟨rfl, hb⟩
      replace HB := hide (HB.out.trans (hb.mono HB.out.size))
      clear hb z0 c0 c1 c2 c3 PX PY
      have z0 := cell_below HB.out ZZ.out
      cases ei : atomB t k with
      | false =>
        have HD : Hid (RES = false) := HM.out.trans (all_no hlt (row_atom ET.out ei))
        clear ei
        go_wp2
        go_ret
        exact ⟨ret_bool HD.out.symm, BW.out.trans (HB.out.mono BW.out.size)⟩
      | true =>
        have EI := hide ei
        clear ei
        go_wp2
        go_loopw [4] (fun i w2 => ∃ j : Nat, j ≤ k ∧ i = .int .i64 j ∧ Hid (∀ (d : Nat) s, d < j → ts[d]? = some s → sameB s t = false) ∧ Hid (Below V.heap.size V w2)) (fun i _ => k - (intOf i).toNat)
        case atStart => exact ⟨0, by omega, rfl, fun d s hd => by omega, HB⟩
        case round =>
          clear HB z0
          obtain ⟨j, hj, rfl, HT, HB⟩ := hrel
          have z0 := cell_below HB.out ZZ.out
          by_cases jlt : j < k
          · obtain ⟨s, es⟩ : ∃ s, ts[j]? = some s := ⟨_, List.getElem?_eq_getElem (by rw [EN.out]; omega)⟩
            obtain ⟨c0, c1, qx, cx, bx, qy, cy, b, c2, px, c3, py⟩ := AA.out.below HB.out
            obtain ⟨d0, d1, qx', cx', bx', qy', cy', b', d2, px', d3, py'⟩ := (HC.out j s es).below HB.out
            have HB2 : Hid (Below V.heap.size V wr.drew) := HB.out.drew
            have PX := hide (px.below (Below.refl _ _).drew)
            have PY := hide (py.below (Below.refl _ _).drew)
            have PX' := hide (px'.below (Below.refl _ _).drew)
            have PY' := hide (py'.below (Below.refl _ _).drew)
            have ES := hide es
            have lj : ((j : Nat) : Int) < (k : Nat) := by omega
            have lj' : ((j : Nat) : Int) < (n : Nat) := by omega
            clear es px py px' py'
            go_wp2_with fail
            refine region_tail 10 (by kernel_rfl) (by kernel_rfl) ?_
            simp only [List.take_succ_cons, List.take_zero, List.drop_succ_cons, List.drop_zero]
            repeat still_step
            refine wpStill_nil ?_
            go_wp2_with fail
            refine (l5Same s t qx' qx cx' cx qy' qy cy' cy bx' bx b' b _ PX'.out PY'.out PX.out PY.out).mono ?_
            rintro e u2 ⟨rfl, hb⟩
            have HB3 := hide (HB2.out.trans (hb.mono HB2.out.size))
            clear hb
            cases ei : sameB s t with
            | true =>
              have HD : Hid (RES = false) := HM.out.trans (all_no hlt (row_same ET.out ES.out jlt ei))
              clear ei
              go_wp2
              go_ret
              exact ⟨ret_bool HD.out.symm, BW.out.trans (HB3.out.mono BW.out.size)⟩
            | false =>
              have HT2 : Hid (∀ (d : Nat) s, d < j + 1 → ts[d]? = some s → sameB s t = false) := fun d s' hd hs => by
                by_cases ed : d = j
                · subst ed
                  rw [ES.out] at hs
                  obtain rfl := Option.some.inj hs
                  exact ei
                · exact HT.out d s' (by omega) hs
              clear ei
              go_wp2
              exact ⟨⟨j + 1, by omega, by go_num, HT2, HB3⟩, by simp [intOf]; omega⟩
          · have HX := hide (NX.out (row_good ET.out EI.out (fun d s hd => HT.out d s (by omega))))
            go_wp2
            exact ⟨⟨k + 1, by omega, by go_num, HX, HB⟩, by simp [intOf]; omega⟩
end Go.Proofs.Ytagfgbkclopoeaa.Tab
