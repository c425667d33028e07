/-
  What atoms come to: the program's TabVals.
  One atom more: the specification's TabPut.
  The program's copied: a list of ints in memory of its own.
-/
import Derived.Test.YtagfgbkclopoeaaJ17
import Derived.Test.YtagfgbkclopoeaaJ16
import Derived.Test.YtagfgbkclopoeaaJ02
import Derived.Laws.CopyOwn
namespace Go.Proofs.Ytagfgbkclopoeaa.Tab
set_option linter.unusedVariables false
open Go.ChangeShapes Go.WideShapes Go.ChangeAt Go.RowKit Go.Shelf IntS Pol Rng
def valsP (ts : List At) (regs loads ins : List Int) : List Int := if tabB ts = true ∧ wordsB regs = true ∧ wordsB loads = true ∧ wordsB ins = true then valsGo regs loads ins ts [] else []
theorem vals_no {ts : List At} {regs loads ins : List Int} (h : ¬ (tabB ts = true ∧ wordsB regs = true ∧ wordsB loads = true ∧ wordsB ins = true)) : valsP ts regs loads ins = [] := if_neg h
theorem tab_atom {ts : List At} (h : tabB ts = true) {k : Nat} {t : At} (ht : ts[k]? = some t) : atomB t k = true := by
  unfold tabB at h
  rw [Bool.and_eq_true] at h
  have h1 := all_at h.2 (List.getElem?_eq_some_iff.1 ht).1
  unfold rowT at h1
  rw [getD_atom ht, Bool.and_eq_true] at h1
  exact h1.1
theorem atom_kinds {t : At} {n : Int} (h : atomB t n = true) : (t.kd = 1 ∨ t.kd = 2 ∨ t.kd = 3 ∨ t.kd = 4) ∧ 0 ≤ t.k ∧ t.k ≤ 199 := by
  by_cases e1 : t.kd = 1
  · rw [atom_reg e1, Bool.and_eq_true] at h
    have := in_iff h.1
    omega
  · by_cases e2 : t.kd = 2 ∨ t.kd = 3
    · rw [atom_in e2, Bool.and_eq_true] at h
      have := in_iff h.1
      omega
    · by_cases e4 : t.kd = 4
      · rw [atom_do e4] at h
        simp only [Bool.and_eq_true] at h
        have := in_iff h.1.1.1.1
        omega
      · rw [atom_no e1 (fun h => e2 (Or.inl h)) (fun h => e2 (Or.inr h)) e4] at h
        cases h
set_option maxRecDepth 8000 in
set_option maxHeartbeats 16000000 in
theorem implVals (ts : List At) (regs loads ins : List Int) (B Br Bl Bi : Nat) (v vr vl vi : Value) (w : World) (h : TRow w B v ts) (hr : Row w Br vr regs) (hl : Row w Bl vl loads) (hi : Row w Bi vi ins) :
    Calls Try.prog 18 #[.agg #[v], vr, vl, vi] w fun e w' => ∃ v', e = .returned v' ∧ IntS.Own w' w.heap.size v' (valsP ts regs loads ins) ∧ Below w.heap.size w w' := by
  have bV : Below w.heap.size w (w.alloc (.cells #[v] 34)) := (Below.refl _ _).alloc (Nat.le_refl _) _
  have z0 : (w.alloc (.cells #[v] 34)).cell? ⟨w.heap.size, 0, none⟩ = some v := by rw [World.cell?_alloc_new]; rfl
  have HT := hide h
  have HR := hide hr
  have HL := hide hl
  have HI := hide hi
  have BW := hide bV
  obtain ⟨a, cap, off, rfl, h2, h3, _, h4⟩ := h
  obtain ⟨ra, rc, _, rfl, _⟩ := hr
  obtain ⟨la, lc, _, rfl, _⟩ := hl
  obtain ⟨ia, ic, _, rfl, _⟩ := hi
  unfold maxLen at h3
  clear bV
  obtain ⟨R, eR⟩ : ∃ R, valsP ts regs loads ins = R := ⟨_, rfl⟩
  rw [eR]
  have ER := hide eR
  have H4 := hide h4
  clear eR h4
  go_enter Try.func18, Try.ntmps18
  go_wp2_with fail
  generalize w.alloc (.cells #[.slice a ts.length cap] 34) = V at z0 BW ⊢
  refine (implTab ts B _ _ (HT.out.below BW.out)).mono ?_
  rintro e u ⟨rfl, hb⟩
  have z1 := cell_below hb z0
  replace BW := hide (BW.out.trans (hb.mono BW.out.size))
  clear hb z0
  cases o1 : tabB ts with
  | false =>
    have HD : Hid (R = []) := ER.out.symm.trans (vals_no (fun h => by rw [o1] at h; cases h.1))
    go_wp2
    go_ret
    exact ⟨_, rfl, by rw [HD.out]; exact World.ownsRow_nil _ _ _ _, BW.out⟩
  | true =>
    have O1 := hide o1
    clear o1
    go_wp2_with fail
    refine (allWords regs Br _ _ (HR.out.below BW.out)).mono ?_
    rintro e u2 ⟨rfl, rfl⟩
    cases o2 : wordsB regs with
    | false =>
      have HD : Hid (R = []) := ER.out.symm.trans (vals_no (fun h => by rw [o2] at h; cases h.2.1))
      go_wp2
      go_ret
      exact ⟨_, rfl, by rw [HD.out]; exact World.ownsRow_nil _ _ _ _, BW.out⟩
    | true =>
      have O2 := hide o2
      clear o2
      go_wp2_with fail
      refine (allWords loads Bl _ _ (HL.out.below BW.out)).mono ?_
      rintro e u2 ⟨rfl, rfl⟩
      cases o3 : wordsB loads with
      | false =>
        have HD : Hid (R = []) := ER.out.symm.trans (vals_no (fun h => by rw [o3] at h; cases h.2.2.1))
        go_wp2
        go_ret
        exact ⟨_, rfl, by rw [HD.out]; exact World.ownsRow_nil _ _ _ _, BW.out⟩
      | true =>
        have O3 := hide o3
        clear o3
        go_wp2_with fail
        refine (allWords ins Bi _ _ (HI.out.below BW.out)).mono ?_
        rintro e u2 ⟨rfl, rfl⟩
        cases o4 : wordsB ins with
        | false =>
          have HD : Hid (R = []) := ER.out.symm.trans (vals_no (fun h => by rw [o4] at h; cases h.2.2.2))
          go_wp2
          go_ret
          exact ⟨_, rfl, by rw [HD.out]; exact World.ownsRow_nil _ _ _ _, BW.out⟩
        | true =>
          have ER2 : Hid (valsGo regs loads ins ts [] = R) := show _ = _ by
            rw [← ER.out]
            exact (if_pos ⟨O1.out, O2.out, O3.out, o4⟩).symm
          clear o4 ER
          obtain ⟨n, en⟩ : ∃ n, ts.length = n := ⟨_, rfl⟩
          have EN := hide en
          rw [en] at h2 z1 ⊢
          have n200 : n ≤ 200 := by
            have h5 := O1.out
            unfold tabB at h5
            rw [Bool.and_eq_true] at h5
            have := of_decide_eq_true h5.1
            omega
          clear en HT
          by_cases h0 : n = 0
          · subst h0
            have e0 : ts = [] := List.length_eq_zero_iff.1 EN.out
            have HD : Hid (R = []) := show _ = _ by rw [← ER2.out, e0]; rfl
            go_wp2
            refine wp_loop_rounds 1 ?_
            rw [rounds_succ]
            go_wp2
            go_ret
            exact ⟨_, rfl, by rw [HD.out]; exact World.ownsRow_nil _ _ _ _, BW.out⟩
          obtain ⟨rfl, hc⟩ := H4.out.resolve_left (fun e => h0 (by rw [← EN.out, e]; rfl))
          have HC := hide hc
          clear hc H4
          go_wp2
          clear z1
          go_loopw [9, 34] (fun q i wr => ∃ k : Nat, k ≤ n ∧ i = .int .i64 k ∧ Hid (IntS.Own wr w.heap.size q (valsGo regs loads ins (ts.take k) [])) ∧ Hid (Below w.heap.size w wr)) (fun _ i _ => n - (intOf i).toNat)
          case atStart => exact ⟨0, by omega, rfl, World.ownsRow_nil _ _ _ _, BW⟩
          case round =>
            clear BW
            obtain ⟨k, hk, rfl, HO, HB⟩ := hrel
            by_cases hlt : k < n
            case neg =>
              have ek : ts.take k = ts := by rw [List.take_of_length_le]; rw [EN.out]; omega
              rw [ek, ER2.out] at HO
              clear ek
              go_wp2
              go_ret
              exact ⟨_, rfl, HO.out, HB.out⟩
            obtain ⟨t, et⟩ : ∃ t, ts[k]? = some t := ⟨_, List.getElem?_eq_getElem (by rw [EN.out]; exact hlt)⟩
            obtain ⟨kin, kb0, kb1⟩ := atom_kinds (tab_atom O1.out et)
            have LL : Hid ((valsGo regs loads ins (ts.take k) []).length ≤ 200) := show _ ≤ _ by
              rw [valsGo_len, List.length_take, EN.out]
              simp
              omega
            have NX := hide (vals_next (regs := regs) (loads := loads) (ins := ins) et)
            obtain ⟨c0, c1, qx, cx, bx, qy, cy, b, c2, px, c3, py⟩ := (HC.out k t et).below HB.out
            obtain ⟨L, eL⟩ : ∃ L, valsGo regs loads ins (ts.take k) [] = L := ⟨_, rfl⟩
            rw [eL] at HO LL NX
            obtain ⟨y, ey⟩ : ∃ y, valOf regs loads ins t L = y := ⟨_, rfl⟩
            rw [ey] at NX
            have EY := hide ey
            have lk : ((k : Nat) : Int) < (n : Nat) := by omega
            have bA : Below wr.heap.size wr (wr.alloc (.cells #[.int .i64 t.kd, .int .i64 t.k, .slice qx t.x.length cx, .slice qy t.y.length cy] 42)) := (Below.refl _ _).alloc (Nat.le_refl _) _
            have RA := hide (Rec.new wr [.int .i64 t.kd, .int .i64 t.k, .slice qx t.x.length cx, .slice qy t.y.length cy] 42)
            have PX := hide (px.below bA)
            have PY := hide (py.below bA)
            replace HO := hide (own_below HO.out bA)
            replace HB := hide (HB.out.trans (bA.mono HB.out.size))
            clear et px py bA eL ey

            by_cases e1 : t.kd = 1
            · have VY : Hid (atI regs t.k = y) := show _ = _ by rw [← EY.out]; unfold valOf; rw [if_pos e1]
              rw [e1] at c0 RA PX PY HO HB
              clear kin
              go_wp2_with fail
              generalize wr.alloc (.cells #[.int .i64 1, .int .i64 t.k, .slice qx t.x.length cx, .slice qy t.y.length cy] 42) = W1 at RA PX PY HO HB ⊢
              refine (wordAt regs t.k kb0 (by omega) Br _ _ (HR.out.below HB.out)).mono ?_
              rintro e u3 ⟨rfl, rfl⟩
              rw [VY.out]
              clear c0 c1 c2 c3 RA PX PY
              have BX : Below u3.heap.size u3 (u3.alloc (.cells #[.int .i64 y] 3)) := (Below.refl _ _).alloc (Nat.le_refl _) _
              have OX := hide (own_below HO.out BX)
              have BY := hide (HB.out.trans (BX.mono HB.out.size))
              have CX : Hid ((u3.alloc (.cells #[.int .i64 y] 3)).cell? ((⟨u3.heap.size, 0, none⟩ : Addr).add 0) = some (.int .i64 y)) := show _ = _ by
                rw [Go.WideShapes.add_plain, World.cell?_alloc_new]
                rfl
              have LX : Hid (L.length ≤ 1000000) := show _ ≤ _ by have := LL.out; omega
              clear BX HO HB
              go_wp2_with (at_builtin; refine wpList_pushV rfl _ _ rfl w.heap.size _ L rfl OX.out BY.out.size ⟨u3.heap.size, 0, none⟩ y rfl CX.out LX.out ?_; intro v5 u5 hO5 hb5; refine Hid.out ?_)
              have O5 := hO5.out
              rw [← NX.out] at O5
              have O6 := hide O5
              have B6 := hide (BY.out.trans hb5.out)
              clear O5 OX BY CX LX hO5 hb5
              refine hide ?_
              go_wp2
              exact ⟨⟨k + 1, by omega, by go_num, O6, B6⟩, by simp [intOf]; omega⟩
            by_cases e2 : t.kd = 2
            · have VY : Hid (atI loads t.k = y) := show _ = _ by rw [← EY.out]; unfold valOf; rw [if_neg e1, if_pos e2]
              rw [e2] at c0 RA PX PY HO HB
              clear kin e1
              go_wp2_with fail
              generalize wr.alloc (.cells #[.int .i64 2, .int .i64 t.k, .slice qx t.x.length cx, .slice qy t.y.length cy] 42) = W1 at RA PX PY HO HB ⊢
              refine (wordAt loads t.k kb0 (by omega) Bl _ _ (HL.out.below HB.out)).mono ?_
              rintro e u3 ⟨rfl, rfl⟩
              rw [VY.out]
              clear c0 c1 c2 c3 RA PX PY
              have BX : Below u3.heap.size u3 (u3.alloc (.cells #[.int .i64 y] 3)) := (Below.refl _ _).alloc (Nat.le_refl _) _
              have OX := hide (own_below HO.out BX)
              have BY := hide (HB.out.trans (BX.mono HB.out.size))
              have CX : Hid ((u3.alloc (.cells #[.int .i64 y] 3)).cell? ((⟨u3.heap.size, 0, none⟩ : Addr).add 0) = some (.int .i64 y)) := show _ = _ by
                rw [Go.WideShapes.add_plain, World.cell?_alloc_new]
                rfl
              have LX : Hid (L.length ≤ 1000000) := show _ ≤ _ by have := LL.out; omega
              clear BX HO HB
              go_wp2_with (at_builtin; refine wpList_pushV rfl _ _ rfl w.heap.size _ L rfl OX.out BY.out.size ⟨u3.heap.size, 0, none⟩ y rfl CX.out LX.out ?_; intro v5 u5 hO5 hb5; refine Hid.out ?_)
              have O5 := hO5.out
              rw [← NX.out] at O5
              have O6 := hide O5
              have B6 := hide (BY.out.trans hb5.out)
              clear O5 OX BY CX LX hO5 hb5
              refine hide ?_
              go_wp2
              exact ⟨⟨k + 1, by omega, by go_num, O6, B6⟩, by simp [intOf]; omega⟩
            by_cases e3 : t.kd = 3
            · have VY : Hid (atI ins t.k = y) := show _ = _ by rw [← EY.out]; unfold valOf; rw [if_neg e1, if_neg e2, if_pos e3]
              rw [e3] at c0 RA PX PY HO HB
              clear kin e1 e2
              go_wp2_with fail
              generalize wr.alloc (.cells #[.int .i64 3, .int .i64 t.k, .slice qx t.x.length cx, .slice qy t.y.length cy] 42) = W1 at RA PX PY HO HB ⊢
              refine (wordAt ins t.k kb0 (by omega) Bi _ _ (HI.out.below HB.out)).mono ?_
              rintro e u3 ⟨rfl, rfl⟩
              rw [VY.out]
              clear c0 c1 c2 c3 RA PX PY
              have BX : Below u3.heap.size u3 (u3.alloc (.cells #[.int .i64 y] 3)) := (Below.refl _ _).alloc (Nat.le_refl _) _
              have OX := hide (own_below HO.out BX)
              have BY := hide (HB.out.trans (BX.mono HB.out.size))
              have CX : Hid ((u3.alloc (.cells #[.int .i64 y] 3)).cell? ((⟨u3.heap.size, 0, none⟩ : Addr).add 0) = some (.int .i64 y)) := show _ = _ by
                rw [Go.WideShapes.add_plain, World.cell?_alloc_new]
                rfl
              have LX : Hid (L.length ≤ 1000000) := show _ ≤ _ by have := LL.out; omega
              clear BX HO HB
              go_wp2_with (at_builtin; refine wpList_pushV rfl _ _ rfl w.heap.size _ L rfl OX.out BY.out.size ⟨u3.heap.size, 0, none⟩ y rfl CX.out LX.out ?_; intro v5 u5 hO5 hb5; refine Hid.out ?_)
              have O5 := hO5.out
              rw [← NX.out] at O5
              have O6 := hide O5
              have B6 := hide (BY.out.trans hb5.out)
              clear O5 OX BY CX LX hO5 hb5
              refine hide ?_
              go_wp2
              exact ⟨⟨k + 1, by omega, by go_num, O6, B6⟩, by simp [intOf]; omega⟩
            have e4 : t.kd = 4 := by omega
            have VY : Hid (Wrd.wdo t.k (evalP t.x L) (evalP t.y L) = y) := show _ = _ by rw [← EY.out]; unfold valOf; rw [if_neg e1, if_neg e2, if_neg e3]
            rw [e4] at c0 RA PX PY HO HB
            clear kin e1 e2 e3
            go_wp2_with fail
            generalize wr.alloc (.cells #[.int .i64 4, .int .i64 t.k, .slice qx t.x.length cx, .slice qy t.y.length cy] 42) = W1 at RA PX PY HO HB ⊢
            refine (wpIn_wide (n := 0)).1 ?_
            refine PhaseIn.region (S := fun w' => w'.cell? ⟨wr.heap.size, 1, none⟩ = some (.int .i64 t.k) ∧ w'.cell? ⟨wr.heap.size, 2, none⟩ = some (.slice qx t.x.length cx) ∧ w'.cell? ⟨wr.heap.size, 3, none⟩ = some (.slice qy t.y.length cy)) 11 (by kernel_rfl) ?_
            have hHeld : W1.drew.cell? ⟨wr.heap.size, 1, none⟩ = some (.int .i64 t.k) ∧ W1.drew.cell? ⟨wr.heap.size, 2, none⟩ = some (.slice qx t.x.length cx) ∧ W1.drew.cell? ⟨wr.heap.size, 3, none⟩ = some (.slice qy t.y.length cy) := ⟨RA.out.cell 1 _ rfl, RA.out.cell 2 _ rfl, RA.out.cell 3 _ rfl⟩
            have hb : Below W1.heap.size W1 W1.drew := (Below.refl _ _).drew
            replace PX := hide (PX.out.below hb)
            replace PY := hide (PY.out.below hb)
            replace HO := hide (own_below HO.out hb)
            replace HB := hide (HB.out.trans (hb.mono HB.out.size))
            clear hb RA c0 c1 c2 c3
            generalize W1.drew = V1 at hHeld PX PY HO HB ⊢
            obtain ⟨BO, RO⟩ := own_row HO.out
            replace RO := hide RO
            refine PhaseIn.takeD (i := 0) (v := ?_) [0, 1, 10, 11] 60 rfl (by rfl) (by kernel_rfl) (by kernel_rfl) (by kernel_rfl) (by kernel_rfl) (by kernel_rfl) (fun _ _ _ h => h) (Or.inl ⟨by kernel_rfl, ?_⟩) hHeld ?_
            rotate_left
            · intro w' hSw
              (try dsimp only at hSw)
              go_simp
              first | done | with_reducible rfl
            try simp only [Act.put, List.setIfInBounds_toArray, List.set]
            refine PhaseIn.takeD (i := 1) (v := ?_) [1, 10, 11] 61 rfl (by rfl) (by kernel_rfl) (by kernel_rfl) (by kernel_rfl) (by kernel_rfl) (by kernel_rfl) (fun _ _ _ h => h) (Or.inl ⟨by kernel_rfl, ?_⟩) hHeld ?_
            rotate_left
            · intro w' hSw
              (try dsimp only at hSw)
              go_simp
              first | done | with_reducible rfl
            try simp only [Act.put, List.setIfInBounds_toArray, List.set]
            refine PhaseIn.takeD (i := 2) (v := ?_) [2, 3, 5, 9, 10, 11] 62 rfl (by rfl) (by kernel_rfl) (by kernel_rfl) (by kernel_rfl) (by kernel_rfl) (by kernel_rfl) (fun _ _ _ h => h) (Or.inl ⟨by kernel_rfl, ?_⟩) hHeld ?_
            rotate_left
            · intro w' hSw
              (try dsimp only at hSw)
              go_simp
              first | done | with_reducible rfl
            try simp only [Act.put, List.setIfInBounds_toArray, List.set]
            refine PhaseIn.takeD (i := 3) (v := ?_) [3, 5, 9, 10, 11] 63 rfl (by rfl) (by kernel_rfl) (by kernel_rfl) (by kernel_rfl) (by kernel_rfl) (by kernel_rfl) (fun _ _ _ h => h) (Or.inl ⟨by kernel_rfl, ?_⟩) hHeld ?_
            rotate_left
            · intro w' hSw
              (try dsimp only at hSw)
              go_simp
              first | done | with_reducible rfl
            try simp only [Act.put, List.setIfInBounds_toArray, List.set]
            refine PhaseIn.takeD (i := 4) (v := ?_) [4, 5, 9, 10, 11] 64 rfl (by rfl) (by kernel_rfl) (by kernel_rfl) (by kernel_rfl) (by kernel_rfl) (by kernel_rfl) (fun _ _ _ h => h) (Or.inl ⟨by kernel_rfl, ?_⟩) hHeld ?_
            rotate_left
            · intro w' hSw
              (try dsimp only at hSw)
              go_simp
              first | done | with_reducible rfl
            try simp only [Act.put, List.setIfInBounds_toArray, List.set]
            refine PhaseIn.takeD (i := 6) (v := ?_) [6, 7, 9, 10, 11] 66 rfl (by rfl) (by kernel_rfl) (by kernel_rfl) (by kernel_rfl) (by kernel_rfl) (by kernel_rfl) (fun _ _ _ h => h) (Or.inl ⟨by kernel_rfl, ?_⟩) hHeld ?_
            rotate_left
            · intro w' hSw
              (try dsimp only at hSw)
              go_simp
              first | done | with_reducible rfl
            try simp only [Act.put, List.setIfInBounds_toArray, List.set]
            refine PhaseIn.takeD (i := 7) (v := ?_) [7, 9, 10, 11] 67 rfl (by rfl) (by kernel_rfl) (by kernel_rfl) (by kernel_rfl) (by kernel_rfl) (by kernel_rfl) (fun _ _ _ h => h) (Or.inl ⟨by kernel_rfl, ?_⟩) hHeld ?_
            rotate_left
            · intro w' hSw
              (try dsimp only at hSw)
              go_simp
              first | done | with_reducible rfl
            try simp only [Act.put, List.setIfInBounds_toArray, List.set]
            refine PhaseIn.takeD (i := 8) (v := ?_) [8, 9, 10, 11] 68 rfl (by rfl) (by kernel_rfl) (by kernel_rfl) (by kernel_rfl) (by kernel_rfl) (by kernel_rfl) (fun _ _ _ h => h) (Or.inl ⟨by kernel_rfl, ?_⟩) hHeld ?_
            rotate_left
            · intro w' hSw
              (try dsimp only at hSw)
              go_simp
              first | done | with_reducible rfl
            try simp only [Act.put, List.setIfInBounds_toArray, List.set]
            refine PhaseIn.one (i := 5) (by kernel_rfl) rfl (by kernel_rfl) (fun K hK => ?_)
            unfold Oper.wpIn
            refine ⟨fun _ _ => trivial, ?_⟩
            go_simp
            refine ⟨rfl, (callsIn_wide.2 (implEval t.x L bx BO _ _ _ PX.out RO.out)).mono ?_⟩
            rintro e u6 ⟨rfl, hb⟩
            have hHeld2 := And.intro (cell_below hb hHeld.1) (And.intro (cell_below hb hHeld.2.1) (cell_below hb hHeld.2.2))
            refine hK _ _ (fun _ => hHeld2) ?_
            replace PY := hide (PY.out.below hb)
            replace RO := hide (RO.out.below hb)
            replace HO := hide (own_below HO.out hb)
            replace HB := hide (HB.out.trans (hb.mono HB.out.size))
            clear hK K hHeld hb
            try simp only [Act.put, List.setIfInBounds_toArray, List.set]
            refine PhaseIn.one (i := 9) (by kernel_rfl) rfl (by kernel_rfl) (fun K hK => ?_)
            unfold Oper.wpIn
            refine ⟨fun _ _ => trivial, ?_⟩
            go_simp
            refine ⟨rfl, (callsIn_wide.2 (implEval t.y L b BO _ _ _ PY.out RO.out)).mono ?_⟩
            rintro e u7 ⟨rfl, hb⟩
            have hHeld := And.intro (cell_below hb hHeld2.1) (And.intro (cell_below hb hHeld2.2.1) (cell_below hb hHeld2.2.2))
            refine hK _ _ (fun _ => hHeld) ?_
            replace HO := hide (own_below HO.out hb)
            replace HB := hide (HB.out.trans (hb.mono HB.out.size))
            clear hK K hHeld2 hb
            try simp only [Act.put, List.setIfInBounds_toArray, List.set]
            refine PhaseIn.one (i := 10) (by kernel_rfl) rfl (by kernel_rfl) (fun K hK => ?_)
            unfold Oper.wpIn
            refine ⟨fun _ _ => trivial, ?_⟩
            go_simp
            refine ⟨rfl, (callsIn_wide.2 (Wrd.implDo t.k (evalP t.x L) (evalP t.y L) _)).mono ?_⟩
            rintro e u8 ⟨rfl, hb⟩
            have hHeld2 := And.intro (cell_below hb hHeld.1) (And.intro (cell_below hb hHeld.2.1) (cell_below hb hHeld.2.2))
            refine hK _ _ (fun _ => hHeld2) ?_
            rw [VY.out]
            replace HO := hide (own_below HO.out hb)
            replace HB := hide (HB.out.trans (hb.mono HB.out.size))
            clear hK K hHeld hb
            try simp only [Act.put, List.setIfInBounds_toArray, List.set]
            clear hHeld2 PX PY RO
            refine PhaseIn.late (i := 11) (v := .int .i64 y) (by kernel_rfl) rfl 12 (by rfl) (by omega) (Or.inl ⟨by kernel_rfl, ?_⟩) ?_
            · intro w' hSw
              go_simp
              first | done | with_reducible rfl
            try simp only [Act.put, List.setIfInBounds_toArray, List.set]
            refine PhaseIn.done (by kernel_rfl) ?_ _
            have BX : Below u8.heap.size u8 (u8.alloc (.cells #[.int .i64 y] 3)) := (Below.refl _ _).alloc (Nat.le_refl _) _
            have OX := hide (own_below HO.out BX)
            have BY := hide (HB.out.trans (BX.mono HB.out.size))
            have CX : Hid ((u8.alloc (.cells #[.int .i64 y] 3)).cell? ((⟨u8.heap.size, 0, none⟩ : Addr).add 0) = some (.int .i64 y)) := show _ = _ by
              rw [Go.WideShapes.add_plain, World.cell?_alloc_new]
              rfl
            have LX : Hid (L.length ≤ 1000000) := show _ ≤ _ by have := LL.out; omega
            clear BX HO HB
            go_wp2_with (at_builtin; refine wpList_pushV rfl _ _ rfl w.heap.size _ L rfl OX.out BY.out.size ⟨u8.heap.size, 0, none⟩ y rfl CX.out LX.out ?_; intro v5 u5 hO5 hb5; refine Hid.out ?_)
            have O5 := hO5.out
            rw [← NX.out] at O5
            have O6 := hide O5
            have B6 := hide (BY.out.trans hb5.out)
            clear O5 OX BY CX LX hO5 hb5
            refine hide ?_
            go_wp2
            exact ⟨⟨k + 1, by omega, by go_num, O6, B6⟩, by simp [intOf]; omega⟩
end Go.Proofs.Ytagfgbkclopoeaa.Tab
namespace Go.Proofs.Ytagfgbkclopoeaa.Tab
set_option linter.unusedVariables false
set_option linter.unusedSimpArgs false
open Go.ChangeShapes Go.WideShapes Go.ChangeAt Go.RowKit IntS Pol Push
theorem keep_low {lo : Nat} {w w' : World} (h : Below lo w w') : Keep (fun b => lo ≤ b) w w' := ⟨h.os, h.tape, h.output, h.size, fun k _ hn => h.block k (by omega)⟩
theorem tab_fine {ts : List At} (h : tabB ts = true) : (∀ t ∈ ts, FineA t) ∧ ts.length ≤ 200 := by
  refine ⟨fun t ht => ?_, ?_⟩
  · obtain ⟨k, hk⟩ := List.getElem?_of_mem ht
    exact fine_of (tab_atom h hk)
  · unfold tabB at h
    rw [Bool.and_eq_true] at h
    exact of_decide_eq_true h.1
set_option maxRecDepth 8000 in
set_option maxHeartbeats 8000000 in
theorem specPut (ts : List At) (a : At) (B : Nat) (v : Value) (qx : Option Addr) (cx : Nat) (qy : Option Addr) (cy bx b : Nat) (w : World) (h : TRow w B v ts) (hx : PRow w bx (.slice qx a.x.length cx) a.x) (hy : PRow w b (.slice qy a.y.length cy) a.y) :
    Calls Try.prog 7 #[.agg #[v], .agg #[.int .i64 a.kd, .int .i64 a.k, .slice qx a.x.length cx, .slice qy a.y.length cy]] w fun e w' => ∃ q' cap' cs' l' m' h', e = .returned (.tuple #[.agg #[.slice q' (putP ts a).length cap'], .int .i64 (putK ts a)]) ∧ OTab w' w.heap.size q' cap' cs' l' m' h' (putP ts a) ∧ Below w.heap.size w w' := by
  have T := Three.new w [v] [.int .i64 a.kd, .int .i64 a.k, .slice qx a.x.length cx, .slice qy a.y.length cy] [.slice none 0 0] 34 42 34
  have bn : Below w.heap.size w (((w.alloc (.cells #[v] 34)).alloc (.cells #[.int .i64 a.kd, .int .i64 a.k, .slice qx a.x.length cx, .slice qy a.y.length cy] 42)).alloc (.cells #[.slice none 0 0] 34)) := T.bw
  have H := hide (h.below bn)
  have HX := hide (hx.below bn)
  have HY := hide (hy.below bn)
  have T3 := hide T
  obtain ⟨q0, cap0, off, rfl, h2, h3, _, _⟩ := h
  unfold maxLen at h3
  clear T bn hx hy
  go_enter Try.func7, Try.ntmps7
  go_wp2_with fail
  generalize (((w.alloc (.cells #[.slice q0 ts.length cap0] 34)).alloc (.cells #[.int .i64 a.kd, .int .i64 a.k, .slice qx a.x.length cx, .slice qy a.y.length cy] 42)).alloc (.cells #[.slice none 0 0] 34)) = V at T3 H HX HY ⊢
  have t0 := T3.out.a.cell 0 _ rfl
  go_wp2_with fail
  refine (specTab ts B _ _ H.out).mono ?_
  rintro e u1 ⟨rfl, hb⟩
  clear t0
  replace T3 := hide (T3.out.below hb)
  replace H := hide (H.out.below hb)
  replace HX := hide (HX.out.below hb)
  replace HY := hide (HY.out.below hb)
  clear hb
  by_cases e1 : tabB ts = true
  case neg =>
    have PE : Hid (putP ts a = [] ∧ putK ts a = -1) := show _ ∧ _ from ⟨if_neg e1, if_neg e1⟩
    rw [Bool.not_eq_true] at e1
    rw [e1]
    clear e1
    have o0 := T3.out.o.cell 0 _ rfl
    have s0 := T3.out.o.soft 0
    have TN : Turn (w.heap.size + 1 + 1) u1 (u1.setCell ⟨w.heap.size + 1 + 1, 0, none⟩ (.slice none 0 0)) := (Turn.refl _ u1).setCell (p := ⟨w.heap.size + 1 + 1, 0, none⟩) rfl _
    have ZF := hide (T3.out.o.set 0 (.slice none 0 0) (by simp) rfl)
    have BF := hide (T3.out.bw.trans (TN.below (by omega) T3.out.bw.size))
    clear TN T3 H HX HY
    go_wp2
    generalize u1.setCell ⟨w.heap.size + 1 + 1, 0, none⟩ (.slice none 0 0) = y9 at ZF BF ⊢
    have z9 := ZF.out.cell 0 _ rfl
    rw [PE.out.1, PE.out.2]
    exact bodyPost_ret (v := .tuple #[.agg #[.slice none 0 0], .int .i64 (-1)]) (by simp [results, Try.results7, go_sem, z9]) rfl ⟨none, 0, [], _, _, _, rfl, OTab.nil _ _, BF.out⟩
  have PE : Hid (putP ts a = putT ts a ∧ putK ts a = putN ts a) := show _ ∧ _ from ⟨if_pos e1, if_pos e1⟩
  have FT := hide (tab_fine e1)
  rw [e1]
  clear e1
  go_wp2_with fail
  refine (wpIn_wide (n := 0)).1 ?_
  have bA : Below u1.heap.size u1 u1.drew := (Below.refl _ _).drew
  replace T3 := hide (T3.out.below bA)
  replace H := hide (H.out.below bA)
  replace HX := hide (HX.out.below bA)
  replace HY := hide (HY.out.below bA)
  clear bA
  refine PhaseIn.region (S := fun w' => Rec w.heap.size [.slice q0 ts.length cap0] w' ∧ Rec (w.heap.size + 1) [.int .i64 a.kd, .int .i64 a.k, .slice qx a.x.length cx, .slice qy a.y.length cy] w') 8 (by kernel_rfl) ?_
  generalize u1.drew = d1 at T3 H HX HY ⊢
  have hHeld := And.intro T3.out.a T3.out.z
  refine PhaseIn.takeD (i := 0) (v := ?_) [0, 1, 3, 4, 5, 6, 7] 10 rfl (by rfl) (by kernel_rfl) (by kernel_rfl) (by kernel_rfl) (by kernel_rfl) (by kernel_rfl) (fun _ _ _ h => h) (Or.inl ⟨by kernel_rfl, ?_⟩) hHeld ?_
  rotate_left
  · intro w' hSw
    (try dsimp only at hSw)
    have z0 := hSw.1.cell 0 _ rfl
    go_simp
    first | done | with_reducible rfl
  try simp only [Act.put, List.setIfInBounds_toArray, List.set]
  refine PhaseIn.takeD (i := 2) (v := ?_) [2, 3, 4, 5, 6, 7] 12 rfl (by rfl) (by kernel_rfl) (by kernel_rfl) (by kernel_rfl) (by kernel_rfl) (by kernel_rfl) (fun _ _ _ h => h) (Or.inl ⟨by kernel_rfl, ?_⟩) hHeld ?_
  rotate_left
  · intro w' hSw
    (try dsimp only at hSw)
    have z0 := hSw.2.cell 0 _ rfl; have z1 := hSw.2.cell 1 _ rfl; have z2 := hSw.2.cell 2 _ rfl; have z3 := hSw.2.cell 3 _ rfl
    go_simp
    first | done | with_reducible rfl
  try simp only [Act.put, List.setIfInBounds_toArray, List.set]
  refine PhaseIn.one (i := 1) (by kernel_rfl) rfl (by kernel_rfl) (fun K hK => ?_)
  unfold Oper.wpIn
  refine ⟨fun _ _ => trivial, ?_⟩
  go_simp
  refine ⟨rfl, (callsIn_wide.2 (l5Copy ts B _ _ H.out FT.out.1 (by have := FT.out.2; omega))).mono ?_⟩
  rintro e u2 ⟨q, cap, cs, l, m, hh, rfl, OT, hb⟩
  refine hK _ _ (fun _ => And.intro (hHeld.1.below hb) (hHeld.2.below hb)) ?_
  replace hHeld := And.intro (hHeld.1.below hb) (hHeld.2.below hb)
  replace OT := hide OT
  have DL : Hid (w.heap.size + 1 + 1 < d1.heap.size) := T3.out.o.lt
  have DS : Hid (d1.heap.size ≤ u2.heap.size) := hb.size
  replace T3 := hide (T3.out.below hb)
  replace HX := hide (HX.out.below hb)
  replace HY := hide (HY.out.below hb)
  clear hK K hb H
  try simp only [Act.put, List.setIfInBounds_toArray, List.set]
  refine PhaseIn.one (i := 3) (by kernel_rfl) rfl (by kernel_rfl) (fun K hK => ?_)
  unfold Oper.wpIn
  refine ⟨fun _ _ => trivial, ?_⟩
  go_simp
  refine ⟨rfl, (callsIn_wide.2 (l5Put ts a d1.heap.size cap q cs l m hh qx cx qy cy bx b _ OT.out DS.out HX.out HY.out FT.out.2)).mono ?_⟩
  rintro e u3 ⟨q', cap', cs', l', m', h', rfl, ON, hb⟩
  have hHeld3 : Rec w.heap.size [.slice q0 ts.length cap0] u3 ∧ Rec (w.heap.size + 1) [.int .i64 a.kd, .int .i64 a.k, .slice qx a.x.length cx, .slice qy a.y.length cy] u3 := ⟨hHeld.1.keep (keep_low hb) (by have := DL.out; omega), hHeld.2.keep (keep_low hb) (by have := DL.out; omega)⟩
  refine hK _ _ (fun _ => hHeld3) ?_
  replace ON := hide ON
  have TO := hide (T3.out.o.keep (keep_low hb) (by have := DL.out; omega))
  have BW := hide (T3.out.bw.trans (hb.mono (by have := DL.out; omega)))
  clear hK K hb hHeld OT HX HY T3
  try simp only [Act.put, List.setIfInBounds_toArray, List.set]
  refine PhaseIn.takeD (i := 4) (v := ?_) [4, 6, 7] 14 rfl (by rfl) (by kernel_rfl) (by kernel_rfl) (by kernel_rfl) (by kernel_rfl) (by kernel_rfl) (fun _ _ _ h => h) (Or.inl ⟨by kernel_rfl, ?_⟩) hHeld3 ?_
  rotate_left
  · intro w' hSw
    (try dsimp only at hSw)
    go_simp
    first | done | with_reducible rfl
  try simp only [Act.put, List.setIfInBounds_toArray, List.set]
  refine PhaseIn.takeD (i := 5) (v := ?_) [5, 6, 7] 15 rfl (by rfl) (by kernel_rfl) (by kernel_rfl) (by kernel_rfl) (by kernel_rfl) (by kernel_rfl) (fun _ _ _ h => h) (Or.inl ⟨by kernel_rfl, ?_⟩) hHeld3 ?_
  rotate_left
  · intro w' hSw
    (try dsimp only at hSw)
    go_simp
    first | done | with_reducible rfl
  try simp only [Act.put, List.setIfInBounds_toArray, List.set]
  have o0 := TO.out.cell 0 _ rfl
  have s0 := TO.out.soft 0
  refine PhaseIn.one (i := 6) (by kernel_rfl) rfl (by kernel_rfl) (fun K hK => ?_)
  unfold Oper.wpIn
  refine ⟨fun _ _ => trivial, ?_⟩
  go_simp
  have TN : Turn (w.heap.size + 1 + 1) u3 (u3.setCell ⟨w.heap.size + 1 + 1, 0, none⟩ (.slice q' (putT ts a).length cap')) := (Turn.refl _ u3).setCell (p := ⟨w.heap.size + 1 + 1, 0, none⟩) rfl _
  have hHeld6 := And.intro (hHeld3.1.turn TN (by omega)) (hHeld3.2.turn TN (by omega))
  refine hK _ _ (fun _ => hHeld6) ?_
  have ZF := hide (TO.out.set 0 (.slice q' (putT ts a).length cap') (by simp) rfl)
  have BF := hide (BW.out.trans (TN.below (by omega) BW.out.size))
  have OF := hide ((ON.out.turn TN (Or.inl (by have := DL.out; omega))).mono (lo' := w.heap.size) (by have := DL.out; omega))
  clear TN TO BW ON hK K o0 s0 hHeld3
  try simp only [Act.put, List.setIfInBounds_toArray, List.set]
  generalize u3.setCell ⟨w.heap.size + 1 + 1, 0, none⟩ (.slice q' (putT ts a).length cap') = y9 at ZF BF OF hHeld6 ⊢
  refine PhaseIn.takeD (i := 7) (v := ?_) [7] 5 rfl (by rfl) (by kernel_rfl) (by kernel_rfl) (by kernel_rfl) (by kernel_rfl) (by kernel_rfl) (fun _ _ _ h => h) (Or.inl ⟨by kernel_rfl, ?_⟩) hHeld6 ?_
  rotate_left
  · intro w' hSw
    (try dsimp only at hSw)
    go_simp
    first | done | with_reducible rfl
  try simp only [Act.put, List.setIfInBounds_toArray, List.set]
  refine PhaseIn.done (by kernel_rfl) ?_ _
  have z9 := ZF.out.cell 0 _ rfl
  clear hHeld6
  go_wp2
  rw [PE.out.1, PE.out.2]
  exact bodyPost_ret (v := .tuple #[.agg #[(.slice q' (putT ts a).length cap')], .int .i64 (putN ts a)]) (by simp [results, Try.results7, go_sem, z9]) rfl ⟨q', cap', cs', l', m', h', rfl, OF.out, BF.out⟩
end Go.Proofs.Ytagfgbkclopoeaa.Tab
namespace Go.Proofs.Ytagfgbkclopoeaa.Copd
open Go.ChangeShapes Go.WideShapes Go.ChangeAt Go.RowKit IntS
theorem sizeInt : (Try.prog.info? 3).map (·.size) = some 1 := by kernel_rfl
theorem made_zero (n : Nat) : madeCells #[.int .i64 0] n = (List.replicate n (Value.int .i64 0)).toArray := by
  apply Array.ext'
  simp [madeCells, Nat.mod_one]
  rw [List.eq_replicate_iff]
  refine ⟨by simp, fun b hb => ?_⟩
  simp at hb
  exact hb.2.symm
theorem made_heap (w : World) (n : Nat) (t : TypeId) : (w.alloc (.cells (madeCells #[.int .i64 0] n) t)).heap[w.heap.size]? = some (.cells (List.replicate n (Value.int .i64 0)).toArray t (0, 0)) := by
  rw [made_zero]
  exact (MapKept.heap_alloc w _).1
theorem own_full {w : World} {g n : Nat} {xs : List Int} (hn : xs.length = n) (hm : n ≤ maxLen) (hg : w.heap[g]? = some (.cells (vals xs).toArray 3 (0, 0))) : IntS.Own w g (.slice (some ⟨g, 0, none⟩) n n) xs := by
  subst hn
  refine ⟨by simp [vals], Or.inr ⟨g, xs.length, (vals xs).toArray, rfl, Nat.le_refl _, hg, Nat.le_refl _, hm, by simp [vals], ?_⟩⟩
  rw [List.take_of_length_le (by simp [vals])]
theorem splice_all {xs : List Int} {n : Nat} (hn : xs.length = n) : splice (List.replicate n (Value.int .i64 0)) 0 (vals xs) = vals xs := by
  simp [splice, vals, hn]
theorem one_vals {xs : List Int} : ∀ v ∈ vals xs, v.oneCell' = true := fun v hv => by
  obtain ⟨y, _, rfl⟩ := List.mem_map.1 hv
  rfl
theorem row_src {w : World} {B n cap : Nat} {xs : List Int} {a : Option Addr} (h : Row w B (.slice a n cap) xs) (h0 : 0 < (vals xs).length) : ∃ ad, a = some ad ∧ ∀ j v, (vals xs)[j]? = some v → w.cell? (ad.add j) = some v := by
  obtain ⟨a', cap', off', hv, _, _, _, h4⟩ := h
  cases hv
  rcases h4 with h4 | ⟨h4, h5⟩
  · subst h4; simp [vals] at h0
  · refine ⟨_, h4, fun j v hv => ?_⟩
    rw [Go.WideShapes.add_plain]
    simp only [vals, List.getElem?_map, Option.map_eq_some_iff] at hv
    obtain ⟨y, hy, rfl⟩ := hv
    exact h5 j y hy
set_option maxHeartbeats 2000000 in
set_option maxRecDepth 8000 in
theorem copied (xs : List Int) (B : Nat) (v : Value) (w : World) (h : Row w B v xs) (hn : xs.length ≤ 2000000) :
    Calls Try.prog 81 #[v] w fun e w' => ∃ g : Nat, e = .returned (.slice (some ⟨g, 0, none⟩) xs.length xs.length) ∧ IntS.Own w' g (.slice (some ⟨g, 0, none⟩) xs.length xs.length) xs ∧ w.heap.size ≤ g ∧ g < w'.heap.size ∧ Below w.heap.size w w' := by
  have HR := hide h
  obtain ⟨a, cap, off, rfl, h2, h3, hz, h4⟩ := h
  obtain ⟨n, en⟩ : ∃ n, xs.length = n := ⟨_, rfl⟩
  unfold maxLen at h3
  have hmk := run_make_row' (P := Try.prog) 49 3 (.int .i64 0) 8 Try.underlying49 (by kernel_rfl) rfl .i64 .i64 n (by omega) (by omega) w
  have HB := hide ((Below.refl w.heap.size w).alloc (Nat.le_refl _) (.cells (madeCells #[.int .i64 0] n) 3))
  have HG := hide (made_heap w n 3)
  have H4 := hide h4
  have EN := hide en
  rw [en] at h2 hn ⊢
  have HN := hide hn
  clear h4 en hz hn
  go_enter Try.func81, Try.ntmps81
  have L1 : Hid ((vals xs).length = Nat.min n n) := show _ = _ by rw [vals_len, EN.out]; exact (Nat.min_self n).symm
  have L2 : Hid (0 + (vals xs).length ≤ (List.replicate n (Value.int .i64 0)).length) := show _ ≤ _ by rw [vals_len, EN.out]; simp
  have L3 : Hid (0 < (vals xs).length → some (⟨w.heap.size, 0, none⟩ : Addr) = some ⟨w.heap.size, 0, none⟩ ∧ ∃ ad, a = some ad ∧ ∀ j v, (vals xs)[j]? = some v → (w.alloc (.cells (madeCells #[.int .i64 0] n) 3)).cell? (ad.add j) = some v) := fun h0 => ⟨rfl, row_src (HR.out.below HB.out) h0⟩
  go_wp2_with (refine wpList_copy_splice rfl (.tmp 7) (.tmp 8) 49 49 rfl 3 Try.underlying49 sizeInt (some ⟨w.heap.size, 0, none⟩) a n n n cap rfl rfl w.heap.size 0 (List.replicate n (Value.int .i64 0)) 3 HG.out (vals xs) L1.out L3.out L2.out one_vals w.heap.size w HB.out (Nat.le_refl _) ?_; intro w2 HG2 HB2)
  rw [splice_all EN.out] at HG2
  have HO := hide (own_full EN.out (by have := HN.out; unfold maxLen; omega) HG2.out)
  clear HG2 HG HB
  replace HB2 := hide HB2
  go_wp2
  go_ret
  exact ⟨w.heap.size, rfl, HO.out, Nat.le_refl _, HO.out.isT.lt, HB2.out⟩
end Go.Proofs.Ytagfgbkclopoeaa.Copd
