/-
  The program's placesOf and TabOk.
-/
import Derived.Test.YtagfgbkclopoeaaTabX
namespace Go.Proofs.Ytagfgbkclopoeaa.Tab
set_option linter.unusedVariables false
open Go.ChangeShapes Go.WideShapes Go.ChangeAt Go.RowKit Go.Shelf IntS Pol Rng
theorem rows_kok {ts : List At} {k : Nat} (h : ∀ j, j < k → rowT ts j = true) {j : Nat} {s : At} (hj : j < k) (hs : ts[j]? = some s) : KOk s := by
  have h1 := h j hj
  unfold rowT at h1
  rw [getD_atom hs, Bool.and_eq_true] at h1
  exact atom_kok h1.1
theorem has_same {ts : List At} {k : Nat} {t : At} (hk : k ≤ ts.length) (h : ∀ j, j < k → rowT ts j = true) (ht : KOk t) (hno : ((ts.take k).any fun s => decide (keyB s = keyB t)) = false) : ∀ (j : Nat) s, j < k → ts[j]? = some s → sameB s t = false := fun j s hj hs => by
  rw [same_key (rows_kok h hj hs) ht]
  rw [List.any_eq_false] at hno
  have hm : s ∈ ts.take k := List.mem_of_getElem? (i := j) (by rw [List.getElem?_take, if_pos hj]; exact hs)
  simpa using hno s hm
theorem has_found {ts : List At} {k : Nat} {t : At} (hk : k ≤ ts.length) (h : ∀ j, j < k → rowT ts j = true) (ht : KOk t) (hyes : ((ts.take k).any fun s => decide (keyB s = keyB t)) = true) : ∃ (j : Nat) (s : At), j < k ∧ ts[j]? = some s ∧ sameB s t = true := by
  rw [List.any_eq_true] at hyes
  obtain ⟨s, hm, he⟩ := hyes
  obtain ⟨j, hj⟩ := List.getElem?_of_mem hm
  rw [List.getElem?_take] at hj
  by_cases e : j < k
  · rw [if_pos e] at hj
    exact ⟨j, s, e, hj, by rw [same_key (rows_kok h e hj) ht]; exact he⟩
  · rw [if_neg e] at hj
    cases hj
set_option maxRecDepth 8000 in
set_option maxHeartbeats 16000000 in
theorem placesOf (ts : List At) (B : Nat) (v : Value) (w : World) (h : TRow w B v ts) :
    Calls Try.prog 29 #[.agg #[v]] w fun e w' => ∃ mv, e = .returned (.tuple #[mv, .bool (tabB ts)]) ∧ (tabB ts = true → ∃ b, mv = .map (some b) ∧ TMap w' b ts ∧ w.heap.size ≤ b) ∧ Below w.heap.size w w' := by
  obtain ⟨a, cap, off, rfl, h2, h3, hz, h4⟩ := h
  unfold maxLen at h3
  clear hz
  have bV : Below w.heap.size w (w.alloc (.cells #[.slice a ts.length cap] 34)) := (Below.refl _ _).alloc (Nat.le_refl _) _
  have BW := hide bV
  have ZZ : Hid ((w.alloc (.cells #[.slice a ts.length cap] 34)).cell? ⟨w.heap.size, 0, none⟩ = some (.slice a ts.length cap)) := show _ = _ by rw [World.cell?_alloc_new]; rfl
  have SZ : Hid ((w.alloc (.cells #[.slice a ts.length cap] 34)).heap.size = w.heap.size + 1) := show _ = _ by simp
  have H4 := hide h4
  clear bV h4
  obtain ⟨RES, eRES⟩ : ∃ r, tabB ts = r := ⟨_, rfl⟩
  rw [eRES]
  have ER := hide eRES
  clear eRES
  by_cases hl : ts.length ≤ 200
  case neg =>
    have HD : Hid (RES = false) := ER.out.symm.trans (tab_long hl)
    generalize ts.length = n at *
    have hl' : ¬ ((n : Int) ≤ 200) := by omega
    go_enter Try.func29, Try.ntmps29
    go_wp2
    exact bodyPost_ret (v := .tuple #[.map none, .bool false]) (by simp [results, Try.results29, go_sem]) rfl ⟨_, by rw [HD.out], (fun h => by rw [HD.out] at h; cases h), BW.out⟩
  have HM : Hid (RES = (List.range ts.length).all (rowT ts)) := ER.out.symm.trans (tab_rows hl)
  clear ER
  obtain ⟨n, en⟩ : ∃ n, ts.length = n := ⟨_, rfl⟩
  have EN := hide en
  rw [en] at h2 BW HM ZZ SZ hl ⊢
  clear en
  go_enter Try.func29, Try.ntmps29
  have bM : Below (w.alloc (.cells #[.slice a n cap] 34)).heap.size (w.alloc (.cells #[.slice a n cap] 34)) ((w.alloc (.cells #[.slice a n cap] 34)).alloc (.map #[] 0)) := (Below.refl _ _).alloc (Nat.le_refl _) _
  have TM0 := tmap_new (w.alloc (.cells #[.slice a n cap] 34))
  rw [SZ.out] at TM0
  have TM := hide TM0
  have m0 := cell_below bM ZZ.out
  have y0 := ZZ.out
  replace BW := hide (BW.out.trans (bM.mono BW.out.size))
  clear bM ZZ TM0
  have hmm := @run_makeMap Try.prog
  by_cases h0 : n = 0
  · subst h0
    have HD : Hid (RES = true) := HM.out.trans rfl
    obtain rfl : ts = [] := List.length_eq_zero_iff.1 EN.out
    go_wp2
    clear hmm
    generalize (w.alloc (.cells #[.slice a 0 cap] 34)).alloc (.map #[] 0) = V at TM BW m0 ⊢
    refine wp_loop_rounds 1 ?_
    rw [rounds_succ]
    go_wp2
    exact bodyPost_ret (v := .tuple #[.map (some (w.heap.size + 1)), .bool true]) (by simp [results, Try.results29, go_sem]) rfl ⟨_, by rw [HD.out], (fun _ => ⟨_, rfl, TM.out, by omega⟩), BW.out⟩
  obtain ⟨rfl, hc⟩ := H4.out.resolve_left (fun e => h0 (by rw [← EN.out, e]; rfl))
  have HC := hide hc
  clear hc H4
  go_wp2
  clear hmm
  generalize (w.alloc (.cells #[.slice (some ⟨B, off, none⟩) n cap] 34)).alloc (.map #[] 0) = V at TM BW m0 ⊢
  clear m0 y0
  go_loopw [18] (fun i wr => ∃ k : Nat, k ≤ n ∧ i = .int .i64 k ∧ Hid (∀ j, j < k → rowT ts j = true) ∧ Hid (TMap wr (w.heap.size + 1) (ts.take k)) ∧ Hid (Below w.heap.size w wr)) (fun i _ => n - (intOf i).toNat)
  case atStart => exact ⟨0, by omega, rfl, (fun j hj => by omega), TM, BW⟩
  case round =>
    obtain ⟨k, hk, rfl, HE, HT, HB⟩ := hrel
    clear TM BW
    by_cases hlt : k < n
    case neg =>
      have HD : Hid (RES = true) := HM.out.trans (all_yes fun j hj => HE.out j (by omega))
      have ek : ts.take k = ts := by rw [List.take_of_length_le]; rw [EN.out]; omega
      rw [ek] at HT
      clear ek
      go_wp2
      exact bodyPost_ret (v := .tuple #[.map (some (w.heap.size + 1)), .bool true]) (by simp [results, Try.results29, go_sem]) rfl ⟨_, by rw [HD.out], (fun _ => ⟨_, rfl, HT.out, by omega⟩), HB.out⟩
    obtain ⟨t, et⟩ : ∃ t, ts[k]? = some t := ⟨_, List.getElem?_eq_getElem (by rw [EN.out]; exact hlt)⟩
    obtain ⟨c0, c1, qx, cx, bx, qy, cy, b, c2, px, c3, py⟩ := (HC.out k t et).below HB.out
    have ET := hide et
    have lk : ((k : Nat) : Int) < (n : Nat) := by omega
    have bA : Below wr.heap.size wr (wr.alloc (.cells #[.int .i64 t.kd, .int .i64 t.k, .slice qx t.x.length cx, .slice qy t.y.length cy] 42)) := (Below.refl _ _).alloc (Nat.le_refl _) _
    have RA := hide (Rec.new wr [.int .i64 t.kd, .int .i64 t.k, .slice qx t.x.length cx, .slice qy t.y.length cy] 42)
    have PX := hide (px.below bA)
    have PY := hide (py.below bA)
    replace HT := hide (HT.out.below bA)
    replace HB := hide (HB.out.trans (bA.mono HB.out.size))
    clear et px py bA
    go_wp2_with fail
    generalize wr.alloc (.cells #[.int .i64 t.kd, .int .i64 t.k, .slice qx t.x.length cx, .slice qy t.y.length cy] 42) = W1 at RA PX PY HT HB ⊢
    clear c0 c1 c2 c3
    refine (atomOk t k qx cx qy cy bx b _ PX.out PY.out).mono ?_
    rintro e u ⟨rfl, hb⟩
    replace RA := hide (RA.out.below hb)
    replace PX := hide (PX.out.below hb)
    replace PY := hide (PY.out.below hb)
    replace HT := hide (HT.out.below hb)
    replace HB := hide (HB.out.trans (hb.mono HB.out.size))
    clear hb
    cases ei : atomB t k with
    | false =>
      have HD : Hid (RES = false) := HM.out.trans (all_no hlt (row_atom ET.out ei))
      clear ei
      go_wp2
      exact bodyPost_ret (v := .tuple #[.map none, .bool false]) (by simp [results, Try.results29, go_sem]) rfl ⟨_, by rw [HD.out], (fun h => by rw [HD.out] at h; cases h), HB.out⟩
    | true =>
      have EI := hide ei
      have KO := hide (atom_kok ei)
      clear ei
      have c0 := RA.out.cell 0 _ rfl
      have c1 := RA.out.cell 1 _ rfl
      have c2 := RA.out.cell 2 _ rfl
      have c3 := RA.out.cell 3 _ rfl
      go_wp2_with fail
      refine (keyOf' t qx cx qy cy bx b _ PX.out PY.out KO.out.x KO.out.y).mono ?_
      rintro e u2 ⟨rfl, hb⟩
      have HK0 := key_of KO.out
      unfold kv at HK0 ⊢
      obtain ⟨X, eX⟩ : ∃ X, sumTxt t.x = X := ⟨_, rfl⟩
      obtain ⟨Y, eY⟩ : ∃ Y, sumTxt t.y = Y := ⟨_, rfl⟩
      rw [eX, eY] at HK0 ⊢
      have HK := hide HK0
      have bK : Below u2.heap.size u2 (u2.alloc (.cells #[.int .i64 t.kd, .int .i64 t.k, .string ⟨X.toArray⟩, .string ⟨Y.toArray⟩] 67)) := (Below.refl _ _).alloc (Nat.le_refl _) _
      have RK := Rec.new u2 [.int .i64 t.kd, .int .i64 t.k, .string ⟨X.toArray⟩, .string ⟨Y.toArray⟩] 67
      have HT2 := (HT.out.below hb).below bK
      have HB1 := HB.out.trans (hb.mono HB.out.size)
      have HB2 := hide (HB1.trans (bK.mono HB1.size))
      have RKH := hide RK
      clear HB1 c0 c1 c2 c3 eX eY HK0 hb bK RA PX PY HT HB
      obtain ⟨nn, D, hown, hnn, hhas, hat⟩ := HT2
      have HH := hide hhas
      have HA := hide hat
      have hkl : (ts.take k).length = k := by rw [List.length_take, EN.out]; omega
      have HKL := hide hkl
      rw [hkl] at hnn
      have k0 := RK.cell 0 _ rfl
      have k1 := RK.cell 1 _ rfl
      have k2 := RK.cell 2 _ rfl
      have k3 := RK.cell 3 _ rfl
      have wfK : (Lit.int .i64 (k : Int)).wf = true := wf_small (by omega) (by omega)
      clear hhas hat hkl RK RKH
      cases hh : Maps.has D (keyL t) with
      | true =>
        have HD : Hid (RES = false) := show _ = _ by
          have h5 := HH.out (keyB t)
          rw [show Lit.string (keyB t) = keyL t from rfl, hh] at h5
          obtain ⟨j, s, h6, h7, h8⟩ := has_found (by rw [EN.out]; omega) HE.out KO.out h5.symm
          exact HM.out.trans (all_no hlt (row_same ET.out h7 h6 h8))
        go_wp2_with (at_lookup; refine wpList_lookup_own_ok_int _ rfl _ _ 61 rfl 67 3 .i64 keyed Try.underlying61 Try.underlying3 (Try.zeroValue3 _) (w.heap.size + 1) nn D rfl hown _ _ rfl HK.out ?_; intro c0 hat0 hwc; rw [hh]; refine Hid.out ?_)
        refine hide ?_
        clear hat0 hwc hh
        go_wp2
        exact bodyPost_ret (v := .tuple #[.map none, .bool false]) (by simp [results, Try.results29, go_sem]) rfl ⟨_, by rw [HD.out], (fun h => by rw [HD.out] at h; cases h), HB2.out⟩
      | false =>
        have HN := hide hh
        have HE2 : Hid (∀ j, j < k + 1 → rowT ts j = true) := fun j hj => by
          by_cases ej : j = k
          · subst ej
            have h5 := HH.out (keyB t)
            rw [show Lit.string (keyB t) = keyL t from rfl, HN.out] at h5
            exact row_good ET.out EI.out (has_same (by rw [EN.out]; omega) HE.out KO.out h5.symm)
          · exact HE.out j (by omega)
        go_wp2_with (at_lookup; refine wpList_lookup_own_ok_int _ rfl _ _ 61 rfl 67 3 .i64 keyed Try.underlying61 Try.underlying3 (Try.zeroValue3 _) (w.heap.size + 1) nn D rfl hown _ _ rfl HK.out ?_; intro c0 hat0 hwc; rw [hh]; refine Hid.out ?_)
        refine hide ?_
        clear hat0 hwc hh
        go_wp2_with (at_mapUpdate; refine wpList_mapUpdate_own _ rfl _ _ _ 61 rfl 67 3 keyed Try.underlying61 _ (w.heap.size + 1) nn D rfl hown (by unfold maxLen; omega) _ _ _ rfl rfl HK.out (.lit (.int .i64 (k : Int))) [] (plainElem_int Try.underlying3 wfK) ?_; intro w3 hown3 hgrow3; refine Hid.out ?_)
        have hmap := hown.isMap
        rw [show (k : Int) = ((ts.take k).length : Int) by rw [HKL.out]] at hown3
        have TP := tmap_put (w := w3) hmap (by rw [HKL.out]; exact hnn) HH.out HA.out HN.out hown3
        have ek : ts.take k ++ [t] = ts.take (k + 1) := by rw [List.take_add_one, ET.out]; rfl
        rw [ek] at TP
        have TP2 := hide TP
        have HB3 := hide (HB2.out.trans ((Below.refl w.heap.size _).grown hgrow3 HB2.out.size (fun j e => by cases e; omega)))
        clear TP ek hmap hown3 hgrow3 hown HB2
        refine hide ?_
        go_wp2
        exact ⟨⟨k + 1, by omega, by go_num, HE2, TP2, HB3⟩, by simp [intOf]; omega⟩
theorem implTab (ts : List At) (B : Nat) (v : Value) (w : World) (h : TRow w B v ts) :
    Calls Try.prog 43 #[.agg #[v]] w fun e w' => e = .returned (.bool (tabB ts)) ∧ Below w.heap.size w w' := by
  have bV : Below w.heap.size w (w.alloc (.cells #[v] 34)) := (Below.refl _ _).alloc (Nat.le_refl _) _
  have H := hide (h.below bV)
  have BW := hide bV
  obtain ⟨a, cap, off, rfl, _⟩ := h
  clear bV
  go_enter Try.func43, Try.ntmps43
  go_wp2_with fail
  refine (placesOf ts B _ _ H.out).mono ?_
  rintro e u ⟨mv, rfl, -, hb⟩
  replace BW := hide (BW.out.trans (hb.mono BW.out.size))
  clear hb
  go_wp2
  go_ret
  exact ⟨rfl, BW.out⟩
end Go.Proofs.Ytagfgbkclopoeaa.Tab
