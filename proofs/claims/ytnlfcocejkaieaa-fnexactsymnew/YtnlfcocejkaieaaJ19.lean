/-
  What a sum comes to: the program's partComesTo and PolEval, and the specification's PolEval.
  A word at a place: both sides.
  The program's placesOf and TabOk.
  What atoms come to, as lists; an int appended to a list that the call made.
  What atoms come to: the program's TabVals.
  One atom more: the specification's TabPut.
  The program's copied: a list of ints in memory of its own.
-/
import Derived.Test.YtnlfcocejkaieaaJ18
import Derived.Test.YtnlfcocejkaieaaJ13
import Derived.Test.YtnlfcocejkaieaaJ17
import Derived.Test.YtnlfcocejkaieaaJ16
import Derived.Test.YtnlfcocejkaieaaJ02
import Derived.Laws.CopyOwn
namespace Go.Proofs.Ytnlfcocejkaieaa.Pol
open Go.ChangeShapes Go.WideShapes Go.ChangeAt Go.RowKit IntS
def valAt (vals : List Int) (k : Int) : Int := if k < vals.length then vals.getD k.toNat 0 else 0
def evalP (ps : List Mono) (vals : List Int) : Int := if okP ps = true ∧ wordsB vals = true then sumVal vals ps 0 else 0
theorem mono_nil (vals : List Int) (c : Int) : monoVal vals [] c = c := rfl
theorem mono_step {vals at_ : List Int} {j : Nat} {y : Int} (h : at_[j]? = some y) (c : Int) : monoVal vals (at_.drop j) c = monoVal vals (at_.drop (j + 1)) (c * valAt vals y % 65536) := by
  rw [drop_cons h]
  rfl
theorem mono_zero (vals : List Int) : ∀ l : List Int, monoVal vals l 0 = 0
  | [] => rfl
  | k :: l => by rw [monoVal, Int.zero_mul]; exact mono_zero vals l
theorem mono_none {vals at_ : List Int} {j : Nat} {y : Int} (h : at_[j]? = some y) (c : Int) (hy : ¬ y < vals.length) : monoVal vals (at_.drop j) c = 0 := by
  rw [mono_step h]
  unfold valAt
  rw [if_neg hy, Int.mul_zero]
  exact mono_zero vals _
theorem mono_end {vals at_ : List Int} {j : Nat} (h : at_.length ≤ j) (c : Int) : monoVal vals (at_.drop j) c = c := by rw [List.drop_eq_nil_of_le h]; rfl
theorem sum_step {vals : List Int} {ps : List Mono} {k : Nat} {x : Mono} (h : ps[k]? = some x) (n : Int) : sumVal vals (ps.drop k) n = sumVal vals (ps.drop (k + 1)) ((n + monoVal vals x.2 x.1) % 65536) := by
  rw [drop_cons h]
  rfl
theorem sum_end {vals : List Int} {ps : List Mono} {k : Nat} (h : ps.length ≤ k) (n : Int) : sumVal vals (ps.drop k) n = n := by rw [List.drop_eq_nil_of_le h]; rfl
theorem eval_no {ps : List Mono} {vals : List Int} (h : ¬ (okP ps = true ∧ wordsB vals = true)) : evalP ps vals = 0 := if_neg h
theorem eval_yes {ps : List Mono} {vals : List Int} (h1 : okP ps = true) (h2 : wordsB vals = true) : evalP ps vals = sumVal vals ps 0 := if_pos ⟨h1, h2⟩
theorem val_bd {vals : List Int} (h : wordsB vals = true) (k : Int) : 0 ≤ valAt vals k ∧ valAt vals k < 65536 := by
  unfold valAt
  split
  · rw [List.getD_eq_getElem?_getD]
    cases hx : vals[k.toNat]? with
    | none => simp
    | some x => exact words_mem h x (List.mem_of_getElem? hx)
  · omega
theorem val_in {vals : List Int} {k : Nat} {x : Int} (h : vals[k]? = some x) : valAt vals k = x := by
  unfold valAt
  rw [if_pos (by have := (List.getElem?_eq_some_iff.1 h).1; omega), Int.toNat_natCast]
  exact getD_at h
theorem val_out {vals : List Int} {k : Int} (h : ¬ k < vals.length) : valAt vals k = 0 := if_neg h
theorem mono_bd {vals : List Int} : ∀ (l : List Int) (c : Int), 0 ≤ c → c < 65536 → 0 ≤ monoVal vals l c ∧ monoVal vals l c < 65536
  | [], c, h0, h1 => ⟨h0, h1⟩
  | k :: l, c, h0, h1 => by rw [monoVal]; exact mono_bd l _ (by omega) (by omega)
theorem ok_mono {ps : List Mono} {k : Nat} {x : Mono} (h : okP ps = true) (hx : ps[k]? = some x) : monoB x = true := by
  unfold okP at h
  simp only [Bool.and_eq_true] at h
  have := all_at h.2 (List.getElem?_eq_some_iff.1 hx).1
  unfold partAt at this
  simp only [Bool.and_eq_true] at this
  rw [getD_part hx] at this
  exact this.1
theorem mono_coef2 {c : Int} {at_ : List Int} (h : monoB (c, at_) = true) : 1 ≤ c ∧ c ≤ 65535 := by
  unfold monoB at h
  simp only [Bool.and_eq_true] at h
  exact of_decide_eq_true h.1.1
theorem mono_atom2 {c : Int} {at_ : List Int} (h : monoB (c, at_) = true) {j : Nat} {y : Int} (hy : at_[j]? = some y) : 0 ≤ y ∧ y < 200 := by
  unfold monoB at h
  simp only [Bool.and_eq_true] at h
  have := all_at h.2 (List.getElem?_eq_some_iff.1 hy).1
  simp only [Bool.and_eq_true] at this
  have h2 := this.1
  unfold atomAt at h2
  rw [getD_at hy] at h2
  exact of_decide_eq_true h2
end Go.Proofs.Ytnlfcocejkaieaa.Pol
namespace Go.Proofs.Ytnlfcocejkaieaa.Tab
set_option linter.unusedVariables false
open Go.ChangeShapes Go.WideShapes Go.ChangeAt Go.RowKit IntS Pol
/-- The word at a place; 0, if there is none. -/
def atI (xs : List Int) (k : Int) : Int := if 0 ≤ k ∧ k < xs.length then xs.getD k.toNat 0 else 0
theorem at_no {xs : List Int} {k : Int} (h : ¬ (0 ≤ k ∧ k < xs.length)) : atI xs k = 0 := if_neg h
theorem at_yes {xs : List Int} {k : Nat} {x : Int} (h : xs[k]? = some x) : atI xs k = x := by
  have := (List.getElem?_eq_some_iff.1 h).1
  unfold atI
  rw [if_pos (by omega), Int.toNat_natCast]
  exact getD_at h
end Go.Proofs.Ytnlfcocejkaieaa.Tab
namespace Go.Proofs.Ytnlfcocejkaieaa.Tab
set_option linter.unusedVariables false
open Go.ChangeShapes Go.WideShapes Go.ChangeAt Go.RowKit Go.Shelf IntS Pol Rng
theorem rows_kok {ts : List At} {k : Nat} (h : ∀ j, j < k → rowT ts j = true) {j : Nat} {s : At} (hj : j < k) (hs : ts[j]? = some s) : KOk s := by
  have h1 := h j hj
  unfold rowT at h1
  rw [getD_atom hs, Bool.and_eq_true] at h1
  exact atom_kok h1.1
theorem has_same {ts : List At} {k : Nat} {t : At} (hk : k ≤ ts.length) (h : ∀ j, j < k → rowT ts j = true) (ht : KOk t) (hno : ((ts.take k).any fun s => decide (keyB s = keyB t)) = false) : ∀ (j : Nat) s, j < k → ts[j]? = some s → sameB s t = false := fun j s hj hs => by
  rw [same_key (rows_kok h hj hs) ht]
  rw [List.any_eq_false] at hno
  have hm : s ∈ ts.take k := List.mem_of_getElem? (i := j) (by rw [List.getElem?_take, if_pos hj]; exact hs)
  simpa using hno s hm
theorem has_found {ts : List At} {k : Nat} {t : At} (hk : k ≤ ts.length) (h : ∀ j, j < k → rowT ts j = true) (ht : KOk t) (hyes : ((ts.take k).any fun s => decide (keyB s = keyB t)) = true) : ∃ (j : Nat) (s : At), j < k ∧ ts[j]? = some s ∧ sameB s t = true := by
  rw [List.any_eq_true] at hyes
  obtain ⟨s, hm, he⟩ := hyes
  obtain ⟨j, hj⟩ := List.getElem?_of_mem hm
  rw [List.getElem?_take] at hj
  by_cases e : j < k
  · rw [if_pos e] at hj
    exact ⟨j, s, e, hj, by rw [same_key (rows_kok h e hj) ht]; exact he⟩
  · rw [if_neg e] at hj
    cases hj
set_option maxRecDepth 8000 in
set_option maxHeartbeats 16000000 in
theorem placesOf (ts : List At) (B : Nat) (v : Value) (w : World) (h : TRow w B v ts) :
    Calls Try.prog 29 #[.agg #[v]] w fun e w' => ∃ mv, e = .returned (.tuple #[mv, .bool (tabB ts)]) ∧ (tabB ts = true → ∃ b, mv = .map (some b) ∧ TMap w' b ts ∧ w.heap.size ≤ b) ∧ Below w.heap.size w w' := by
  obtain ⟨a, cap, off, rfl, h2, h3, hz, h4⟩ := h
  unfold maxLen at h3
  clear hz
  have bV : Below w.heap.size w (w.alloc (.cells #[.slice a ts.length cap] 24)) := (Below.refl _ _).alloc (Nat.le_refl _) _
  have BW := hide bV
  have ZZ : Hid ((w.alloc (.cells #[.slice a ts.length cap] 24)).cell? ⟨w.heap.size, 0, none⟩ = some (.slice a ts.length cap)) := show _ = _ by rw [World.cell?_alloc_new]; rfl
  have SZ : Hid ((w.alloc (.cells #[.slice a ts.length cap] 24)).heap.size = w.heap.size + 1) := show _ = _ by simp
  have H4 := hide h4
  clear bV h4
  obtain ⟨RES, eRES⟩ : ∃ r, tabB ts = r := ⟨_, rfl⟩
  rw [eRES]
  have ER := hide eRES
  clear eRES
  by_cases hl : ts.length ≤ 200
  case neg =>
    have HD : Hid (RES = false) := ER.out.symm.trans (tab_long hl)
    generalize ts.length = n at *
    have hl' : ¬ ((n : Int) ≤ 200) := by omega
    go_enter Try.func29, Try.ntmps29
    go_wp2
    exact bodyPost_ret (v := .tuple #[.map none, .bool false]) (by simp [results, Try.results29, go_sem]) rfl ⟨_, by rw [HD.out], (fun h => by rw [HD.out] at h; cases h), BW.out⟩
  have HM : Hid (RES = (List.range ts.length).all (rowT ts)) := ER.out.symm.trans (tab_rows hl)
  clear ER
  obtain ⟨n, en⟩ : ∃ n, ts.length = n := ⟨_, rfl⟩
  have EN := hide en
  rw [en] at h2 BW HM ZZ SZ hl ⊢
  clear en
  go_enter Try.func29, Try.ntmps29
  have bM : Below (w.alloc (.cells #[.slice a n cap] 24)).heap.size (w.alloc (.cells #[.slice a n cap] 24)) ((w.alloc (.cells #[.slice a n cap] 24)).alloc (.map #[] 0)) := (Below.refl _ _).alloc (Nat.le_refl _) _
  have TM0 := tmap_new (w.alloc (.cells #[.slice a n cap] 24))
  rw [SZ.out] at TM0
  have TM := hide TM0
  have m0 := cell_below bM ZZ.out
  have y0 := ZZ.out
  replace BW := hide (BW.out.trans (bM.mono BW.out.size))
  clear bM ZZ TM0
  have hmm := @run_makeMap Try.prog
  by_cases h0 : n = 0
  · subst h0
    have HD : Hid (RES = true) := HM.out.trans rfl
    obtain rfl : ts = [] := List.length_eq_zero_iff.1 EN.out
    go_wp2
    clear hmm
    generalize (w.alloc (.cells #[.slice a 0 cap] 24)).alloc (.map #[] 0) = V at TM BW m0 ⊢
    refine wp_loop_rounds 1 ?_
    rw [rounds_succ]
    go_wp2
    exact bodyPost_ret (v := .tuple #[.map (some (w.heap.size + 1)), .bool true]) (by simp [results, Try.results29, go_sem]) rfl ⟨_, by rw [HD.out], (fun _ => ⟨_, rfl, TM.out, by omega⟩), BW.out⟩
  obtain ⟨rfl, hc⟩ := H4.out.resolve_left (fun e => h0 (by rw [← EN.out, e]; rfl))
  have HC := hide hc
  clear hc H4
  go_wp2
  clear hmm
  generalize (w.alloc (.cells #[.slice (some ⟨B, off, none⟩) n cap] 24)).alloc (.map #[] 0) = V at TM BW m0 ⊢
  clear m0 y0
  go_loopw [18] (fun i wr => ∃ k : Nat, k ≤ n ∧ i = .int .i64 k ∧ Hid (∀ j, j < k → rowT ts j = true) ∧ Hid (TMap wr (w.heap.size + 1) (ts.take k)) ∧ Hid (Below w.heap.size w wr)) (fun i _ => n - (intOf i).toNat)
  case atStart => exact ⟨0, by omega, rfl, (fun j hj => by omega), TM, BW⟩
  case round =>
    obtain ⟨k, hk, rfl, HE, HT, HB⟩ := hrel
    clear TM BW
    by_cases hlt : k < n
    case neg =>
      have HD : Hid (RES = true) := HM.out.trans (all_yes fun j hj => HE.out j (by omega))
      have ek : ts.take k = ts := by rw [List.take_of_length_le]; rw [EN.out]; omega
      rw [ek] at HT
      clear ek
      go_wp2
      exact bodyPost_ret (v := .tuple #[.map (some (w.heap.size + 1)), .bool true]) (by simp [results, Try.results29, go_sem]) rfl ⟨_, by rw [HD.out], (fun _ => ⟨_, rfl, HT.out, by omega⟩), HB.out⟩
    obtain ⟨t, et⟩ : ∃ t, ts[k]? = some t := ⟨_, List.getElem?_eq_getElem (by rw [EN.out]; exact hlt)⟩
    obtain ⟨c0, c1, qx, cx, bx, qy, cy, b, c2, px, c3, py⟩ := (HC.out k t et).below HB.out
    have ET := hide et
    have lk : ((k : Nat) : Int) < (n : Nat) := by omega
    have bA : Below wr.heap.size wr (wr.alloc (.cells #[.int .i64 t.kd, .int .i64 t.k, .slice qx t.x.length cx, .slice qy t.y.length cy] 37)) := (Below.refl _ _).alloc (Nat.le_refl _) _
    have RA := hide (Rec.new wr [.int .i64 t.kd, .int .i64 t.k, .slice qx t.x.length cx, .slice qy t.y.length cy] 37)
    have PX := hide (px.below bA)
    have PY := hide (py.below bA)
    replace HT := hide (HT.out.below bA)
    replace HB := hide (HB.out.trans (bA.mono HB.out.size))
    clear et px py bA
    go_wp2_with fail
    generalize wr.alloc (.cells #[.int .i64 t.kd, .int .i64 t.k, .slice qx t.x.length cx, .slice qy t.y.length cy] 37) = W1 at RA PX PY HT HB ⊢
    clear c0 c1 c2 c3
    refine (atomOk t k qx cx qy cy bx b _ PX.out PY.out).mono ?_
    rintro e u ⟨rfl, hb⟩
    replace RA := hide (RA.out.below hb)
    replace PX := hide (PX.out.below hb)
    replace PY := hide (PY.out.below hb)
    replace HT := hide (HT.out.below hb)
    replace HB := hide (HB.out.trans (hb.mono HB.out.size))
    clear hb
    cases ei : atomB t k with
    | false =>
      have HD : Hid (RES = false) := HM.out.trans (all_no hlt (row_atom ET.out ei))
      clear ei
      go_wp2
      exact bodyPost_ret (v := .tuple #[.map none, .bool false]) (by simp [results, Try.results29, go_sem]) rfl ⟨_, by rw [HD.out], (fun h => by rw [HD.out] at h; cases h), HB.out⟩
    | true =>
      have EI := hide ei
      have KO := hide (atom_kok ei)
      clear ei
      have c0 := RA.out.cell 0 _ rfl
      have c1 := RA.out.cell 1 _ rfl
      have c2 := RA.out.cell 2 _ rfl
      have c3 := RA.out.cell 3 _ rfl
      go_wp2_with fail
      refine (keyOf' t qx cx qy cy bx b _ PX.out PY.out KO.out.x KO.out.y).mono ?_
      rintro e u2 ⟨rfl, hb⟩
      have HK0 := key_of KO.out
      unfold kv at HK0 ⊢
      obtain ⟨X, eX⟩ : ∃ X, sumTxt t.x = X := ⟨_, rfl⟩
      obtain ⟨Y, eY⟩ : ∃ Y, sumTxt t.y = Y := ⟨_, rfl⟩
      rw [eX, eY] at HK0 ⊢
      have HK := hide HK0
      have bK : Below u2.heap.size u2 (u2.alloc (.cells #[.int .i64 t.kd, .int .i64 t.k, .string ⟨X.toArray⟩, .string ⟨Y.toArray⟩] 72)) := (Below.refl _ _).alloc (Nat.le_refl _) _
      have RK := Rec.new u2 [.int .i64 t.kd, .int .i64 t.k, .string ⟨X.toArray⟩, .string ⟨Y.toArray⟩] 72
      have HT2 := (HT.out.below hb).below bK
      have HB1 := HB.out.trans (hb.mono HB.out.size)
      have HB2 := hide (HB1.trans (bK.mono HB1.size))
      have RKH := hide RK
      clear HB1 c0 c1 c2 c3 eX eY HK0 hb bK RA PX PY HT HB
      obtain ⟨nn, D, hown, hnn, hhas, hat⟩ := HT2
      have HH := hide hhas
      have HA := hide hat
      have hkl : (ts.take k).length = k := by rw [List.length_take, EN.out]; omega
      have HKL := hide hkl
      rw [hkl] at hnn
      have k0 := RK.cell 0 _ rfl
      have k1 := RK.cell 1 _ rfl
      have k2 := RK.cell 2 _ rfl
      have k3 := RK.cell 3 _ rfl
      have wfK : (Lit.int .i64 (k : Int)).wf = true := wf_small (by omega) (by omega)
      clear hhas hat hkl RK RKH
      cases hh : Maps.has D (keyL t) with
      | true =>
        have HD : Hid (RES = false) := show _ = _ by
          have h5 := HH.out (keyB t)
          rw [show Lit.string (keyB t) = keyL t from rfl, hh] at h5
          obtain ⟨j, s, h6, h7, h8⟩ := has_found (by rw [EN.out]; omega) HE.out KO.out h5.symm
          exact HM.out.trans (all_no hlt (row_same ET.out h7 h6 h8))
        go_wp2_with (at_lookup; refine wpList_lookup_own_ok_int _ rfl _ _ 65 rfl 72 3 .i64 keyed Try.underlying65 Try.underlying3 (Try.zeroValue3 _) (w.heap.size + 1) nn D rfl hown _ _ rfl HK.out ?_; intro c0 hat0 hwc; rw [hh]; refine Hid.out ?_)
        refine hide ?_
        clear hat0 hwc hh
        go_wp2
        exact bodyPost_ret (v := .tuple #[.map none, .bool false]) (by simp [results, Try.results29, go_sem]) rfl ⟨_, by rw [HD.out], (fun h => by rw [HD.out] at h; cases h), HB2.out⟩
      | false =>
        have HN := hide hh
        have HE2 : Hid (∀ j, j < k + 1 → rowT ts j = true) := fun j hj => by
          by_cases ej : j = k
          · subst ej
            have h5 := HH.out (keyB t)
            rw [show Lit.string (keyB t) = keyL t from rfl, HN.out] at h5
            exact row_good ET.out EI.out (has_same (by rw [EN.out]; omega) HE.out KO.out h5.symm)
          · exact HE.out j (by omega)
        go_wp2_with (at_lookup; refine wpList_lookup_own_ok_int _ rfl _ _ 65 rfl 72 3 .i64 keyed Try.underlying65 Try.underlying3 (Try.zeroValue3 _) (w.heap.size + 1) nn D rfl hown _ _ rfl HK.out ?_; intro c0 hat0 hwc; rw [hh]; refine Hid.out ?_)
        refine hide ?_
        clear hat0 hwc hh
        go_wp2_with (at_mapUpdate; refine wpList_mapUpdate_own _ rfl _ _ _ 65 rfl 72 3 keyed Try.underlying65 _ (w.heap.size + 1) nn D rfl hown (by unfold maxLen; omega) _ _ _ rfl rfl HK.out (.lit (.int .i64 (k : Int))) [] (plainElem_int Try.underlying3 wfK) ?_; intro w3 hown3 hgrow3; refine Hid.out ?_)
        have hmap := hown.isMap
        rw [show (k : Int) = ((ts.take k).length : Int) by rw [HKL.out]] at hown3
        have TP := tmap_put (w := w3) hmap (by rw [HKL.out]; exact hnn) HH.out HA.out HN.out hown3
        have ek : ts.take k ++ [t] = ts.take (k + 1) := by rw [List.take_add_one, ET.out]; rfl
        rw [ek] at TP
        have TP2 := hide TP
        have HB3 := hide (HB2.out.trans ((Below.refl w.heap.size _).grown hgrow3 HB2.out.size (fun j e => by cases e; omega)))
        clear TP ek hmap hown3 hgrow3 hown HB2
        refine hide ?_
        go_wp2
        exact ⟨⟨k + 1, by omega, by go_num, HE2, TP2, HB3⟩, by simp [intOf]; omega⟩
end Go.Proofs.Ytnlfcocejkaieaa.Tab
namespace Go.Proofs.Ytnlfcocejkaieaa.Tab
set_option linter.unusedVariables false
open Go.ChangeShapes Go.WideShapes Go.ChangeAt Go.RowKit Go.Shelf IntS Pol Rng
def valOf (regs loads ins : List Int) (t : At) (vals : List Int) : Int := if t.kd = 1 then atI regs t.k else if t.kd = 2 then atI loads t.k else if t.kd = 3 then atI ins t.k else Wrd.wdo t.k (evalP t.x vals) (evalP t.y vals)
def valsGo (regs loads ins : List Int) : List At → List Int → List Int
  | [], vals => vals
  | t :: r, vals => valsGo regs loads ins r (vals ++ [valOf regs loads ins t vals])
theorem valsGo_app (regs loads ins : List Int) : ∀ (a b : List At) (vals : List Int), valsGo regs loads ins (a ++ b) vals = valsGo regs loads ins b (valsGo regs loads ins a vals)
  | [], b, vals => rfl
  | t :: a, b, vals => valsGo_app regs loads ins a b _
theorem vals_next {regs loads ins : List Int} {ts : List At} {k : Nat} {t : At} (h : ts[k]? = some t) : valsGo regs loads ins (ts.take (k + 1)) [] = valsGo regs loads ins (ts.take k) [] ++ [valOf regs loads ins t (valsGo regs loads ins (ts.take k) [])] := by
  rw [List.take_add_one, h, valsGo_app]
  rfl
theorem valsGo_len (regs loads ins : List Int) : ∀ (a : List At) (vals : List Int), (valsGo regs loads ins a vals).length = vals.length + a.length
  | [], vals => rfl
  | t :: a, vals => by
    show (valsGo regs loads ins a _).length = _
    rw [valsGo_len]
    simp
    omega
theorem own_row {w : World} {base : Nat} {v : Value} {xs : List Int} (h : IntS.Own w base v xs) : ∃ B, Row w B v xs := by
  by_cases e : v = .slice none 0 0
  · subst e
    obtain ⟨hl, h0 | ⟨g, cap, cur, hv, _⟩⟩ := h
    · have : xs = [] := List.length_eq_zero_iff.1 h0.2
      subst this
      exact ⟨0, (nil_row w 0).row⟩
    · cases hv
  · obtain ⟨g, cap, e1, _, _, W⟩ := h.form e
    exact ⟨g, W.row⟩
theorem own_below {w w' : World} {base : Nat} {v : Value} {xs : List Int} (h : IntS.Own w base v xs) (hb : Below w.heap.size w w') : IntS.Own w' base v xs := Srt.owns_mild (B := 0) h (Mild.of_below hb)
/-- An int appended to a list of ints that the call made, nil too. -/
theorem wpList_pushV {w : World} {ops : Array Oper} {rest : List Oper} {o : Oper} {a : Act} {Q : Exit → Act → World → Prop} (hgd : o.guard = none) (s x : Operand)
    (ho : o.op = .call { callee := .builtin .append, args := #[s, x], argTypes := #[51, 51] })
    (base : Nat) (v : Value) (xs : List Int) (hs : a.eval s = v) (hown : IntS.Own w base v xs) (hb : base ≤ w.heap.size)
    (ad : Addr) (y : Int) (hx : a.eval x = .slice (some ad) 1 1) (hc : w.cell? (ad.add 0) = some (.int .i64 y)) (hl : xs.length ≤ 1000000)
    (h : ∀ (v' : Value) (w' : World), Hid (IntS.Own w' base v' (xs ++ [y])) → Hid (Below base w w') → wpList Try.prog ops Q rest (a.put o.dst v') w') : wpList Try.prog ops Q (o :: rest) a w := by
  obtain ⟨i0, hi, hz, hsz, hby⟩ := info_int
  have hlt := hown.lt
  refine wpList_append_own w hgd s x 51 ho base 3 i0 (.int .i64 0) 1 8 Try.underlying51 hi hz hsz hby rfl (by decide) v xs.length (vals xs) hs hown ad 1 1 [.int .i64 y] hx rfl (fun j u hu => ?_) (fun u hu => by simp at hu; subst hu; rfl) (by unfold maxLen; omega) (by omega) hb fun v' w' h1 h2 h3 => ?_
  · match j, hu with
    | 0, hu => cases hu; exact hc
    | j + 1, hu => simp at hu
  · have g1 : IntS.Own w' base v' (xs ++ [y]) := by
      unfold IntS.Own
      rw [List.length_append, show vals (xs ++ [y]) = vals xs ++ [.int .i64 y] by simp [vals]]
      exact h1
    exact h v' w' g1 ((Below.refl base w).grown h2 hb (fun k e => (hlt k e).1))
end Go.Proofs.Ytnlfcocejkaieaa.Tab
namespace Go.Proofs.Ytnlfcocejkaieaa.Tab
set_option linter.unusedVariables false
open Go.ChangeShapes Go.WideShapes Go.ChangeAt Go.RowKit Go.Shelf IntS Pol Rng
def valsP (ts : List At) (regs loads ins : List Int) : List Int := if tabB ts = true ∧ wordsB regs = true ∧ wordsB loads = true ∧ wordsB ins = true then valsGo regs loads ins ts [] else []
theorem vals_no {ts : List At} {regs loads ins : List Int} (h : ¬ (tabB ts = true ∧ wordsB regs = true ∧ wordsB loads = true ∧ wordsB ins = true)) : valsP ts regs loads ins = [] := if_neg h
theorem tab_atom {ts : List At} (h : tabB ts = true) {k : Nat} {t : At} (ht : ts[k]? = some t) : atomB t k = true := by
  unfold tabB at h
  rw [Bool.and_eq_true] at h
  have h1 := all_at h.2 (List.getElem?_eq_some_iff.1 ht).1
  unfold rowT at h1
  rw [getD_atom ht, Bool.and_eq_true] at h1
  exact h1.1
theorem atom_kinds {t : At} {n : Int} (h : atomB t n = true) : (t.kd = 1 ∨ t.kd = 2 ∨ t.kd = 3 ∨ t.kd = 4) ∧ 0 ≤ t.k ∧ t.k ≤ 199 := by
  by_cases e1 : t.kd = 1
  · rw [atom_reg e1, Bool.and_eq_true] at h
    have := in_iff h.1
    omega
  · by_cases e2 : t.kd = 2 ∨ t.kd = 3
    · rw [atom_in e2, Bool.and_eq_true] at h
      have := in_iff h.1
      omega
    · by_cases e4 : t.kd = 4
      · rw [atom_do e4] at h
        simp only [Bool.and_eq_true] at h
        have := in_iff h.1.1.1.1
        omega
      · rw [atom_no e1 (fun h => e2 (Or.inl h)) (fun h => e2 (Or.inr h)) e4] at h
        cases h
end Go.Proofs.Ytnlfcocejkaieaa.Tab
namespace Go.Proofs.Ytnlfcocejkaieaa.Tab
set_option linter.unusedVariables false
set_option linter.unusedSimpArgs false
open Go.ChangeShapes Go.WideShapes Go.ChangeAt Go.RowKit IntS Pol Push
theorem keep_low {lo : Nat} {w w' : World} (h : Below lo w w') : Keep (fun b => lo ≤ b) w w' := ⟨h.os, h.tape, h.output, h.size, fun k _ hn => h.block k (by omega)⟩
theorem tab_fine {ts : List At} (h : tabB ts = true) : (∀ t ∈ ts, FineA t) ∧ ts.length ≤ 200 := by
  refine ⟨fun t ht => ?_, ?_⟩
  · obtain ⟨k, hk⟩ := List.getElem?_of_mem ht
    exact fine_of (tab_atom h hk)
  · unfold tabB at h
    rw [Bool.and_eq_true] at h
    exact of_decide_eq_true h.1
end Go.Proofs.Ytnlfcocejkaieaa.Tab
namespace Go.Proofs.Ytnlfcocejkaieaa.Copd
open Go.ChangeShapes Go.WideShapes Go.ChangeAt Go.RowKit IntS
theorem sizeInt : (Try.prog.info? 3).map (·.size) = some 1 := by kernel_rfl
theorem made_zero (n : Nat) : madeCells #[.int .i64 0] n = (List.replicate n (Value.int .i64 0)).toArray := by
  apply Array.ext'
  simp [madeCells, Nat.mod_one]
  rw [List.eq_replicate_iff]
  refine ⟨by simp, fun b hb => ?_⟩
  simp at hb
  exact hb.2.symm
theorem made_heap (w : World) (n : Nat) (t : TypeId) : (w.alloc (.cells (madeCells #[.int .i64 0] n) t)).heap[w.heap.size]? = some (.cells (List.replicate n (Value.int .i64 0)).toArray t (0, 0)) := by
  rw [made_zero]
  exact (MapKept.heap_alloc w _).1
theorem own_full {w : World} {g n : Nat} {xs : List Int} (hn : xs.length = n) (hm : n ≤ maxLen) (hg : w.heap[g]? = some (.cells (vals xs).toArray 3 (0, 0))) : IntS.Own w g (.slice (some ⟨g, 0, none⟩) n n) xs := by
  subst hn
  refine ⟨by simp [vals], Or.inr ⟨g, xs.length, (vals xs).toArray, rfl, Nat.le_refl _, hg, Nat.le_refl _, hm, by simp [vals], ?_⟩⟩
  rw [List.take_of_length_le (by simp [vals])]
theorem splice_all {xs : List Int} {n : Nat} (hn : xs.length = n) : splice (List.replicate n (Value.int .i64 0)) 0 (vals xs) = vals xs := by
  simp [splice, vals, hn]
theorem one_vals {xs : List Int} : ∀ v ∈ vals xs, v.oneCell' = true := fun v hv => by
  obtain ⟨y, _, rfl⟩ := List.mem_map.1 hv
  rfl
theorem row_src {w : World} {B n cap : Nat} {xs : List Int} {a : Option Addr} (h : Row w B (.slice a n cap) xs) (h0 : 0 < (vals xs).length) : ∃ ad, a = some ad ∧ ∀ j v, (vals xs)[j]? = some v → w.cell? (ad.add j) = some v := by
  obtain ⟨a', cap', off', hv, _, _, _, h4⟩ := h
  cases hv
  rcases h4 with h4 | ⟨h4, h5⟩
  · subst h4; simp [vals] at h0
  · refine ⟨_, h4, fun j v hv => ?_⟩
    rw [Go.WideShapes.add_plain]
    simp only [vals, List.getElem?_map, Option.map_eq_some_iff] at hv
    obtain ⟨y, hy, rfl⟩ := hv
    exact h5 j y hy
set_option maxHeartbeats 2000000 in
set_option maxRecDepth 8000 in
theorem copied (xs : List Int) (B : Nat) (v : Value) (w : World) (h : Row w B v xs) (hn : xs.length ≤ 2000000) :
    Calls Try.prog 43 #[v] w fun e w' => ∃ g : Nat, e = .returned (.slice (some ⟨g, 0, none⟩) xs.length xs.length) ∧ IntS.Own w' g (.slice (some ⟨g, 0, none⟩) xs.length xs.length) xs ∧ w.heap.size ≤ g ∧ g < w'.heap.size ∧ Below w.heap.size w w' := by
  have HR := hide h
  obtain ⟨a, cap, off, rfl, h2, h3, hz, h4⟩ := h
  obtain ⟨n, en⟩ : ∃ n, xs.length = n := ⟨_, rfl⟩
  unfold maxLen at h3
  have hmk := run_make_row' (P := Try.prog) 51 3 (.int .i64 0) 8 Try.underlying51 (by kernel_rfl) rfl .i64 .i64 n (by omega) (by omega) w
  have HB := hide ((Below.refl w.heap.size w).alloc (Nat.le_refl _) (.cells (madeCells #[.int .i64 0] n) 3))
  have HG := hide (made_heap w n 3)
  have H4 := hide h4
  have EN := hide en
  rw [en] at h2 hn ⊢
  have HN := hide hn
  clear h4 en hz hn
  go_enter Try.func43, Try.ntmps43
  have L1 : Hid ((vals xs).length = Nat.min n n) := show _ = _ by rw [vals_len, EN.out]; exact (Nat.min_self n).symm
  have L2 : Hid (0 + (vals xs).length ≤ (List.replicate n (Value.int .i64 0)).length) := show _ ≤ _ by rw [vals_len, EN.out]; simp
  have L3 : Hid (0 < (vals xs).length → some (⟨w.heap.size, 0, none⟩ : Addr) = some ⟨w.heap.size, 0, none⟩ ∧ ∃ ad, a = some ad ∧ ∀ j v, (vals xs)[j]? = some v → (w.alloc (.cells (madeCells #[.int .i64 0] n) 3)).cell? (ad.add j) = some v) := fun h0 => ⟨rfl, row_src (HR.out.below HB.out) h0⟩
  go_wp2_with (refine wpList_copy_splice rfl (.tmp 7) (.tmp 8) 51 51 rfl 3 Try.underlying51 sizeInt (some ⟨w.heap.size, 0, none⟩) a n n n cap rfl rfl w.heap.size 0 (List.replicate n (Value.int .i64 0)) 3 HG.out (vals xs) L1.out L3.out L2.out one_vals w.heap.size w HB.out (Nat.le_refl _) ?_; intro w2 HG2 HB2)
  rw [splice_all EN.out] at HG2
  have HO := hide (own_full EN.out (by have := HN.out; unfold maxLen; omega) HG2.out)
  clear HG2 HG HB
  replace HB2 := hide HB2
  go_wp2
  go_ret
  exact ⟨w.heap.size, rfl, HO.out, Nat.le_refl _, HO.out.isT.lt, HB2.out⟩
end Go.Proofs.Ytnlfcocejkaieaa.Copd
