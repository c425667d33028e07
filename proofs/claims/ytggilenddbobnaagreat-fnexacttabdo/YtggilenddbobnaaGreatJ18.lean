/-
  Lists of words: the program's allWords and the specification's l1Words.
  What a sum comes to: the program's partComesTo and PolEval, and the specification's PolEval.
  A word at a place: both sides.
  The program's placesOf and TabOk.
  What atoms come to, as lists; an int appended to a list that the call made.
  What atoms come to: the program's TabVals.
  One atom more: the specification's TabPut.
  What is reckoned of two sums of atoms: the specification's TabDo.
  Parts that are put together by the texts of their atoms: what they come to, and that a sum in order which has the same words is the only one.
  Parts by the text of their atoms in a map: the program's put.
-/
import Derived.Test.YtggilenddbobnaaGreatAl
import Derived.Test.YtggilenddbobnaaGreatJ03
import Derived.Test.YtggilenddbobnaaGreatJ13
import Derived.Test.YtggilenddbobnaaGreatJ15
import Derived.Test.YtggilenddbobnaaGreatJ08
import Derived.Test.YtggilenddbobnaaGreatJ16
import Derived.Test.YtggilenddbobnaaGreatJ17
import Derived.Test.YtggilenddbobnaaGreatJ07
import Derived.Test.YtggilenddbobnaaGreatJ14
import Derived.Maps.OwnOps
import Derived.Maps.OwnSet
import Derived.StringKeys
namespace Go.Proofs.YtggilenddbobnaaGreat.Pol
open Go.ChangeShapes Go.WideShapes Go.ChangeAt Go.RowKit IntS
end Go.Proofs.YtggilenddbobnaaGreat.Pol
namespace Go.Proofs.YtggilenddbobnaaGreat.Pol
open Go.ChangeShapes Go.WideShapes Go.ChangeAt Go.RowKit IntS
end Go.Proofs.YtggilenddbobnaaGreat.Pol
namespace Go.Proofs.YtggilenddbobnaaGreat.Tab
set_option linter.unusedVariables false
open Go.ChangeShapes Go.WideShapes Go.ChangeAt Go.RowKit IntS Pol
end Go.Proofs.YtggilenddbobnaaGreat.Tab
namespace Go.Proofs.YtggilenddbobnaaGreat.Tab
set_option linter.unusedVariables false
open Go.ChangeShapes Go.WideShapes Go.ChangeAt Go.RowKit Go.Shelf IntS Pol Rng
theorem rows_kok {ts : List At} {k : Nat} (h : ∀ j, j < k → rowT ts j = true) {j : Nat} {s : At} (hj : j < k) (hs : ts[j]? = some s) : KOk s := by
 have h1 := h j hj
 unfold rowT at h1
 rw [getD_atom hs, Bool.and_eq_true] at h1
 exact atom_kok h1.1
theorem has_same {ts : List At} {k : Nat} {t : At} (hk : k ≤ ts.length) (h : ∀ j, j < k → rowT ts j = true) (ht : KOk t) (hno : ((ts.take k).any fun s => decide (keyB s = keyB t)) = false) : ∀ (j : Nat) s, j < k → ts[j]? = some s → sameB s t = false := fun j s hj hs => by
 rw [same_key (rows_kok h hj hs) ht]
 rw [List.any_eq_false] at hno
 have hm : s ∈ ts.take k := List.mem_of_getElem? (i := j) (by rw [List.getElem?_take, if_pos hj]; exact hs)
 simpa using hno s hm
theorem has_found {ts : List At} {k : Nat} {t : At} (hk : k ≤ ts.length) (h : ∀ j, j < k → rowT ts j = true) (ht : KOk t) (hyes : ((ts.take k).any fun s => decide (keyB s = keyB t)) = true) : ∃ (j : Nat) (s : At), j < k ∧ ts[j]? = some s ∧ sameB s t = true := by
 rw [List.any_eq_true] at hyes
 obtain ⟨s, hm, he⟩ := hyes
 obtain ⟨j, hj⟩ := List.getElem?_of_mem hm
 rw [List.getElem?_take] at hj
 by_cases e : j < k
 · rw [if_pos e] at hj
   exact ⟨j, s, e, hj, by rw [same_key (rows_kok h e hj) ht]; exact he⟩
 · rw [if_neg e] at hj
   cases hj
set_option maxRecDepth 8000 in
set_option maxHeartbeats 16000000 in
theorem placesOf (ts : List At) (B : Nat) (v : Value) (w : World) (h : TRow w B v ts) :
 Calls Tryz.prog 53 #[.agg #[v]] w fun e w' => ∃ mv, e = .returned (.tuple #[mv, .bool (tabB ts)]) ∧ (tabB ts = true → ∃ b, mv = .map (some b) ∧ TMap w' b ts ∧ w.heap.size ≤ b) ∧ Below w.heap.size w w' := by
 obtain ⟨a, cap, off, rfl, h2, h3, hz, h4⟩ := h
 unfold maxLen at h3
 clear hz
 have bV : Below w.heap.size w (w.alloc (.cells #[.slice a ts.length cap] 32)) := (Below.refl _ _).alloc (Nat.le_refl _) _
 have BW := hide bV
 have ZZ : Hid ((w.alloc (.cells #[.slice a ts.length cap] 32)).cell? ⟨w.heap.size, 0, none⟩ = some (.slice a ts.length cap)) := show _ = _ by rw [World.cell?_alloc_new]; rfl
 have SZ : Hid ((w.alloc (.cells #[.slice a ts.length cap] 32)).heap.size = w.heap.size + 1) := show _ = _ by simp
 have H4 := hide h4
 clear bV h4
 obtain ⟨RES, eRES⟩ : ∃ r, tabB ts = r := ⟨_, rfl⟩
 rw [eRES]
 have ER := hide eRES
 clear eRES
 by_cases hl : ts.length ≤ 200
 case neg =>
  have HD : Hid (RES = false) := ER.out.symm.trans (tab_long hl)
  generalize ts.length = n at *
  have hl' : ¬ ((n : Int) ≤ 200) := by omega
  go_enter Tryz.func53, Tryz.ntmps53
  go_wp2
  exact bodyPost_ret (v := .tuple #[.map none, .bool false]) (by simp [results, Tryz.results53, go_sem]) rfl ⟨_, by rw [HD.out], (fun h => by rw [HD.out] at h; cases h), BW.out⟩
 have HM : Hid (RES = (List.range ts.length).all (rowT ts)) := ER.out.symm.trans (tab_rows hl)
 clear ER
 obtain ⟨n, en⟩ : ∃ n, ts.length = n := ⟨_, rfl⟩
 have EN := hide en
 rw [en] at h2 BW HM ZZ SZ hl ⊢
 clear en
 go_enter Tryz.func53, Tryz.ntmps53
 have bM : Below (w.alloc (.cells #[.slice a n cap] 32)).heap.size (w.alloc (.cells #[.slice a n cap] 32)) ((w.alloc (.cells #[.slice a n cap] 32)).alloc (.map #[] 0)) := (Below.refl _ _).alloc (Nat.le_refl _) _
 have TM0 := tmap_new (w.alloc (.cells #[.slice a n cap] 32))
 rw [SZ.out] at TM0
 have TM := hide TM0
 have m0 := cell_below bM ZZ.out
 have y0 := ZZ.out
 replace BW := hide (BW.out.trans (bM.mono BW.out.size))
 clear bM ZZ TM0
 have hmm := @run_makeMap Tryz.prog
 by_cases h0 : n = 0
 · subst h0
   have HD : Hid (RES = true) := HM.out.trans rfl
   obtain rfl : ts = [] := List.length_eq_zero_iff.1 EN.out
   go_wp2
   clear hmm
   generalize (w.alloc (.cells #[.slice a 0 cap] 32)).alloc (.map #[] 0) = V at TM BW m0 ⊢
   refine wp_loop_rounds 1 ?_
   rw [rounds_succ]
   go_wp2
   exact bodyPost_ret (v := .tuple #[.map (some (w.heap.size + 1)), .bool true]) (by simp [results, Tryz.results53, go_sem]) rfl ⟨_, by rw [HD.out], (fun _ => ⟨_, rfl, TM.out, by omega⟩), BW.out⟩
 obtain ⟨rfl, hc⟩ := H4.out.resolve_left (fun e => h0 (by rw [← EN.out, e]; rfl))
 have HC := hide hc
 clear hc H4
 go_wp2
 clear hmm
 generalize (w.alloc (.cells #[.slice (some ⟨B, off, none⟩) n cap] 32)).alloc (.map #[] 0) = V at TM BW m0 ⊢
 clear m0 y0
 go_loopw [18] (fun i wr => ∃ k : Nat, k ≤ n ∧ i = .int .i64 k ∧ Hid (∀ j, j < k → rowT ts j = true) ∧ Hid (TMap wr (w.heap.size + 1) (ts.take k)) ∧ Hid (Below w.heap.size w wr)) (fun i _ => n - (intOf i).toNat)
 case atStart => exact ⟨0, by omega, rfl, (fun j hj => by omega), TM, BW⟩
 case round =>
  obtain ⟨k, hk, rfl, HE, HT, HB⟩ := hrel
  clear TM BW
  by_cases hlt : k < n
  case neg =>
   have HD : Hid (RES = true) := HM.out.trans (all_yes fun j hj => HE.out j (by omega))
   have ek : ts.take k = ts := by rw [List.take_of_length_le]; rw [EN.out]; omega
   rw [ek] at HT
   clear ek
   go_wp2
   exact bodyPost_ret (v := .tuple #[.map (some (w.heap.size + 1)), .bool true]) (by simp [results, Tryz.results53, go_sem]) rfl ⟨_, by rw [HD.out], (fun _ => ⟨_, rfl, HT.out, by omega⟩), HB.out⟩
  obtain ⟨t, et⟩ : ∃ t, ts[k]? = some t := ⟨_, List.getElem?_eq_getElem (by rw [EN.out]; exact hlt)⟩
  obtain ⟨c0, c1, qx, cx, bx, qy, cy, b, c2, px, c3, py⟩ := (HC.out k t et).below HB.out
  have ET := hide et
  have lk : ((k : Nat) : Int) < (n : Nat) := by omega
  have bA : Below wr.heap.size wr (wr.alloc (.cells #[.int .i64 t.kd, .int .i64 t.k, .slice qx t.x.length cx, .slice qy t.y.length cy] 63)) := (Below.refl _ _).alloc (Nat.le_refl _) _
  have RA := hide (Rec.new wr [.int .i64 t.kd, .int .i64 t.k, .slice qx t.x.length cx, .slice qy t.y.length cy] 63)
  have PX := hide (px.below bA)
  have PY := hide (py.below bA)
  replace HT := hide (HT.out.below bA)
  replace HB := hide (HB.out.trans (bA.mono HB.out.size))
  clear et px py bA
  go_wp2_with fail
  generalize wr.alloc (.cells #[.int .i64 t.kd, .int .i64 t.k, .slice qx t.x.length cx, .slice qy t.y.length cy] 63) = W1 at RA PX PY HT HB ⊢
  clear c0 c1 c2 c3
  refine (atomOk t k qx cx qy cy bx b _ PX.out PY.out).mono ?_
  rintro e u ⟨rfl, hb⟩
  replace RA := hide (RA.out.below hb)
  replace PX := hide (PX.out.below hb)
  replace PY := hide (PY.out.below hb)
  replace HT := hide (HT.out.below hb)
  replace HB := hide (HB.out.trans (hb.mono HB.out.size))
  clear hb
  cases ei : atomB t k with
  | false =>
   have HD : Hid (RES = false) := HM.out.trans (all_no hlt (row_atom ET.out ei))
   clear ei
   go_wp2
   exact bodyPost_ret (v := .tuple #[.map none, .bool false]) (by simp [results, Tryz.results53, go_sem]) rfl ⟨_, by rw [HD.out], (fun h => by rw [HD.out] at h; cases h), HB.out⟩
  | true =>
   have EI := hide ei
   have KO := hide (atom_kok ei)
   clear ei
   have c0 := RA.out.cell 0 _ rfl
   have c1 := RA.out.cell 1 _ rfl
   have c2 := RA.out.cell 2 _ rfl
   have c3 := RA.out.cell 3 _ rfl
   go_wp2_with fail
   refine (keyOf' t qx cx qy cy bx b _ PX.out PY.out KO.out.x KO.out.y).mono ?_
   rintro e u2 ⟨rfl, hb⟩
   have HK0 := key_of KO.out
   unfold kv at HK0 ⊢
   obtain ⟨X, eX⟩ : ∃ X, sumTxt t.x = X := ⟨_, rfl⟩
   obtain ⟨Y, eY⟩ : ∃ Y, sumTxt t.y = Y := ⟨_, rfl⟩
   rw [eX, eY] at HK0 ⊢
   have HK := hide HK0
   have bK : Below u2.heap.size u2 (u2.alloc (.cells #[.int .i64 t.kd, .int .i64 t.k, .string ⟨X.toArray⟩, .string ⟨Y.toArray⟩] 94)) := (Below.refl _ _).alloc (Nat.le_refl _) _
   have RK := Rec.new u2 [.int .i64 t.kd, .int .i64 t.k, .string ⟨X.toArray⟩, .string ⟨Y.toArray⟩] 94
   have HT2 := (HT.out.below hb).below bK
   have HB1 := HB.out.trans (hb.mono HB.out.size)
   have HB2 := hide (HB1.trans (bK.mono HB1.size))
   have RKH := hide RK
   clear HB1 c0 c1 c2 c3 eX eY HK0 hb bK RA PX PY HT HB
   obtain ⟨nn, D, hown, hnn, hhas, hat⟩ := HT2
   have HH := hide hhas
   have HA := hide hat
   have hkl : (ts.take k).length = k := by rw [List.length_take, EN.out]; omega
   have HKL := hide hkl
   rw [hkl] at hnn
   have k0 := RK.cell 0 _ rfl
   have k1 := RK.cell 1 _ rfl
   have k2 := RK.cell 2 _ rfl
   have k3 := RK.cell 3 _ rfl
   have wfK : (Lit.int .i64 (k : Int)).wf = true := wf_small (by omega) (by omega)
   clear hhas hat hkl RK RKH
   cases hh : Maps.has D (keyL t) with
   | true =>
    have HD : Hid (RES = false) := show _ = _ by
     have h5 := HH.out (keyB t)
     rw [show Lit.string (keyB t) = keyL t from rfl, hh] at h5
     obtain ⟨j, s, h6, h7, h8⟩ := has_found (by rw [EN.out]; omega) HE.out KO.out h5.symm
     exact HM.out.trans (all_no hlt (row_same ET.out h7 h6 h8))
    go_wp2_with (at_lookup; refine wpList_lookup_own_ok_int _ rfl _ _ 84 rfl 94 3 .i64 keyed Tryz.underlying84 Tryz.underlying3 (Tryz.zeroValue3 _) (w.heap.size + 1) nn D rfl hown _ _ rfl HK.out ?_; intro c0 hat0 hwc; rw [hh]; refine Hid.out ?_)
    refine hide ?_
    clear hat0 hwc hh
    go_wp2
    exact bodyPost_ret (v := .tuple #[.map none, .bool false]) (by simp [results, Tryz.results53, go_sem]) rfl ⟨_, by rw [HD.out], (fun h => by rw [HD.out] at h; cases h), HB2.out⟩
   | false =>
    have HN := hide hh
    have HE2 : Hid (∀ j, j < k + 1 → rowT ts j = true) := fun j hj => by
     by_cases ej : j = k
     · subst ej
       have h5 := HH.out (keyB t)
       rw [show Lit.string (keyB t) = keyL t from rfl, HN.out] at h5
       exact row_good ET.out EI.out (has_same (by rw [EN.out]; omega) HE.out KO.out h5.symm)
     · exact HE.out j (by omega)
    go_wp2_with (at_lookup; refine wpList_lookup_own_ok_int _ rfl _ _ 84 rfl 94 3 .i64 keyed Tryz.underlying84 Tryz.underlying3 (Tryz.zeroValue3 _) (w.heap.size + 1) nn D rfl hown _ _ rfl HK.out ?_; intro c0 hat0 hwc; rw [hh]; refine Hid.out ?_)
    refine hide ?_
    clear hat0 hwc hh
    go_wp2_with (at_mapUpdate; refine wpList_mapUpdate_own _ rfl _ _ _ 84 rfl 94 3 keyed Tryz.underlying84 _ (w.heap.size + 1) nn D rfl hown (by unfold maxLen; omega) _ _ _ rfl rfl HK.out (.lit (.int .i64 (k : Int))) [] (plainElem_int Tryz.underlying3 wfK) ?_; intro w3 hown3 hgrow3; refine Hid.out ?_)
    have hmap := hown.isMap
    rw [show (k : Int) = ((ts.take k).length : Int) by rw [HKL.out]] at hown3
    have TP := tmap_put (w := w3) hmap (by rw [HKL.out]; exact hnn) HH.out HA.out HN.out hown3
    have ek : ts.take k ++ [t] = ts.take (k + 1) := by rw [List.take_add_one, ET.out]; rfl
    rw [ek] at TP
    have TP2 := hide TP
    have HB3 := hide (HB2.out.trans ((Below.refl w.heap.size _).grown hgrow3 HB2.out.size (fun j e => by cases e; omega)))
    clear TP ek hmap hown3 hgrow3 hown HB2
    refine hide ?_
    go_wp2
    exact ⟨⟨k + 1, by omega, by go_num, HE2, TP2, HB3⟩, by simp [intOf]; omega⟩
theorem implTab (ts : List At) (B : Nat) (v : Value) (w : World) (h : TRow w B v ts) :
 Calls Tryz.prog 25 #[.agg #[v]] w fun e w' => e = .returned (.bool (tabB ts)) ∧ Below w.heap.size w w' := by
 have bV : Below w.heap.size w (w.alloc (.cells #[v] 32)) := (Below.refl _ _).alloc (Nat.le_refl _) _
 have H := hide (h.below bV)
 have BW := hide bV
 obtain ⟨a, cap, off, rfl, _⟩ := h
 clear bV
 go_enter Tryz.func25, Tryz.ntmps25
 go_wp2_with fail
 refine (placesOf ts B _ _ H.out).mono ?_
 rintro e u ⟨mv, rfl, -, hb⟩
 replace BW := hide (BW.out.trans (hb.mono BW.out.size))
 clear hb
 go_wp2
 go_ret
 exact ⟨rfl, BW.out⟩
end Go.Proofs.YtggilenddbobnaaGreat.Tab
namespace Go.Proofs.YtggilenddbobnaaGreat.Tab
set_option linter.unusedVariables false
open Go.ChangeShapes Go.WideShapes Go.ChangeAt Go.RowKit Go.Shelf IntS Pol Rng
end Go.Proofs.YtggilenddbobnaaGreat.Tab
namespace Go.Proofs.YtggilenddbobnaaGreat.Tab
set_option linter.unusedVariables false
open Go.ChangeShapes Go.WideShapes Go.ChangeAt Go.RowKit Go.Shelf IntS Pol Rng
theorem tab_atom {ts : List At} (h : tabB ts = true) {k : Nat} {t : At} (ht : ts[k]? = some t) : atomB t k = true := by
 unfold tabB at h
 rw [Bool.and_eq_true] at h
 have h1 := all_at h.2 (List.getElem?_eq_some_iff.1 ht).1
 unfold rowT at h1
 rw [getD_atom ht, Bool.and_eq_true] at h1
 exact h1.1
end Go.Proofs.YtggilenddbobnaaGreat.Tab
namespace Go.Proofs.YtggilenddbobnaaGreat.Tab
set_option linter.unusedVariables false
set_option linter.unusedSimpArgs false
open Go.ChangeShapes Go.WideShapes Go.ChangeAt Go.RowKit IntS Pol Push
theorem keep_low {lo : Nat} {w w' : World} (h : Below lo w w') : Keep (fun b => lo ≤ b) w w' := ⟨h.os, h.tape, h.output, h.size, fun k _ hn => h.block k (by omega)⟩
theorem tab_fine {ts : List At} (h : tabB ts = true) : (∀ t ∈ ts, FineA t) ∧ ts.length ≤ 200 := by
 refine ⟨fun t ht => ?_, ?_⟩
 · obtain ⟨k, hk⟩ := List.getElem?_of_mem ht
   exact fine_of (tab_atom h hk)
 · unfold tabB at h
   rw [Bool.and_eq_true] at h
   exact of_decide_eq_true h.1
end Go.Proofs.YtggilenddbobnaaGreat.Tab
namespace Go.Proofs.YtggilenddbobnaaGreat.Tab
set_option linter.unusedVariables false
set_option linter.unusedSimpArgs false
open Go.ChangeShapes Go.WideShapes Go.ChangeAt Go.RowKit IntS Pol Push
def dosB (ts : List At) (op : Int) (x y : List Mono) : Bool := tabB ts && inI op 1 5 && sumsB x y ts.length
def dosT (ts : List At) (op : Int) (x y : List Mono) : List At := if dosB ts op x y = true then doT ts op x y else []
def dosP (ts : List At) (op : Int) (x y : List Mono) : List Mono := if dosB ts op x y = true then doP ts op x y else []
theorem dos_no {ts : List At} {op : Int} {x y : List Mono} (h : dosB ts op x y = false) : dosT ts op x y = [] ∧ dosP ts op x y = [] := by
 unfold dosT dosP
 rw [h]
 exact ⟨rfl, rfl⟩
theorem dos_yes {ts : List At} {op : Int} {x y : List Mono} (h : dosB ts op x y = true) : dosT ts op x y = doT ts op x y ∧ dosP ts op x y = doP ts op x y := by
 unfold dosT dosP
 rw [h]
 exact ⟨rfl, rfl⟩
theorem sums_ok {x y : List Mono} {n : Int} (h : sumsB x y n = true) : okP x = true ∧ okP y = true := by
 unfold sumsB at h
 simp only [Bool.and_eq_true] at h
 exact h.1.1
theorem Five.low {lo n : Nat} {T X Y : List Value} {u u' : World} (h : Five n T X Y u) (hb : Below lo u u') (hl : n + 4 < lo) : Five n T X Y u' :=
 ⟨h.t.keep (keep_low hb) (fun (e : lo ≤ n) => by omega), h.x.keep (keep_low hb) (fun (e : lo ≤ n + 1) => by omega), h.y.keep (keep_low hb) (fun (e : lo ≤ n + 1 + 1) => by omega), h.z.keep (keep_low hb) (fun (e : lo ≤ n + 1 + 1 + 1) => by omega), h.p.keep (keep_low hb) (fun (e : lo ≤ n + 1 + 1 + 1 + 1) => by omega)⟩
set_option maxRecDepth 8000 in
set_option maxHeartbeats 16000000 in
theorem specDo (ts : List At) (op : Int) (x y : List Mono) (B Bx By : Nat) (v vx vy : Value) (w : World) (h : TRow w B v ts) (hx : PRow w Bx vx x) (hy : PRow w By vy y) :
 Calls Tryz.prog 6 #[.agg #[v], .int .i64 op, .agg #[vx], .agg #[vy]] w fun e w' => Told2 w w.heap.size w' e (dosT ts op x y) (dosP ts op x y) := by
 obtain ⟨qx, cx, offx, rfl, hx'⟩ := hx
 obtain ⟨qy, cy, offy, rfl, hy'⟩ := hy
 have hx : PRow w Bx (.slice qx x.length cx) x := ⟨qx, cx, offx, rfl, hx'⟩
 have hy : PRow w By (.slice qy y.length cy) y := ⟨qy, cy, offy, rfl, hy'⟩
 obtain ⟨q0, cap0, off, rfl, h2⟩ := h
 have h : TRow w B (.slice q0 ts.length cap0) ts := ⟨q0, cap0, off, rfl, h2⟩
 obtain ⟨-, h3, -⟩ := h2
 unfold maxLen at h3
 obtain ⟨f5, bn⟩ := Five.new w [.slice q0 ts.length cap0] [.slice qx x.length cx] [.slice qy y.length cy] 32 35 35 32 35
 have F := hide f5
 have H := hide (h.below bn)
 have HX := hide (hx.below bn)
 have HY := hide (hy.below bn)
 have BW := hide bn
 clear f5 bn hx hy hx' hy' h
 go_enter Tryz.func6, Tryz.ntmps6
 go_wp2_with fail
 generalize (((((w.alloc (.cells #[.slice q0 ts.length cap0] 32)).alloc (.cells #[.slice qx x.length cx] 35)).alloc (.cells #[.slice qy y.length cy] 35)).alloc (.cells #[.slice none 0 0] 32)).alloc (.cells #[.slice none 0 0] 35)) = V at F H HX HY BW ⊢
 have t0 := F.out.t.cell 0 _ rfl
 go_wp2_with fail
 refine (specTab ts B _ _ H.out).mono ?_
 rintro e u1 ⟨rfl, hb⟩
 clear t0
 replace F := hide (F.out.below hb)
 replace H := hide (H.out.below hb)
 replace HX := hide (HX.out.below hb)
 replace HY := hide (HY.out.below hb)
 replace BW := hide (BW.out.trans (hb.mono BW.out.size))
 clear hb
 by_cases e1 : tabB ts = true
 case neg =>
  rw [Bool.not_eq_true] at e1
  have PE := hide (dos_no (op := op) (x := x) (y := y) (show dosB ts op x y = false by unfold dosB; rw [e1]; rfl))
  rw [e1]
  clear e1
  have z0 := F.out.z.cell 0 _ rfl
  have s0 := F.out.z.soft 0
  have z1 := F.out.p.cell 0 _ rfl
  have s1 := F.out.p.soft 0
  have N1 : Turn (w.heap.size + 1 + 1 + 1) u1 (u1.setCell ⟨w.heap.size + 1 + 1 + 1, 0, none⟩ (.slice none 0 0)) := (Turn.refl _ _).setCell (p := ⟨w.heap.size + 1 + 1 + 1, 0, none⟩) rfl _
  have N2 : Turn (w.heap.size + 1 + 1 + 1 + 1) (u1.setCell ⟨w.heap.size + 1 + 1 + 1, 0, none⟩ (.slice none 0 0)) ((u1.setCell ⟨w.heap.size + 1 + 1 + 1, 0, none⟩ (.slice none 0 0)).setCell ⟨w.heap.size + 1 + 1 + 1 + 1, 0, none⟩ (.slice none 0 0)) := (Turn.refl _ _).setCell (p := ⟨w.heap.size + 1 + 1 + 1 + 1, 0, none⟩) rfl _
  have R0 := hide ((F.out.z.set 0 (.slice none 0 0) (by simp) rfl).turn N2 (by omega))
  have R1 := hide ((F.out.p.turn N1 (by omega)).set 0 (.slice none 0 0) (by simp) rfl)
  have TF := hide (told_cast (told_nil (u := w) (Nat.le_refl _) ((BW.out.trans (N1.below (by omega) BW.out.size)).trans (N2.below (by omega) (Nat.le_trans BW.out.size N1.size)))) PE.out.1.symm PE.out.2.symm)
  clear F H HX HY N1 N2 BW
  go_wp2
  generalize ((u1.setCell ⟨w.heap.size + 1 + 1 + 1, 0, none⟩ (.slice none 0 0)).setCell ⟨w.heap.size + 1 + 1 + 1 + 1, 0, none⟩ (.slice none 0 0)) = y9 at R0 R1 TF ⊢
  have r0 := R0.out.cell 0 _ rfl
  have r1 := R1.out.cell 0 _ rfl
  exact bodyPost_ret (v := .tuple #[.agg #[.slice none 0 0], .agg #[.slice none 0 0]]) (by simp [results, Tryz.results6, go_sem, r0, r1]) rfl TF.out
 have FT := hide (tab_fine e1)
 have E1 := hide e1
 rw [e1]
 clear e1
 go_wp2_with fail
 refine (l1In op 1 5 _).mono ?_
 rintro e u2 ⟨rfl, hw⟩
 rw [hw]
 clear hw u2
 by_cases e2 : inI op 1 5 = true
 case neg =>
  rw [Bool.not_eq_true] at e2
  have PE := hide (dos_no (x := x) (y := y) (show dosB ts op x y = false by unfold dosB; rw [e2, E1.out]; rfl))
  rw [e2]
  clear e2
  have z0 := F.out.z.cell 0 _ rfl
  have s0 := F.out.z.soft 0
  have z1 := F.out.p.cell 0 _ rfl
  have s1 := F.out.p.soft 0
  have N1 : Turn (w.heap.size + 1 + 1 + 1) u1 (u1.setCell ⟨w.heap.size + 1 + 1 + 1, 0, none⟩ (.slice none 0 0)) := (Turn.refl _ _).setCell (p := ⟨w.heap.size + 1 + 1 + 1, 0, none⟩) rfl _
  have N2 : Turn (w.heap.size + 1 + 1 + 1 + 1) (u1.setCell ⟨w.heap.size + 1 + 1 + 1, 0, none⟩ (.slice none 0 0)) ((u1.setCell ⟨w.heap.size + 1 + 1 + 1, 0, none⟩ (.slice none 0 0)).setCell ⟨w.heap.size + 1 + 1 + 1 + 1, 0, none⟩ (.slice none 0 0)) := (Turn.refl _ _).setCell (p := ⟨w.heap.size + 1 + 1 + 1 + 1, 0, none⟩) rfl _
  have R0 := hide ((F.out.z.set 0 (.slice none 0 0) (by simp) rfl).turn N2 (by omega))
  have R1 := hide ((F.out.p.turn N1 (by omega)).set 0 (.slice none 0 0) (by simp) rfl)
  have TF := hide (told_cast (told_nil (u := w) (Nat.le_refl _) ((BW.out.trans (N1.below (by omega) BW.out.size)).trans (N2.below (by omega) (Nat.le_trans BW.out.size N1.size)))) PE.out.1.symm PE.out.2.symm)
  clear F H HX HY N1 N2 BW
  go_wp2
  generalize ((u1.setCell ⟨w.heap.size + 1 + 1 + 1, 0, none⟩ (.slice none 0 0)).setCell ⟨w.heap.size + 1 + 1 + 1 + 1, 0, none⟩ (.slice none 0 0)) = y9 at R0 R1 TF ⊢
  have r0 := R0.out.cell 0 _ rfl
  have r1 := R1.out.cell 0 _ rfl
  exact bodyPost_ret (v := .tuple #[.agg #[.slice none 0 0], .agg #[.slice none 0 0]]) (by simp [results, Tryz.results6, go_sem, r0, r1]) rfl TF.out
 have E2 := hide e2
 rw [e2]
 clear e2
 have t0 := F.out.t.cell 0 _ rfl
 have x0 := F.out.x.cell 0 _ rfl
 have y0 := F.out.y.cell 0 _ rfl
 go_wp2_with fail
 refine (l5Sums x y ts.length Bx By _ _ _ HX.out HY.out).mono ?_
 rintro e u3 ⟨rfl, hb⟩
 clear t0 x0 y0
 replace F := hide (F.out.below hb)
 replace H := hide (H.out.below hb)
 replace HX := hide (HX.out.below hb)
 replace HY := hide (HY.out.below hb)
 replace BW := hide (BW.out.trans (hb.mono BW.out.size))
 clear hb
 by_cases e3 : sumsB x y ts.length = true
 case neg =>
  rw [Bool.not_eq_true] at e3
  have PE := hide (dos_no (show dosB ts op x y = false by unfold dosB; rw [e3, E1.out, E2.out]; rfl))
  rw [e3]
  clear e3
  have z0 := F.out.z.cell 0 _ rfl
  have s0 := F.out.z.soft 0
  have z1 := F.out.p.cell 0 _ rfl
  have s1 := F.out.p.soft 0
  have N1 : Turn (w.heap.size + 1 + 1 + 1) u3 (u3.setCell ⟨w.heap.size + 1 + 1 + 1, 0, none⟩ (.slice none 0 0)) := (Turn.refl _ _).setCell (p := ⟨w.heap.size + 1 + 1 + 1, 0, none⟩) rfl _
  have N2 : Turn (w.heap.size + 1 + 1 + 1 + 1) (u3.setCell ⟨w.heap.size + 1 + 1 + 1, 0, none⟩ (.slice none 0 0)) ((u3.setCell ⟨w.heap.size + 1 + 1 + 1, 0, none⟩ (.slice none 0 0)).setCell ⟨w.heap.size + 1 + 1 + 1 + 1, 0, none⟩ (.slice none 0 0)) := (Turn.refl _ _).setCell (p := ⟨w.heap.size + 1 + 1 + 1 + 1, 0, none⟩) rfl _
  have R0 := hide ((F.out.z.set 0 (.slice none 0 0) (by simp) rfl).turn N2 (by omega))
  have R1 := hide ((F.out.p.turn N1 (by omega)).set 0 (.slice none 0 0) (by simp) rfl)
  have TF := hide (told_cast (told_nil (u := w) (Nat.le_refl _) ((BW.out.trans (N1.below (by omega) BW.out.size)).trans (N2.below (by omega) (Nat.le_trans BW.out.size N1.size)))) PE.out.1.symm PE.out.2.symm)
  clear F H HX HY N1 N2 BW
  go_wp2
  generalize ((u3.setCell ⟨w.heap.size + 1 + 1 + 1, 0, none⟩ (.slice none 0 0)).setCell ⟨w.heap.size + 1 + 1 + 1 + 1, 0, none⟩ (.slice none 0 0)) = y9 at R0 R1 TF ⊢
  have r0 := R0.out.cell 0 _ rfl
  have r1 := R1.out.cell 0 _ rfl
  exact bodyPost_ret (v := .tuple #[.agg #[.slice none 0 0], .agg #[.slice none 0 0]]) (by simp [results, Tryz.results6, go_sem, r0, r1]) rfl TF.out
 have PE := hide (dos_yes (show dosB ts op x y = true by unfold dosB; rw [e3, E1.out, E2.out]; rfl))
 have OK := hide (sums_ok e3)
 rw [e3]
 clear e3 E1 E2
 go_wp2_with fail
 refine (wpIn_wide (n := 0)).1 ?_
 have bA : Below u3.heap.size u3 u3.drew := (Below.refl _ _).drew
 replace F := hide (F.out.below bA)
 replace H := hide (H.out.below bA)
 replace HX := hide (HX.out.below bA)
 replace HY := hide (HY.out.below bA)
 replace BW := hide (BW.out.trans (bA.mono BW.out.size))
 clear bA
 refine PhaseIn.region (S := fun w' => Rec w.heap.size [.slice q0 ts.length cap0] w' ∧ Rec (w.heap.size + 1) [.slice qx x.length cx] w' ∧ Rec (w.heap.size + 1 + 1) [.slice qy y.length cy] w') 10 (by kernel_rfl) ?_
 generalize u3.drew = d1 at F H HX HY BW ⊢
 have hHeld := And.intro F.out.t (And.intro F.out.x F.out.y)
 refine PhaseIn.takeE (i := 0) (v := ?_) [0, 1, 5, 6, 7, 8, 9] 29 rfl (by rfl) (by kernel_rfl) (fun _ _ _ h => h) (Or.inl ⟨by kernel_rfl, ?_⟩) hHeld ?_
 rotate_left
 · intro w' hSw
   (try dsimp only at hSw)
   have z0 := hSw.1.cell 0 _ rfl
   go_simp
   first | done | with_reducible rfl
 try simp only [Act.put, sA, List.set]
 refine PhaseIn.takeE (i := 2) (v := ?_) [2, 5, 6, 7, 8, 9] 31 rfl (by rfl) (by kernel_rfl) (fun _ _ _ h => h) (Or.inl ⟨by kernel_rfl, ?_⟩) hHeld ?_
 rotate_left
 · intro w' hSw
   (try dsimp only at hSw)
   go_simp
   first | done | with_reducible rfl
 try simp only [Act.put, sA, List.set]
 refine PhaseIn.takeE (i := 3) (v := ?_) [3, 5, 6, 7, 8, 9] 32 rfl (by rfl) (by kernel_rfl) (fun _ _ _ h => h) (Or.inl ⟨by kernel_rfl, ?_⟩) hHeld ?_
 rotate_left
 · intro w' hSw
   (try dsimp only at hSw)
   have z0 := hSw.2.1.cell 0 _ rfl
   go_simp
   first | done | with_reducible rfl
 try simp only [Act.put, sA, List.set]
 refine PhaseIn.takeE (i := 4) (v := ?_) [4, 5, 6, 7, 8, 9] 33 rfl (by rfl) (by kernel_rfl) (fun _ _ _ h => h) (Or.inl ⟨by kernel_rfl, ?_⟩) hHeld ?_
 rotate_left
 · intro w' hSw
   (try dsimp only at hSw)
   have z0 := hSw.2.2.cell 0 _ rfl
   go_simp
   first | done | with_reducible rfl
 try simp only [Act.put, sA, List.set]
 refine PhaseIn.one (i := 1) (by kernel_rfl) rfl (by kernel_rfl) (fun K hK => ?_)
 unfold Oper.wpIn
 refine ⟨fun _ _ => trivial, ?_⟩
 go_simp
 refine ⟨rfl, (callsIn_wide.2 (l5Copy ts B _ _ H.out FT.out.1 (by have := FT.out.2; omega))).mono ?_⟩
 rintro e u4 ⟨q, cap, cs, l, m, hh, rfl, OT, hb⟩
 have hHeld4 := And.intro (hHeld.1.below hb) (And.intro (hHeld.2.1.below hb) (hHeld.2.2.below hb))
 refine hK _ _ (fun _ => hHeld4) ?_
 replace OT := hide OT
 have DL : Hid (w.heap.size + 1 + 1 + 1 + 1 < d1.heap.size) := F.out.p.lt
 have DS : Hid (d1.heap.size ≤ u4.heap.size) := hb.size
 clear hK K hHeld
 replace F := hide (F.out.below hb)
 replace H := hide (H.out.below hb)
 replace HX := hide (HX.out.below hb)
 replace HY := hide (HY.out.below hb)
 replace BW := hide (BW.out.trans (hb.mono BW.out.size))
 clear hb
 try simp only [Act.put, sA, List.set]
 refine PhaseIn.one (i := 5) (by kernel_rfl) rfl (by kernel_rfl) (fun K hK => ?_)
 unfold Oper.wpIn
 refine ⟨fun _ _ => trivial, ?_⟩
 go_simp
 refine ⟨rfl, (callsIn_wide.2 (l5Do ts op x y d1.heap.size cap q cs l m hh Bx By _ _ _ OT.out DS.out HX.out HY.out FT.out.2 OK.out.1 OK.out.2)).mono ?_⟩
 rintro e u5 ⟨⟨q', cap', cs', l', m', h', mid, pa, pl, pc, rfl, ON, og, oh, lm, MP⟩, hb⟩
 replace F := hide (F.out.low hb DL.out)
 have hHeld5 := And.intro F.out.t (And.intro F.out.x F.out.y)
 refine hK _ _ (fun _ => hHeld5) ?_
 replace ON := hide ON
 replace MP := hide MP
 have OG := hide og
 have OH := hide oh
 have LM := hide lm
 replace BW := hide (BW.out.trans (hb.mono (by have := DL.out; omega)))
 clear hK K hb hHeld4 OT HX HY H og oh lm
 try simp only [Act.put, sA, List.set]
 refine PhaseIn.takeE (i := 6) (v := ?_) [6, 8, 9] 35 rfl (by rfl) (by kernel_rfl) (fun _ _ _ h => h) (Or.inl ⟨by kernel_rfl, ?_⟩) hHeld5 ?_
 rotate_left
 · intro w' hSw
   (try dsimp only at hSw)
   go_simp
   first | done | with_reducible rfl
 try simp only [Act.put, sA, List.set]
 refine PhaseIn.takeE (i := 7) (v := ?_) [7, 8, 9] 36 rfl (by rfl) (by kernel_rfl) (fun _ _ _ h => h) (Or.inl ⟨by kernel_rfl, ?_⟩) hHeld5 ?_
 rotate_left
 · intro w' hSw
   (try dsimp only at hSw)
   go_simp
   first | done | with_reducible rfl
 try simp only [Act.put, sA, List.set]
 have z0 := F.out.z.cell 0 _ rfl
 have s0 := F.out.z.soft 0
 refine PhaseIn.one (i := 8) (by kernel_rfl) rfl (by kernel_rfl) (fun K hK => ?_)
 unfold Oper.wpIn
 refine ⟨fun _ _ => trivial, ?_⟩
 go_simp
 have t1 : Turn (w.heap.size + 1 + 1 + 1) u5 (u5.setCell ⟨w.heap.size + 1 + 1 + 1, 0, none⟩ (.slice q' (doT ts op x y).length cap')) := (Turn.refl _ u5).setCell (p := ⟨w.heap.size + 1 + 1 + 1, 0, none⟩) rfl _
 have hHeld6 := And.intro (hHeld5.1.turn t1 (by omega)) (And.intro (hHeld5.2.1.turn t1 (by omega)) (hHeld5.2.2.turn t1 (by omega)))
 refine hK _ _ (fun _ => hHeld6) ?_
 have ZT := hide (F.out.z.set 0 (.slice q' (doT ts op x y).length cap') (by simp) rfl)
 have ZP := hide (F.out.p.turn t1 (by omega))
 replace ON := hide (ON.out.turn t1 (Or.inl (by have := DL.out; omega)))
 replace MP := hide (MP.out.keep (Keep.of_turn t1) (fun b' h1 h2 (h3 : b' = _) => by have := DL.out; have := LM.out; omega))
 replace BW := hide (BW.out.trans (t1.below (by omega) BW.out.size))
 have S6 : Hid (u5.heap.size ≤ (u5.setCell ⟨w.heap.size + 1 + 1 + 1, 0, none⟩ (.slice q' (doT ts op x y).length cap')).heap.size) := t1.size
 clear hK K z0 s0 hHeld5 t1 F
 try simp only [Act.put, sA, List.set]
 generalize u5.setCell ⟨w.heap.size + 1 + 1 + 1, 0, none⟩ (.slice q' (doT ts op x y).length cap') = v6 at ZT ZP ON MP BW S6 hHeld6 ⊢
 have z0 := ZP.out.cell 0 _ rfl
 have s0 := ZP.out.soft 0
 refine PhaseIn.one (i := 9) (by kernel_rfl) rfl (by kernel_rfl) (fun K hK => ?_)
 unfold Oper.wpIn
 refine ⟨fun _ _ => trivial, ?_⟩
 go_simp
 have t2 : Turn (w.heap.size + 1 + 1 + 1 + 1) v6 (v6.setCell ⟨w.heap.size + 1 + 1 + 1 + 1, 0, none⟩ (.slice pa pl pc)) := (Turn.refl _ v6).setCell (p := ⟨w.heap.size + 1 + 1 + 1 + 1, 0, none⟩) rfl _
 have hHeld7 := And.intro (hHeld6.1.turn t2 (by omega)) (And.intro (hHeld6.2.1.turn t2 (by omega)) (hHeld6.2.2.turn t2 (by omega)))
 refine hK _ _ (fun _ => hHeld7) ?_
 replace ZT := hide (ZT.out.turn t2 (by omega))
 replace ZP := hide (ZP.out.set 0 (.slice pa pl pc) (by simp) rfl)
 replace ON := hide ((ON.out.turn t2 (Or.inl (by have := DL.out; omega))).mono (lo' := w.heap.size) (by have := DL.out; omega))
 replace MP := hide ((MP.out.keep (Keep.of_turn t2) (fun b' h1 h2 (h3 : b' = _) => by have := DL.out; have := LM.out; omega)).wide (lo' := mid) (hi' := (v6.setCell ⟨w.heap.size + 1 + 1 + 1 + 1, 0, none⟩ (.slice pa pl pc)).heap.size) (Nat.le_refl _) (Nat.le_trans S6.out t2.size))
 replace BW := hide (BW.out.trans (t2.below (by omega) BW.out.size))
 clear hK K z0 s0 hHeld6 t2
 try simp only [Act.put, sA, List.set]
 generalize v6.setCell ⟨w.heap.size + 1 + 1 + 1 + 1, 0, none⟩ (.slice pa pl pc) = v7 at ZT ZP ON MP BW hHeld7 ⊢
 refine PhaseIn.done (by kernel_rfl) ?_ _
 have z0 := ZT.out.cell 0 _ rfl
 have z1 := ZP.out.cell 0 _ rfl
 clear hHeld7
 have TF := hide (told_cast ⟨⟨q', cap', cs', l', m', h', mid, _, _, _, rfl, ON.out, OG.out, OH.out, by have := DL.out; have := LM.out; omega, MP.out⟩, BW.out⟩ PE.out.1.symm PE.out.2.symm : Told2 w w.heap.size v7 (.returned (.tuple #[.agg #[(.slice q' (doT ts op x y).length cap')], .agg #[(.slice pa pl pc)]])) (dosT ts op x y) (dosP ts op x y))
 go_wp2
 exact bodyPost_ret (v := .tuple #[.agg #[(.slice q' (doT ts op x y).length cap')], .agg #[(.slice pa pl pc)]]) (by simp [results, Tryz.results6, go_sem, z0, z1]) rfl TF.out
end Go.Proofs.YtggilenddbobnaaGreat.Tab
namespace Go.Proofs.YtggilenddbobnaaGreat.Pol
/-- What the parts with a text come to, one put behind the other. -/
def totF (x : List UInt8) : Int → List Mono → Int
 | s, [] => s
 | s, m :: r => totF x (if txt m.2 = x then (s + m.1) % 65536 else s) r
def totE (es : List Mono) (x : List UInt8) : Int := totF x 0 es
theorem totF_app (x : List UInt8) : ∀ (es fs : List Mono) (s : Int), totF x s (es ++ fs) = totF x (totF x s es) fs
 | [], _, _ => rfl
 | m :: r, fs, s => by rw [List.cons_append, totF, totF, totF_app x r fs]
theorem tot_snoc (es : List Mono) (m : Mono) (x : List UInt8) : totE (es ++ [m]) x = if txt m.2 = x then (totE es x + m.1) % 65536 else totE es x := by
 unfold totE
 rw [totF_app]
 rfl
theorem totF_bd (x : List UInt8) : ∀ (es : List Mono) (s : Int), 0 ≤ s ∧ s < 65536 → 0 ≤ totF x s es ∧ totF x s es < 65536
 | [], _, h => h
 | m :: r, s, h => by
  rw [totF]
  apply totF_bd
  split <;> omega
theorem tot_bd (es : List Mono) (x : List UInt8) : 0 ≤ totE es x ∧ totE es x < 65536 := totF_bd x es 0 (by omega)
theorem totF_none (x : List UInt8) : ∀ (es : List Mono) (s : Int), (∀ m ∈ es, txt m.2 ≠ x) → totF x s es = s
 | [], _, _ => rfl
 | m :: r, s, h => by
  rw [totF, if_neg (h m (List.mem_cons_self ..)), totF_none x r s (fun y hy => h y (List.mem_cons_of_mem _ hy))]
theorem tot_some {es : List Mono} {x : List UInt8} (h : totE es x ≠ 0) : ∃ m ∈ es, txt m.2 = x := by
 rcases Classical.em (∃ m ∈ es, txt m.2 = x) with h1 | h1
 · exact h1
 · exact absurd (totF_none x es 0 (fun m hm e => h1 ⟨m, hm, e⟩)) h
/-- The word of the part with a text. -/
def coefL : List Mono → List UInt8 → Int
 | [], _ => 0
 | m :: r, x => if txt m.2 = x then m.1 else coefL r x
theorem coef_none : ∀ {L : List Mono} {x : List UInt8}, (∀ m ∈ L, txt m.2 ≠ x) → coefL L x = 0
 | [], _, _ => rfl
 | m :: r, x, h => by rw [coefL, if_neg (h m (List.mem_cons_self ..)), coef_none (fun y hy => h y (List.mem_cons_of_mem _ hy))]
theorem coef_some : ∀ {L : List Mono} {x : List UInt8}, coefL L x ≠ 0 → ∃ m ∈ L, txt m.2 = x
 | [], _, h => absurd rfl h
 | m :: r, x, h => by
  rw [coefL] at h
  by_cases e : txt m.2 = x
  · exact ⟨m, List.mem_cons_self .., e⟩
  · rw [if_neg e] at h
    obtain ⟨y, hy, e2⟩ := coef_some h
    exact ⟨y, List.mem_cons_of_mem _ hy, e2⟩
/-- In order, no text twice. -/
abbrev Up (L : List Mono) : Prop := L.Pairwise fun p q => txt p.2 < txt q.2
theorem coef_mem : ∀ {L : List Mono}, Up L → ∀ m ∈ L, coefL L (txt m.2) = m.1
 | [], _, m, h => by cases h
 | y :: r, hu, m, h => by
  rw [coefL]
  rcases List.mem_cons.1 h with rfl | h
  · rw [if_pos rfl]
  · have h2 := List.rel_of_pairwise_cons hu h
    rw [if_neg (fun e => by rw [e] at h2; exact List.lt_irrefl _ h2)]
    exact coef_mem hu.of_cons m h
theorem tot_up : ∀ {L : List Mono}, Up L → (∀ m ∈ L, 0 ≤ m.1 ∧ m.1 < 65536) → ∀ x, totE L x = coefL L x
 | [], _, _, _ => rfl
 | m :: r, hu, hw, x => by
  unfold totE
  rw [totF, coefL]
  by_cases e : txt m.2 = x
  · have hb := hw m (List.mem_cons_self ..)
    rw [if_pos e, if_pos e, totF_none]
    · omega
    · intro y hy e2
      have h2 := List.rel_of_pairwise_cons hu hy
      rw [e, e2] at h2
      exact List.lt_irrefl _ h2
  · rw [if_neg e, if_neg e]
    exact tot_up hu.of_cons (fun y hy => hw y (List.mem_cons_of_mem _ hy)) x
/-- A sum in order that has what so many parts come to. -/
structure Told (es L : List Mono) : Prop where
 up : Up L
 fine : ∀ m ∈ L, Fine m.2 ∧ 0 < m.1 ∧ m.1 < 65536
 eq : ∀ x, coefL L x = totE es x
theorem told_nil : Told [] [] := ⟨List.Pairwise.nil, fun _ h => (nomatch h), fun _ => rfl⟩
theorem told_self {L : List Mono} (hu : Up L) (hf : ∀ m ∈ L, Fine m.2 ∧ 0 < m.1 ∧ m.1 < 65536) : Told L L := ⟨hu, hf, fun x => (tot_up hu (fun m hm => ⟨by have := (hf m hm).2.1; omega, (hf m hm).2.2⟩) x).symm⟩
theorem Told.zero {es L : List Mono} (h : Told es L) (av : List Int) : Told (es ++ [(0, av)]) L := ⟨h.up, h.fine, fun x => by
 rw [tot_snoc, h.eq]
 have := tot_bd es x
 split
 · simp only []; omega
 · rfl⟩
theorem plus_all {m : Mono} (hm : Fine m.2) : ∀ {L : List Mono}, (∀ x ∈ L, Fine x.2 ∧ txt m.2 < txt x.2) → plusL m true L = L
 | [], _ => rfl
 | x :: r, h => by
  have h1 := h x (List.mem_cons_self ..)
  rw [plusL, if_pos ((ordT_lt hm h1.1).2 h1.2), if_pos rfl, plus_all hm (fun y hy => h y (List.mem_cons_of_mem _ hy))]
theorem plus_first {m : Mono} (hm : Fine m.2) : ∀ {L : List Mono}, (∀ x ∈ L, Fine x.2 ∧ txt m.2 < txt x.2) → plusL m false L = m :: L
 | [], _ => rfl
 | x :: r, h => by
  have h1 := h x (List.mem_cons_self ..)
  rw [plusL, if_pos ((ordT_lt hm h1.1).2 h1.2), if_neg (by decide), plus_all hm (fun y hy => h y (List.mem_cons_of_mem _ hy))]
theorem plus_mem {m : Mono} (hm : Fine m.2 ∧ 0 < m.1 ∧ m.1 < 65536) : ∀ {L : List Mono}, Up L → (∀ x ∈ L, Fine x.2 ∧ 0 < x.1 ∧ x.1 < 65536) →
 (∀ x ∈ plusL m false L, Fine x.2 ∧ 0 < x.1 ∧ x.1 < 65536) ∧ Up (plusL m false L) ∧ (∀ x ∈ plusL m false L, x.2 = m.2 ∨ ∃ y ∈ L, x.2 = y.2) ∧ ∀ x, coefL (plusL m false L) x = if txt m.2 = x then (coefL L x + m.1) % 65536 else coefL L x
 | [], _, _ => by
  refine ⟨fun x hx => ?_, List.pairwise_singleton _ _, fun x hx => ?_, fun x => ?_⟩
  · rw [List.mem_singleton.1 hx]; exact hm
  · rw [List.mem_singleton.1 hx]; exact Or.inl rfl
  · show (if txt m.2 = x then m.1 else 0) = if txt m.2 = x then (0 + m.1) % 65536 else 0
    split <;> omega
 | y :: r, hu, hf => by
  have hy := hf y (List.mem_cons_self ..)
  have hr : ∀ x ∈ r, Fine x.2 ∧ 0 < x.1 ∧ x.1 < 65536 := fun x hx => hf x (List.mem_cons_of_mem _ hx)
  have hyr : ∀ x ∈ r, txt y.2 < txt x.2 := fun x hx => List.rel_of_pairwise_cons hu hx
  by_cases h1 : ordA m.2 y.2 < 0
  · have h2 := (ordT_lt hm.1 hy.1).1 h1
    have hall : ∀ x ∈ y :: r, Fine x.2 ∧ txt m.2 < txt x.2 := fun x hx => by
     rcases List.mem_cons.1 hx with rfl | hx
     · exact ⟨hy.1, h2⟩
     · exact ⟨(hr x hx).1, List.lt_trans h2 (hyr x hx)⟩
    rw [plus_first hm.1 hall]
    refine ⟨fun x hx => ?_, List.pairwise_cons.2 ⟨fun x hx => (hall x hx).2, hu⟩, fun x hx => ?_, fun x => ?_⟩
    · rcases List.mem_cons.1 hx with rfl | hx
      · exact hm
      · exact hf x hx
    · rcases List.mem_cons.1 hx with rfl | hx
      · exact Or.inl rfl
      · exact Or.inr ⟨x, hx, rfl⟩
    · rw [coefL]
      by_cases e : txt m.2 = x
      · rw [if_pos e, if_pos e, coef_none (fun z hz e2 => by have := (hall z hz).2; rw [e, e2] at this; exact List.lt_irrefl _ this)]
        omega
      · rw [if_neg e, if_neg e]
  · by_cases h0 : ordA m.2 y.2 = 0
    · have e0 := ordT_eq h0
      have hall : ∀ x ∈ r, Fine x.2 ∧ txt m.2 < txt x.2 := fun x hx => ⟨(hr x hx).1, by rw [e0]; exact hyr x hx⟩
      have hno : ∀ z ∈ r, txt z.2 ≠ txt y.2 := fun z hz e2 => by have := hyr z hz; rw [e2] at this; exact List.lt_irrefl _ this
      rw [plusL, if_neg h1, if_pos h0, plus_all hm.1 hall]
      by_cases hc : 0 < (y.1 + m.1) % 65536
      · rw [if_pos hc]
        refine ⟨fun x hx => ?_, List.pairwise_cons.2 ⟨fun x hx => hyr x hx, hu.of_cons⟩, fun x hx => ?_, fun x => ?_⟩
        · rcases List.mem_cons.1 hx with rfl | hx
          · exact ⟨hy.1, hc, by simp only []; omega⟩
          · exact hr x hx
        · rcases List.mem_cons.1 hx with rfl | hx
          · exact Or.inl e0.symm
          · exact Or.inr ⟨x, List.mem_cons_of_mem _ hx, rfl⟩
        · rw [coefL, coefL, e0]
          by_cases e : txt y.2 = x
          · rw [if_pos e, if_pos e, if_pos e]
          · rw [if_neg e, if_neg e, if_neg e]
      · rw [if_neg hc]
        refine ⟨hr, hu.of_cons, fun x hx => Or.inr ⟨x, List.mem_cons_of_mem _ hx, rfl⟩, fun x => ?_⟩
        rw [coefL, e0]
        by_cases e : txt y.2 = x
        · rw [if_pos e, if_pos e, coef_none (fun z hz e2 => hno z hz (e2.trans e.symm))]
          omega
        · rw [if_neg e, if_neg e]
    · have h2 := ordT_gt hm.1 hy.1 (by omega)
      obtain ⟨i1, i2, i3, i4⟩ := plus_mem hm (L := r) hu.of_cons hr
      rw [plusL, if_neg h1, if_neg h0]
      refine ⟨fun x hx => ?_, List.pairwise_cons.2 ⟨fun x hx => ?_, i2⟩, fun x hx => ?_, fun x => ?_⟩
      · rcases List.mem_cons.1 hx with rfl | hx
        · exact hy
        · exact i1 x hx
      · rcases i3 x hx with e | ⟨z, hz, e⟩
        · rw [e]; exact h2
        · rw [e]; exact hyr z hz
      · rcases List.mem_cons.1 hx with rfl | hx
        · exact Or.inr ⟨x, List.mem_cons_self .., rfl⟩
        · rcases i3 x hx with e | ⟨z, hz, e⟩
          · exact Or.inl e
          · exact Or.inr ⟨z, List.mem_cons_of_mem _ hz, e⟩
      · rw [coefL, coefL, i4]
        by_cases e : txt y.2 = x
        · have : ¬ txt m.2 = x := fun e2 => by rw [e, e2] at h2; exact List.lt_irrefl _ h2
          rw [if_pos e, if_pos e, if_neg this]
        · rw [if_neg e, if_neg e]
theorem Told.plus {es L : List Mono} (h : Told es L) {m : Mono} (hm : Fine m.2 ∧ 0 < m.1 ∧ m.1 < 65536) : Told (es ++ [m]) (plusL m false L) := by
 obtain ⟨i1, i2, _, i4⟩ := plus_mem hm h.up h.fine
 exact ⟨i2, i1, fun x => by rw [i4, tot_snoc, h.eq]⟩
/-- The texts in order of parts that do not come to 0 are the sum's own. -/
theorem Told.keys {es L : List Mono} (h : Told es L) {ks : List (List UInt8)} (hk : ks.Pairwise (· < ·)) (hm : ∀ x, (∃ m ∈ es, txt m.2 = x) → x ∈ ks) : ks.filter (fun x => decide (totE es x ≠ 0)) = L.map fun m => txt m.2 := by
 have irr : ∀ a : List UInt8, ¬ a < a := fun a => List.lt_irrefl a
 have n1 : (ks.filter (fun x => decide (totE es x ≠ 0))).Pairwise (· < ·) := hk.sublist List.filter_sublist
 have n2 : (L.map fun m => txt m.2).Pairwise (· < ·) := List.pairwise_map.2 h.up
 have nd : ∀ {l : List (List UInt8)}, l.Pairwise (· < ·) → l.Nodup := fun h => List.Pairwise.imp (fun {a b} (h : a < b) (e : a = b) => irr b (by rw [e] at h; exact h)) h
 refine List.Perm.eq_of_pairwise (le := fun a b => a < b) (fun a b _ _ h1 h2 => absurd (List.lt_trans h1 h2) (irr _)) n1 n2 ((List.perm_ext_iff_of_nodup (nd n1) (nd n2)).2 fun x => ?_)
 rw [List.mem_filter, List.mem_map]
 constructor
 · rintro ⟨_, hx⟩
   have hx2 : totE es x ≠ 0 := by simpa using hx
   rw [← h.eq] at hx2
   obtain ⟨m, hm2, e⟩ := coef_some hx2
   exact ⟨m, hm2, e⟩
 · rintro ⟨m, hm2, rfl⟩
   have h1 : totE es (txt m.2) ≠ 0 := by
    rw [← h.eq, coef_mem h.up m hm2]
    have := (h.fine m hm2).2.1
    omega
   exact ⟨hm _ (tot_some h1), by simpa using h1⟩
end Go.Proofs.YtggilenddbobnaaGreat.Pol
namespace Go.Proofs.YtggilenddbobnaaGreat.Pol
set_option linter.unusedVariables false
open Go.ChangeShapes Go.WideShapes Go.ChangeAt Go.RowKit Go.Shelf IntS Rng
/-- A map that has what so many parts come to, by the texts of their atoms. -/
structure MapOf (w : World) (b : Nat) (es : List Mono) : Prop where
 ex : ∃ (nn : Nat) (D : DataW Unit), w.ownsMap Tryz.prog 9 (plainElem Tryz.prog 3) b nn D ∧ nn ≤ es.length ∧ (∀ x, Maps.has D (.string x) = es.any fun m => decide (txt m.2 = x)) ∧ ∀ x, D.atKey (.string x) (.lit (.int .i64 0)) = .lit (.int .i64 (totE es x))
theorem MapOf.lt {w : World} {b : Nat} {es : List Mono} (h : MapOf w b es) : b < w.heap.size := by
 obtain ⟨nn, D, h1, _⟩ := h
 exact h1.lt
theorem MapOf.turn {w w' : World} {b B : Nat} {es : List Mono} (h : MapOf w b es) (ht : Turn B w w') (hB : b ≠ B) : MapOf w' b es := by
 obtain ⟨nn, D, h1, h2⟩ := h
 refine ⟨nn, D, ?_, h2⟩
 have hl := h1.lt
 obtain ⟨e, clock, hb, F, hs, hD⟩ := h1
 exact ⟨e, clock, (ht.block b hl hB).trans hb, F, hs, hD⟩
theorem MapOf.below {w w' : World} {b : Nat} {es : List Mono} (h : MapOf w b es) (hb : Below w.heap.size w w') : MapOf w' b es := h.turn (B := w.heap.size) (Turn.of_below hb) (by have := h.lt; omega)
theorem MapOf.mild {w w' : World} {b B : Nat} {es : List Mono} (h : MapOf w b es) (hm : Mild B w w') (hB : b < B) : MapOf w' b es := by
 obtain ⟨nn, D, h1, h2⟩ := h
 refine ⟨nn, D, ?_, h2⟩
 have hl := h1.lt
 obtain ⟨e, clock, hb, F, hs, hD⟩ := h1
 exact ⟨e, clock, (hm.low b hB hl).trans hb, F, hs, hD⟩
theorem map_new (w : World) : MapOf (w.alloc (.map #[] 0)) w.heap.size [] := ⟨0, .map [], World.ownsMap_made w _ _ _, Nat.le_refl _, fun x => rfl, fun x => rfl⟩
theorem lit_ne {x y : List UInt8} (h : x ≠ y) : Lit.string x ≠ Lit.string y := fun e => h (Lit.string.inj e)
set_option maxRecDepth 8000 in
set_option maxHeartbeats 16000000 in
theorem put (es : List Mono) (b : Nat) (c : Int) (xs : List Int) (B : Nat) (v : Value) (w : World) (hm : MapOf w b es) (hn : es.length ≤ 1000000) (hc : 0 ≤ c ∧ c < 65536) (h : Row w B v xs) (hx : ∀ x ∈ xs, 0 ≤ x ∧ x < 256) (hl : xs.length < 256) :
 Calls Tryz.prog 89 #[.map (some b), .int .i64 c, v] w fun e w' => e = .returned (.tuple #[]) ∧ MapOf w' b (es ++ [(c, Srt.sortI xs)]) ∧ Turn b w w' := by
 have AT := hide (atomsText xs B v w h hx hl)
 obtain ⟨a, cap, off, rfl, _⟩ := h
 obtain ⟨ys, ey⟩ : ∃ ys, Srt.sortI xs = ys := ⟨_, rfl⟩
 have yl : ys.length = xs.length := by rw [← ey, Srt.sort_len]
 rw [ey] at AT ⊢
 obtain ⟨X, eX⟩ : ∃ X, txt ys = X := ⟨_, rfl⟩
 have XL : X.length ≤ 1000 := by rw [← eX]; unfold txt; simp; omega
 have EX := hide eX
 rw [eX] at AT
 have HM := hide hm
 clear eX hm hx ey yl
 go_enter Tryz.func89, Tryz.ntmps89
 go_wp2_with fail
 refine AT.out.mono ?_
 rintro e w1 ⟨rfl, hb1⟩
 obtain ⟨nn, D, hown, hnn, hhas, hat⟩ := HM.out.below hb1
 have HB1 := hide hb1
 have HH := hide hhas
 have HA := hide hat
 have hkey : keyOf Tryz.prog 9 (.string ⟨X.toArray⟩) = some (.string X) := by
  have := Go.WideMaps.keyOf_string_mk (P := Tryz.prog) (k := 9) Tryz.underlying9 (s := ⟨X.toArray⟩) (by show X.toArray.size ≤ maxLen; unfold maxLen; simp; omega)
  simpa using this
 have HK := hide hkey
 have zt : 0 ≤ totE es X ∧ totE es X < 65536 := tot_bd es X
 have ZV := hide (fun W => Tryz.zeroValue3 W)
 clear hb1 hhas hat hkey
 go_wp2_with (at_lookup; refine wpList_lookup_own_int _ rfl _ _ 108 rfl 9 3 .i64 (Maps.string_keyed Tryz.underlying9) Tryz.underlying108 Tryz.underlying3 (Tryz.zeroValue3 _) b nn D rfl hown _ _ rfl HK.out ?_; intro c0 hat hwc; refine Hid.out ?_)
 have ec : c0 = totE es X := by
  have := HA.out X
  rw [hat] at this
  simpa using this
 subst ec
 clear hat hwc
 refine hide ?_
 go_wp2_with fail
 refine (Wrd.implDo_add (totE es X) c w1 zt.1 zt.2 hc.1 hc.2).mono ?_
 rintro e w2 ⟨rfl, hb2⟩
 obtain ⟨t, et⟩ : ∃ t, (totE es X + c) % 65536 = t := ⟨_, rfl⟩
 have tb : 0 ≤ t ∧ t < 65536 := by omega
 rw [et]
 have ET := hide et
 have hown2 : w2.ownsMap Tryz.prog 9 (plainElem Tryz.prog 3) b nn D := by
  have hl := hown.lt
  obtain ⟨e, clock, hb, F, hs, hD⟩ := hown
  exact ⟨e, clock, (hb2.block b hl).trans hb, F, hs, hD⟩
 have bl : b < w.heap.size := HM.out.lt
 have TW := hide ((Turn.of_below HB1.out).trans ((Turn.of_below hb2 : Turn b w1 w2)))
 have wfT : (Lit.int .i64 t).wf = true := by
  have h := wrap64_wf t
  rwa [IntWalk.wrap64_in t ⟨by omega, by omega⟩] at h
 clear et hb2
 go_wp2_with (at_mapUpdate; refine wpList_mapUpdate_own _ rfl _ _ _ 108 rfl 9 3 (Maps.string_keyed Tryz.underlying9) Tryz.underlying108 _ b nn D rfl hown2 (by unfold maxLen; omega) _ _ _ rfl rfl HK.out (.lit (.int .i64 t)) [] (plainElem_int Tryz.underlying3 wfT) ?_; intro w3 hown3 hgrow3)
 have hmap := hown2.isMap
 have kl : WideAt.IsKeyLit (.string X) := trivial
 have HAS := hide (Maps.has_put_same (D := D) hmap kl (.lit (.int .i64 t)))
 have ATS := hide (fun z => Maps.atKey_put_same (D := D) hmap kl (.lit (.int .i64 t)) z)
 go_end0
 refine ⟨rfl, ⟨nn + 1, D.put (.string X) (.lit (.int .i64 t)), hown3, by simp; omega, fun x => ?_, fun x => ?_⟩, TW.out.trans (Turn.of_grown hgrow3)⟩
 · rw [List.any_append]
   by_cases e : x = X
   · subst e
     rw [HAS.out]
     simp [EX.out]
   · rw [Maps.has_put_other (lit_ne e), HH.out]
     have : ¬ txt ys = x := fun h => e (h.symm.trans EX.out)
     simp [this]
 · rw [tot_snoc]
   by_cases e : x = X
   · subst e
     rw [ATS.out, if_pos EX.out]
     simp only []
     rw [ET.out]
   · rw [Maps.atKey_put_other (lit_ne e), HA.out, if_neg (fun h => e (h.symm.trans EX.out))]
end Go.Proofs.YtggilenddbobnaaGreat.Pol
