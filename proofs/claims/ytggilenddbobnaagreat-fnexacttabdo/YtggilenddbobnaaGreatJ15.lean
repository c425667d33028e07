/-
  The key of an atom: the program's keyOf.
  The specification's TabOk.
  Atoms by their keys in a map.
  The specification's l5Twin and l5Copy: an atom, and atoms, in new memory.
-/
import Derived.Test.YtggilenddbobnaaGreatAl
import Derived.Test.YtggilenddbobnaaGreatJ14
import Derived.Test.YtggilenddbobnaaGreatJ08
import Derived.Test.YtggilenddbobnaaGreatJ13
import Derived.Maps.OwnOps
import Derived.Maps.OwnSet
import Derived.DeepKeys4
import Derived.Test.YtggilenddbobnaaGreatJ12
import Derived.Test.YtggilenddbobnaaGreatJ06
namespace Go.Proofs.YtggilenddbobnaaGreat.Tab
set_option linter.unusedVariables false
open Go.ChangeShapes Go.WideShapes Go.ChangeAt Go.RowKit Go.Shelf IntS Pol Rng
def kv (t : At) : Value := .agg #[.int .i64 t.kd, .int .i64 t.k, .string ⟨(sumTxt t.x).toArray⟩, .string ⟨(sumTxt t.y).toArray⟩]
set_option maxRecDepth 8000 in
set_option maxHeartbeats 16000000 in
theorem keyOf' (t : At) (qx : Option Addr) (cx : Nat) (qy : Option Addr) (cy bx b : Nat) (w : World) (hx : PRow w bx (.slice qx t.x.length cx) t.x) (hy : PRow w b (.slice qy t.y.length cy) t.y) (ox : okP t.x = true) (oy : okP t.y = true) :
 Calls Tryz.prog 68 #[.agg #[.int .i64 t.kd, .int .i64 t.k, .slice qx t.x.length cx, .slice qy t.y.length cy]] w fun e w' => e = .returned (kv t) ∧ Below w.heap.size w w' := by
 obtain ⟨X, eX⟩ : ∃ X, sumTxt t.x = X := ⟨_, rfl⟩
 obtain ⟨Y, eY⟩ : ∃ Y, sumTxt t.y = Y := ⟨_, rfl⟩
 unfold kv
 rw [eX, eY]
 have EX := hide eX
 have EY := hide eY
 have OX := hide ox
 have OY := hide oy
 have HX := hide hx
 have HY := hide hy
 obtain ⟨nx, enx⟩ : ∃ m, t.x.length = m := ⟨_, rfl⟩
 obtain ⟨ny, eny⟩ : ∃ m, t.y.length = m := ⟨_, rfl⟩
 rw [enx] at HX ⊢
 rw [eny] at HY ⊢
 clear eX eY ox oy hx hy enx eny
 have bV : Below w.heap.size w ((w.alloc (.cells #[.int .i64 t.kd, .int .i64 t.k, .slice qx nx cx, .slice qy ny cy] 63)).alloc (.cells #[.int .i64 0, .int .i64 0, .string ⟨#[]⟩, .string ⟨#[]⟩] 94)) := ((Below.refl _ _).alloc (Nat.le_refl _) _).alloc (by simp) _
 have RA := (Rec.new w [.int .i64 t.kd, .int .i64 t.k, .slice qx nx cx, .slice qy ny cy] 63).alloc (.cells #[.int .i64 0, .int .i64 0, .string ⟨#[]⟩, .string ⟨#[]⟩] 94)
 have RZ := Rec.new (w.alloc (.cells #[.int .i64 t.kd, .int .i64 t.k, .slice qx nx cx, .slice qy ny cy] 63)) [.int .i64 0, .int .i64 0, .string ⟨#[]⟩, .string ⟨#[]⟩] 94
 rw [show (w.alloc (.cells #[.int .i64 t.kd, .int .i64 t.k, .slice qx nx cx, .slice qy ny cy] 63)).heap.size = w.heap.size + 1 by simp] at RZ
 replace HX := hide (HX.out.below bV)
 replace HY := hide (HY.out.below bV)
 have BW := hide bV
 replace RA := hide RA
 replace RZ := hide RZ
 clear bV
 go_enter Tryz.func68, Tryz.ntmps68
 go_wp2_with fail
 generalize (w.alloc (.cells #[.int .i64 t.kd, .int .i64 t.k, .slice qx nx cx, .slice qy ny cy] 63)).alloc (.cells #[.int .i64 0, .int .i64 0, .string ⟨#[]⟩, .string ⟨#[]⟩] 94) = V at RA RZ HX HY BW ⊢
 refine (wpIn_wide (n := 0)).1 ?_
 refine PhaseIn.region (S := fun w' => w'.cell? ⟨w.heap.size, 0, none⟩ = some (.int .i64 t.kd) ∧ w'.cell? ⟨w.heap.size, 1, none⟩ = some (.int .i64 t.k) ∧ w'.cell? ⟨w.heap.size, 2, none⟩ = some (.slice qx nx cx) ∧ w'.cell? ⟨w.heap.size, 3, none⟩ = some (.slice qy ny cy)) 11 (by kernel_rfl) ?_
 have hHeld : V.drew.cell? ⟨w.heap.size, 0, none⟩ = some (.int .i64 t.kd) ∧ V.drew.cell? ⟨w.heap.size, 1, none⟩ = some (.int .i64 t.k) ∧ V.drew.cell? ⟨w.heap.size, 2, none⟩ = some (.slice qx nx cx) ∧ V.drew.cell? ⟨w.heap.size, 3, none⟩ = some (.slice qy ny cy) := ⟨RA.out.cell 0 _ rfl, RA.out.cell 1 _ rfl, RA.out.cell 2 _ rfl, RA.out.cell 3 _ rfl⟩
 have hb : Below V.heap.size V V.drew := (Below.refl _ _).drew
 replace RZ := hide (RZ.out.below hb)
 replace HX := hide (HX.out.below hb)
 replace HY := hide (HY.out.below hb)
 replace BW := hide (BW.out.trans (hb.mono BW.out.size))
 clear hb RA
 generalize V.drew = V1 at hHeld RZ HX HY BW ⊢
 refine PhaseIn.takeE (i := 0) (v := ?_) [0, 1, 10, 11] 3 rfl (by rfl) (by kernel_rfl) (fun _ _ _ h => h) (Or.inl ⟨by kernel_rfl, ?_⟩) hHeld ?_
 rotate_left
 · intro w' hSw
   (try dsimp only at hSw)
   go_simp
   first | done | with_reducible rfl
 try simp only [Act.put, sA, List.set]
 refine PhaseIn.takeE (i := 1) (v := ?_) [1, 10, 11] 4 rfl (by rfl) (by kernel_rfl) (fun _ _ _ h => h) (Or.inl ⟨by kernel_rfl, ?_⟩) hHeld ?_
 rotate_left
 · intro w' hSw
   (try dsimp only at hSw)
   go_simp
   first | done | with_reducible rfl
 try simp only [Act.put, sA, List.set]
 refine PhaseIn.takeE (i := 2) (v := ?_) [2, 3, 10, 11] 5 rfl (by rfl) (by kernel_rfl) (fun _ _ _ h => h) (Or.inl ⟨by kernel_rfl, ?_⟩) hHeld ?_
 rotate_left
 · intro w' hSw
   (try dsimp only at hSw)
   go_simp
   first | done | with_reducible rfl
 try simp only [Act.put, sA, List.set]
 refine PhaseIn.takeE (i := 3) (v := ?_) [3, 10, 11] 6 rfl (by rfl) (by kernel_rfl) (fun _ _ _ h => h) (Or.inl ⟨by kernel_rfl, ?_⟩) hHeld ?_
 rotate_left
 · intro w' hSw
   (try dsimp only at hSw)
   go_simp
   first | done | with_reducible rfl
 try simp only [Act.put, sA, List.set]
 refine PhaseIn.takeE (i := 4) (v := ?_) [4, 5, 6, 9, 10, 11] 7 rfl (by rfl) (by kernel_rfl) (fun _ _ _ h => h) (Or.inl ⟨by kernel_rfl, ?_⟩) hHeld ?_
 rotate_left
 · intro w' hSw
   (try dsimp only at hSw)
   go_simp
   first | done | with_reducible rfl
 try simp only [Act.put, sA, List.set]
 refine PhaseIn.takeE (i := 5) (v := ?_) [5, 6, 9, 10, 11] 8 rfl (by rfl) (by kernel_rfl) (fun _ _ _ h => h) (Or.inl ⟨by kernel_rfl, ?_⟩) hHeld ?_
 rotate_left
 · intro w' hSw
   (try dsimp only at hSw)
   go_simp
   first | done | with_reducible rfl
 try simp only [Act.put, sA, List.set]
 refine PhaseIn.takeE (i := 7) (v := ?_) [7, 8, 9, 10, 11] 10 rfl (by rfl) (by kernel_rfl) (fun _ _ _ h => h) (Or.inl ⟨by kernel_rfl, ?_⟩) hHeld ?_
 rotate_left
 · intro w' hSw
   (try dsimp only at hSw)
   go_simp
   first | done | with_reducible rfl
 try simp only [Act.put, sA, List.set]
 refine PhaseIn.takeE (i := 8) (v := ?_) [8, 9, 10, 11] 11 rfl (by rfl) (by kernel_rfl) (fun _ _ _ h => h) (Or.inl ⟨by kernel_rfl, ?_⟩) hHeld ?_
 rotate_left
 · intro w' hSw
   (try dsimp only at hSw)
   go_simp
   first | done | with_reducible rfl
 try simp only [Act.put, sA, List.set]
 refine PhaseIn.one (i := 6) (by kernel_rfl) rfl (by kernel_rfl) (fun K hK => ?_)
 unfold Oper.wpIn
 refine ⟨fun _ _ => trivial, ?_⟩
 go_simp
 refine ⟨rfl, (callsIn_wide.2 (sumText t.x bx _ _ HX.out OX.out)).mono ?_⟩
 rintro e u ⟨rfl, hb⟩
 have hHeld2 := And.intro (cell_below hb hHeld.1) (And.intro (cell_below hb hHeld.2.1) (And.intro (cell_below hb hHeld.2.2.1) (cell_below hb hHeld.2.2.2)))
 refine hK _ _ (fun _ => hHeld2) ?_
 rw [EX.out]
 replace RZ := hide (RZ.out.below hb)
 replace HY := hide (HY.out.below hb)
 replace BW := hide (BW.out.trans (hb.mono BW.out.size))
 clear hK K hHeld hb HX
 try simp only [Act.put, sA, List.set]
 refine PhaseIn.one (i := 9) (by kernel_rfl) rfl (by kernel_rfl) (fun K hK => ?_)
 unfold Oper.wpIn
 refine ⟨fun _ _ => trivial, ?_⟩
 go_simp
 refine ⟨rfl, (callsIn_wide.2 (sumText t.y b _ _ HY.out OY.out)).mono ?_⟩
 rintro e u2 ⟨rfl, hb⟩
 have hHeld := And.intro (cell_below hb hHeld2.1) (And.intro (cell_below hb hHeld2.2.1) (And.intro (cell_below hb hHeld2.2.2.1) (cell_below hb hHeld2.2.2.2)))
 refine hK _ _ (fun _ => hHeld) ?_
 rw [EY.out]
 replace RZ := hide (RZ.out.below hb)
 replace BW := hide (BW.out.trans (hb.mono BW.out.size))
 clear hK K hHeld2 hb HY
 try simp only [Act.put, sA, List.set]
 refine PhaseIn.takeE (i := 10) (v := ?_) [10, 11] 13 rfl (by rfl) (by kernel_rfl) (fun _ _ _ h => h) (Or.inl ⟨by kernel_rfl, ?_⟩) hHeld ?_
 rotate_left
 · intro w' hSw
   (try dsimp only at hSw)
   go_simp
   first | done | with_reducible rfl
 try simp only [Act.put, sA, List.set]
 clear hHeld
 have z0 := RZ.out.cell 0 _ rfl
 have z1 := RZ.out.cell 1 _ rfl
 have z2 := RZ.out.cell 2 _ rfl
 have z3 := RZ.out.cell 3 _ rfl
 have s0 := RZ.out.soft 0
 have s1 := RZ.out.soft 1
 have s2 := RZ.out.soft 2
 have s3 := RZ.out.soft 3
 have ZZ := hide ((((RZ.out.set 0 (.int .i64 t.kd) (by simp) (show _ = [.int .i64 t.kd, .int .i64 0, .string ⟨#[]⟩, .string ⟨#[]⟩] from rfl)).set 1 (.int .i64 t.k) (by simp) (show _ = [.int .i64 t.kd, .int .i64 t.k, .string ⟨#[]⟩, .string ⟨#[]⟩] from rfl)).set 2 (.string ⟨X.toArray⟩) (by simp) (show _ = [.int .i64 t.kd, .int .i64 t.k, .string ⟨X.toArray⟩, .string ⟨#[]⟩] from rfl)).set 3 (.string ⟨Y.toArray⟩) (by simp) (show _ = [.int .i64 t.kd, .int .i64 t.k, .string ⟨X.toArray⟩, .string ⟨Y.toArray⟩] from rfl))
 have BB := hide ((((BW.out.setCell (p := ⟨w.heap.size + 1, 0, none⟩) (by show w.heap.size ≤ w.heap.size + 1; omega) (.int .i64 t.kd)).setCell (p := ⟨w.heap.size + 1, 1, none⟩) (by show w.heap.size ≤ w.heap.size + 1; omega) (.int .i64 t.k)).setCell (p := ⟨w.heap.size + 1, 2, none⟩) (by show w.heap.size ≤ w.heap.size + 1; omega) (.string ⟨X.toArray⟩)).setCell (p := ⟨w.heap.size + 1, 3, none⟩) (by show w.heap.size ≤ w.heap.size + 1; omega) (.string ⟨Y.toArray⟩))
 refine PhaseIn.one (i := 11) (by kernel_rfl) rfl (by kernel_rfl) (fun K hK => ?_)
 unfold Oper.wpIn
 refine ⟨fun _ _ => trivial, ?_⟩
 go_simp
 refine hK _ _ (fun h => absurd h (by decide)) ?_
 clear hK K z0 z1 z2 z3 s0 s1 s2 s3 RZ BW
 refine PhaseIn.done (by kernel_rfl) ?_ _
 generalize (((u2.setCell ⟨w.heap.size + 1, 0, none⟩ (.int .i64 t.kd)).setCell ⟨w.heap.size + 1, 1, none⟩ (.int .i64 t.k)).setCell ⟨w.heap.size + 1, 2, none⟩ (.string ⟨X.toArray⟩)).setCell ⟨w.heap.size + 1, 3, none⟩ (.string ⟨Y.toArray⟩) = U at ZZ BB ⊢
 have z0 := ZZ.out.cell 0 _ rfl
 have z1 := ZZ.out.cell 1 _ rfl
 have z2 := ZZ.out.cell 2 _ rfl
 have z3 := ZZ.out.cell 3 _ rfl
 go_wp2
 exact bodyPost_ret (v := .agg #[.int .i64 t.kd, .int .i64 t.k, .string ⟨X.toArray⟩, .string ⟨Y.toArray⟩]) (by simp [results, Tryz.results68, go_sem, z0, z1, z2, z3]) rfl ⟨rfl, BB.out⟩
end Go.Proofs.YtggilenddbobnaaGreat.Tab
namespace Go.Proofs.YtggilenddbobnaaGreat.Tab
set_option linter.unusedVariables false
open Go.ChangeShapes Go.WideShapes Go.ChangeAt Go.RowKit IntS Pol
def rowT (ts : List At) (k : Nat) : Bool := atomB (ts.getD k ⟨0, 0, [], []⟩) k && (List.range k).all fun j => !sameB (ts.getD j ⟨0, 0, [], []⟩) (ts.getD k ⟨0, 0, [], []⟩)
/-- Whether atoms are ok. -/
def tabB (ts : List At) : Bool := decide (ts.length ≤ 200) && (List.range ts.length).all (rowT ts)
theorem getD_atom {ts : List At} {i : Nat} {x : At} (h : ts[i]? = some x) : ts.getD i ⟨0, 0, [], []⟩ = x := by rw [List.getD_eq_getElem?_getD, h]; rfl
theorem tab_long {ts : List At} (h : ¬ ts.length ≤ 200) : tabB ts = false := by unfold tabB; rw [decide_eq_false h]; rfl
theorem tab_rows {ts : List At} (h : ts.length ≤ 200) : tabB ts = (List.range ts.length).all (rowT ts) := by unfold tabB; rw [decide_eq_true h]; rfl
theorem row_atom {ts : List At} {k : Nat} {t : At} (ht : ts[k]? = some t) (h : atomB t k = false) : rowT ts k = false := by unfold rowT; rw [getD_atom ht, h]; rfl
theorem row_same {ts : List At} {k j : Nat} {s t : At} (ht : ts[k]? = some t) (hs : ts[j]? = some s) (hj : j < k) (h : sameB s t = true) : rowT ts k = false := by
 unfold rowT
 rw [all_no (f := fun j => !sameB (ts.getD j ⟨0, 0, [], []⟩) (ts.getD k ⟨0, 0, [], []⟩)) hj (by rw [getD_atom ht, getD_atom hs, h]; rfl), Bool.and_false]
theorem row_good {ts : List At} {k : Nat} {t : At} (ht : ts[k]? = some t) (ha : atomB t k = true) (h : ∀ (j : Nat) s, j < k → ts[j]? = some s → sameB s t = false) : rowT ts k = true := by
 unfold rowT
 rw [getD_atom ht, ha, all_yes (fun j hj => ?_)]
 · rfl
 · obtain ⟨s, hs⟩ : ∃ s, ts[j]? = some s := ⟨_, List.getElem?_eq_getElem (by have := (List.getElem?_eq_some_iff.1 ht).1; omega)⟩
   rw [getD_atom hs, h j s hj hs]
   rfl
set_option maxRecDepth 8000 in
set_option maxHeartbeats 8000000 in
theorem specTab (ts : List At) (B : Nat) (v : Value) (w : World) (h : TRow w B v ts) :
 Calls Tryz.prog 18 #[.agg #[v]] w fun e w' => e = .returned (.bool (tabB ts)) ∧ Below w.heap.size w w' := by
 obtain ⟨a, cap, off, rfl, h2, h3, hz, h4⟩ := h
 unfold maxLen at h3
 clear hz
 have bV : Below w.heap.size w (w.alloc (.cells #[.slice a ts.length cap] 32)) := (Below.refl _ _).alloc (Nat.le_refl _) _
 have H4 : Hid (ts = [] ∨ (a = some ⟨B, off, none⟩ ∧ ∀ (i : Nat) t, ts[i]? = some t → AtAt (w.alloc (.cells #[.slice a ts.length cap] 32)) B (off + i * 4) t)) := h4.imp id (fun q => ⟨q.1, fun i t ht => (q.2 i t ht).below bV⟩)
 have BW := hide bV
 have ZZ : Hid ((w.alloc (.cells #[.slice a ts.length cap] 32)).cell? ⟨w.heap.size, 0, none⟩ = some (.slice a ts.length cap)) := show _ = _ by rw [World.cell?_alloc_new]; rfl
 clear bV h4
 by_cases hl : ts.length ≤ 200
 case neg =>
  have HD := hide (tab_long hl)
  generalize ts.length = n at *
  have hl' : ¬ ((n : Int) ≤ 200) := by omega
  go_enter Tryz.func18, Tryz.ntmps18
  go_wp2
  go_ret
  exact ⟨ret_bool HD.out.symm, BW.out⟩
 have HM := hide (tab_rows hl)
 obtain ⟨RES, eRES⟩ : ∃ r, tabB ts = r := ⟨_, rfl⟩
 rw [eRES]
 replace HM := hide (eRES.symm.trans HM.out)
 clear eRES
 obtain ⟨n, en⟩ : ∃ n, ts.length = n := ⟨_, rfl⟩
 have EN := hide en
 rw [en] at h2 BW HM H4 ZZ hl ⊢
 clear en
 go_enter Tryz.func18, Tryz.ntmps18
 by_cases h0 : n = 0
 · subst h0
   have HD : Hid (RES = true) := HM.out.trans rfl
   go_wp2
   refine wp_loop_rounds 1 ?_
   rw [rounds_succ]
   go_wp2
   go_ret
   exact ⟨ret_bool HD.out.symm, BW.out⟩
 · obtain ⟨rfl, hc⟩ := H4.out.resolve_left (fun e => h0 (by rw [← EN.out, e]; rfl))
   have HC := hide hc
   clear hc H4
   go_wp2
   generalize w.alloc (.cells #[.slice (some ⟨B, off, none⟩) n cap] 32) = V at BW HC ZZ ⊢
   go_loopw [3] (fun i wr => ∃ k : Nat, k ≤ n ∧ i = .int .i64 k ∧ Hid (∀ j, j < k → rowT ts j = true) ∧ Hid (Below V.heap.size V wr)) (fun i _ => n - (intOf i).toNat)
   case atStart => exact ⟨0, by omega, rfl, fun j hj => by omega, Below.refl _ _⟩
   case round =>
    obtain ⟨k, hk, rfl, HE, HB⟩ := hrel
    have z0 := cell_below HB.out ZZ.out
    by_cases hlt : k < n
    case neg =>
     have HD : Hid (RES = true) := HM.out.trans (all_yes fun j hj => HE.out j (by omega))
     go_wp2
     go_ret
     exact ⟨ret_bool HD.out.symm, BW.out.trans (HB.out.mono BW.out.size)⟩
    obtain ⟨t, et⟩ : ∃ t, ts[k]? = some t := ⟨_, List.getElem?_eq_getElem (by rw [EN.out]; exact hlt)⟩
    have AA := hide (HC.out k t et)
    obtain ⟨c0, c1, qx, cx, bx, qy, cy, b, c2, px, c3, py⟩ := (HC.out k t et).below HB.out
    have PX := hide px
    have PY := hide py
    have ET := hide et
    have lk : ((k : Nat) : Int) < (n : Nat) := by omega
    have NX : Hid (rowT ts k = true → ∀ j, j < k + 1 → rowT ts j = true) := fun hr j hj => by
     by_cases ej : j = k
     · subst ej; exact hr
     · exact HE.out j (by omega)
    clear et px py
    go_wp2_with fail
    refine (l5Atom t k qx cx qy cy bx b _ PX.out PY.out).mono ?_
    rintro e u ⟨rfl, hb⟩
    replace HB := hide (HB.out.trans (hb.mono HB.out.size))
    clear hb z0 c0 c1 c2 c3 PX PY
    have z0 := cell_below HB.out ZZ.out
    cases ei : atomB t k with
    | false =>
     have HD : Hid (RES = false) := HM.out.trans (all_no hlt (row_atom ET.out ei))
     clear ei
     go_wp2
     go_ret
     exact ⟨ret_bool HD.out.symm, BW.out.trans (HB.out.mono BW.out.size)⟩
    | true =>
     have EI := hide ei
     clear ei
     go_wp2
     go_loopw [4] (fun i w2 => ∃ j : Nat, j ≤ k ∧ i = .int .i64 j ∧ Hid (∀ (d : Nat) s, d < j → ts[d]? = some s → sameB s t = false) ∧ Hid (Below V.heap.size V w2)) (fun i _ => k - (intOf i).toNat)
     case atStart => exact ⟨0, by omega, rfl, fun d s hd => by omega, HB⟩
     case round =>
      clear HB z0
      obtain ⟨j, hj, rfl, HT, HB⟩ := hrel
      have z0 := cell_below HB.out ZZ.out
      by_cases jlt : j < k
      · obtain ⟨s, es⟩ : ∃ s, ts[j]? = some s := ⟨_, List.getElem?_eq_getElem (by rw [EN.out]; omega)⟩
        obtain ⟨c0, c1, qx, cx, bx, qy, cy, b, c2, px, c3, py⟩ := AA.out.below HB.out
        obtain ⟨d0, d1, qx', cx', bx', qy', cy', b', d2, px', d3, py'⟩ := (HC.out j s es).below HB.out
        have HB2 : Hid (Below V.heap.size V wr.drew) := HB.out.drew
        have PX := hide (px.below (Below.refl _ _).drew)
        have PY := hide (py.below (Below.refl _ _).drew)
        have PX' := hide (px'.below (Below.refl _ _).drew)
        have PY' := hide (py'.below (Below.refl _ _).drew)
        have ES := hide es
        have lj : ((j : Nat) : Int) < (k : Nat) := by omega
        have lj' : ((j : Nat) : Int) < (n : Nat) := by omega
        clear es px py px' py'
        go_wp2_with fail
        refine region_tail 10 (by kernel_rfl) (by kernel_rfl) ?_
        simp only [List.take_succ_cons, List.take_zero, List.drop_succ_cons, List.drop_zero]
        repeat still_step
        refine wpStill_nil ?_
        go_wp2_with fail
        refine (l5Same s t qx' qx cx' cx qy' qy cy' cy bx' bx b' b _ PX'.out PY'.out PX.out PY.out).mono ?_
        rintro e u2 ⟨rfl, hb⟩
        have HB3 := hide (HB2.out.trans (hb.mono HB2.out.size))
        clear hb
        cases ei : sameB s t with
        | true =>
         have HD : Hid (RES = false) := HM.out.trans (all_no hlt (row_same ET.out ES.out jlt ei))
         clear ei
         go_wp2
         go_ret
         exact ⟨ret_bool HD.out.symm, BW.out.trans (HB3.out.mono BW.out.size)⟩
        | false =>
         have HT2 : Hid (∀ (d : Nat) s, d < j + 1 → ts[d]? = some s → sameB s t = false) := fun d s' hd hs => by
          by_cases ed : d = j
          · subst ed
            rw [ES.out] at hs
            obtain rfl := Option.some.inj hs
            exact ei
          · exact HT.out d s' (by omega) hs
         clear ei
         go_wp2
         exact ⟨⟨j + 1, by omega, by go_num, HT2, HB3⟩, by simp [intOf]; omega⟩
      · have HX := hide (NX.out (row_good ET.out EI.out (fun d s hd => HT.out d s (by omega))))
        go_wp2
        exact ⟨⟨k + 1, by omega, by go_num, HX, HB⟩, by simp [intOf]; omega⟩
end Go.Proofs.YtggilenddbobnaaGreat.Tab
namespace Go.Proofs.YtggilenddbobnaaGreat.Tab
set_option linter.unusedVariables false
open Go.ChangeShapes Go.WideShapes Go.ChangeAt Go.RowKit Go.Shelf IntS Pol Rng
theorem laidB : laidOutB Tryz.prog = true := by kernel_rfl
theorem key_row : (94 : TypeId) < Tryz.prog.types.size := of_decide_eq_true (by kernel_rfl)
theorem key_wide : (match Tryz.prog.underlying 94 with | some (.array _ _) | some (.struct _) => true | _ => false) = true := by rw [Tryz.underlying94]
set_option maxRecDepth 100000 in
theorem key_law : WideMaps.KeyLaw Tryz.prog 94 := deep_law_laid laidB (m := 2) (by omega) key_row (by kernel_rfl) key_wide
theorem keyed : Maps.Keyed Tryz.prog 94 := Maps.Keyed.of_law key_law
def keyB (t : At) : List UInt8 := keyBytes [.int .i64 t.kd, .int .i64 t.k, .string (sumTxt t.x), .string (sumTxt t.y)]
def keyL (t : At) : Lit := .string (keyB t)
/-- An atom that has a key. -/
structure KOk (t : At) : Prop where
 kd : (Lit.int .i64 t.kd).wf = true
 k : (Lit.int .i64 t.k).wf = true
 x : okP t.x = true
 y : okP t.y = true
theorem wf_small {n : Int} (h0 : 0 ≤ n) (h1 : n ≤ 1000) : (Lit.int .i64 n).wf = true := by
 have h := wrap64_wf n
 rwa [IntWalk.wrap64_in n ⟨by omega, by omega⟩] at h
theorem in_iff {n lo hi : Int} (h : inI n lo hi = true) : lo ≤ n ∧ n ≤ hi := of_decide_eq_true h
theorem bare_nil {t : At} (h : bareB t = true) : t.x = [] ∧ t.y = [] := by
 unfold bareB at h
 simp only [Bool.and_eq_true, decide_eq_true_eq] at h
 exact ⟨List.length_eq_zero_iff.1 h.1, List.length_eq_zero_iff.1 h.2⟩
theorem atom_kok {t : At} {n : Int} (h : atomB t n = true) : KOk t := by
 by_cases e1 : t.kd = 1
 · rw [atom_reg e1, Bool.and_eq_true] at h
   have h2 := in_iff h.1
   have h3 := bare_nil h.2
   exact ⟨wf_small (by omega) (by omega), wf_small (by omega) (by omega), by rw [h3.1]; rfl, by rw [h3.2]; rfl⟩
 · by_cases e2 : t.kd = 2 ∨ t.kd = 3
   · rw [atom_in e2, Bool.and_eq_true] at h
     have h2 := in_iff h.1
     have h3 := bare_nil h.2
     exact ⟨wf_small (by omega) (by omega), wf_small (by omega) (by omega), by rw [h3.1]; rfl, by rw [h3.2]; rfl⟩
   · by_cases e4 : t.kd = 4
     · rw [atom_do e4] at h
       simp only [Bool.and_eq_true] at h
       obtain ⟨⟨⟨⟨h1, h2⟩, h3⟩, h4⟩, h5⟩ := h
       have h6 := in_iff h1
       exact ⟨wf_small (by omega) (by omega), wf_small (by omega) (by omega), h2, h3⟩
     · rw [atom_no e1 (fun h => e2 (Or.inl h)) (fun h => e2 (Or.inr h)) e4] at h
       cases h
theorem len_ok {ps : List Mono} (h : okP ps = true) : (sumTxt ps).length ≤ 84 := by
 obtain ⟨h1, h2⟩ := ok_parts' h
 have := sumTxt_len (ps := ps) (fun m hm => (mono_good (h2 m hm)).2.2.2.2)
 omega
set_option maxRecDepth 8000 in
theorem key_of {t : At} (h : KOk t) : keyOf Tryz.prog 94 (kv t) = some (keyL t) := by
 have hx := len_ok h.x
 have hy := len_ok h.y
 have e1 : Tryz.prog.keyType 94 = true := by kernel_rfl
 have c4 : Tryz.prog.cellsOf 94 = 4 := by kernel_rfl
 have c1 : Tryz.prog.cellsOf 3 = 1 := by kernel_rfl
 have cs : Tryz.prog.cellsOf 9 = 1 := by kernel_rfl
 obtain ⟨m, hm⟩ : ∃ m, Tryz.prog.types.size = m + 1 := ⟨_, (Nat.succ_pred_eq_of_pos (Nat.lt_of_le_of_lt (Nat.zero_le _) key_row)).symm⟩
 have w1 := h.kd
 have w2 := h.k
 have sx : (⟨(sumTxt t.x).toArray⟩ : ByteArray).size ≤ maxLen := by show (sumTxt t.x).toArray.size ≤ maxLen; unfold maxLen; simp; omega
 have sy : (⟨(sumTxt t.y).toArray⟩ : ByteArray).size ≤ maxLen := by show (sumTxt t.y).toArray.size ≤ maxLen; unfold maxLen; simp; omega
 unfold keyOf kv keyL keyB
 rw [Tryz.underlying94, hm]
 have f1 : (Value.agg #[.int .i64 t.kd, .int .i64 t.k, .string ⟨(sumTxt t.x).toArray⟩, .string ⟨(sumTxt t.y).toArray⟩]).formed Tryz.prog 94 = true := by simp [Value.formed, Tryz.underlying94, c4]
 simp [e1, f1, Value.cells, Program.keyLits, Tryz.underlying94, Tryz.underlying3, Tryz.underlying9, c4, c1, cs, w1, w2, sx, sy]
theorem key_inj {s t : At} (hs : KOk s) (ht : KOk t) (h : keyB s = keyB t) : s.kd = t.kd ∧ s.k = t.k ∧ sumTxt s.x = sumTxt t.x ∧ sumTxt s.y = sumTxt t.y := by
 have e := keyed.inj (key_of hs) (by unfold keyL; rw [h]; exact key_of ht)
 unfold kv at e
 simp at e
 exact e
theorem txt_join {av bv : List Int} {r r' : List UInt8} (ha : Fine av) (hb : Fine bv) (h : txt av ++ r = txt bv ++ r') : av = bv ∧ r = r' := by
 unfold txt at h
 simp only [List.cons_append, List.cons.injEq] at h
 have hl : av.length = bv.length := by
  have h1 := congrArg UInt8.toNat h.1
  simp only [UInt8.toNat_ofNat'] at h1
  have := ha.len
  have := hb.len
  omega
 have h2 := List.append_inj h.2 (by simp [hl])
 exact ⟨bytes_inj ha.at_ hb.at_ h2.1, h2.2⟩
theorem coef_inj {c d : Int} (hc : 0 < c ∧ c < 65536) (hd : 0 < d ∧ d < 65536) (h1 : Pol.byteOf (c / 256) = Pol.byteOf (d / 256)) (h2 : Pol.byteOf c = Pol.byteOf d) : c = d := by
 have e1 := congrArg UInt8.toNat h1
 have e2 := congrArg UInt8.toNat h2
 unfold Pol.byteOf at e1 e2
 simp only [UInt8.toNat_ofNat'] at e1 e2
 omega
theorem sum_inj : ∀ {ps qs : List Mono}, (∀ m ∈ ps, monoB m = true) → (∀ m ∈ qs, monoB m = true) → sumTxt ps = sumTxt qs → ps = qs
 | [], [], _, _, _ => rfl
 | [], m :: r, _, _, h => by simp [sumTxt, partTxt] at h
 | m :: r, [], _, _, h => by simp [sumTxt, partTxt] at h
 | m :: r, q :: s, h1, h2, h => by
  have g1 := mono_good (h1 m (List.mem_cons_self ..))
  have g2 := mono_good (h2 q (List.mem_cons_self ..))
  simp only [sumTxt, partTxt, List.cons_append, List.nil_append, List.cons.injEq] at h
  have h3 := txt_join g1.1 g2.1 h.2.2
  have h4 := sum_inj (fun x hx => h1 x (List.mem_cons_of_mem _ hx)) (fun x hx => h2 x (List.mem_cons_of_mem _ hx)) h3.2
  have h5 := coef_inj g1.2.1 g2.2.1 h.1 h.2.1
  obtain ⟨c, a⟩ := m
  obtain ⟨d, b⟩ := q
  simp only at h5 h3
  rw [h5, h3.1, h4]
theorem lex_self : ∀ a : List Int, lexI a a = 0
 | [] => rfl
 | x :: a => by
  show (if x < x then -1 else if x < x then 1 else lexI a a) = 0
  rw [if_neg (by omega), if_neg (by omega), lex_self a]
theorem ordA_self (a : List Int) : ordA a a = 0 := by
 unfold ordA
 rw [if_neg (by omega), if_neg (by omega), lex_self]
theorem ordM_zero : ∀ {a b : List Mono}, ordM a b = 0 → a = b
 | [], [], _ => rfl
 | [], _ :: _, h => by simp [ordM] at h
 | _ :: _, [], h => by simp [ordM] at h
 | x :: a, y :: b, h => by
  unfold ordM at h
  by_cases e1 : ordA x.2 y.2 = 0
  · rw [if_neg (fun h => h e1)] at h
    by_cases e2 : x.1 < y.1
    · rw [if_pos e2] at h; omega
    · rw [if_neg e2] at h
      by_cases e3 : y.1 < x.1
      · rw [if_pos e3] at h; omega
      · rw [if_neg e3] at h
        have h4 := ordM_zero h
        have h5 := ordT_eq e1
        obtain ⟨c, u⟩ := x
        obtain ⟨d, v⟩ := y
        simp only at *
        have : c = d := by omega
        rw [this, h5, h4]
  · rw [if_pos e1] at h
    exact absurd h e1
theorem ordM_self : ∀ a : List Mono, ordM a a = 0
 | [] => rfl
 | x :: a => by
  unfold ordM
  rw [if_neg (fun h => h (ordA_self x.2)), if_neg (by omega), if_neg (by omega), ordM_self a]
theorem ordP_zero {a b : List Mono} (h : ordP a b = 0) : a = b := by
 unfold ordP at h
 by_cases e1 : a.length < b.length
 · rw [if_pos e1] at h; omega
 · rw [if_neg e1] at h
   by_cases e2 : b.length < a.length
   · rw [if_pos e2] at h; omega
   · rw [if_neg e2] at h
     exact ordM_zero h
theorem ordP_self (a : List Mono) : ordP a a = 0 := by
 unfold ordP
 rw [if_neg (by omega), if_neg (by omega), ordM_self]
theorem same_key {s t : At} (hs : KOk s) (ht : KOk t) : sameB s t = decide (keyB s = keyB t) := by
 by_cases h : keyB s = keyB t
 · obtain ⟨h1, h2, h3, h4⟩ := key_inj hs ht h
   have h5 := sum_inj (ok_parts' hs.x).2 (ok_parts' ht.x).2 h3
   have h6 := sum_inj (ok_parts' hs.y).2 (ok_parts' ht.y).2 h4
   rw [decide_eq_true h]
   unfold sameB
   rw [h5, h6, ordP_self, ordP_self, h1, h2]
   simp
 · rw [decide_eq_false h]
   unfold sameB
   by_cases h1 : s.kd = t.kd
   · by_cases h2 : s.k = t.k
     · by_cases h3 : ordP s.x t.x = 0
       · by_cases h4 : ordP s.y t.y = 0
         · refine absurd ?_ h
           unfold keyB
           rw [h1, h2, ordP_zero h3, ordP_zero h4]
         · simp [h4]
       · simp [h3]
     · simp [h2]
   · simp [h1]
/-- A map that has the place of each of these atoms by its key. -/
structure TMap (w : World) (b : Nat) (ts : List At) : Prop where
 ex : ∃ (nn : Nat) (D : DataW Unit), w.ownsMap Tryz.prog 94 (plainElem Tryz.prog 3) b nn D ∧ nn ≤ ts.length ∧ (∀ l : List UInt8, Maps.has D (.string l) = ts.any fun t => decide (keyB t = l)) ∧ ∀ (k : Nat) t, ts[k]? = some t → D.atKey (keyL t) (.lit (.int .i64 0)) = .lit (.int .i64 k)
theorem TMap.lt {w : World} {b : Nat} {ts : List At} (h : TMap w b ts) : b < w.heap.size := by
 obtain ⟨nn, D, h1, _⟩ := h
 exact h1.lt
theorem TMap.turn {w w' : World} {b B : Nat} {ts : List At} (h : TMap w b ts) (ht : Turn B w w') (hB : b ≠ B) : TMap w' b ts := by
 obtain ⟨nn, D, h1, h2⟩ := h
 refine ⟨nn, D, ?_, h2⟩
 have hl := h1.lt
 obtain ⟨e, clock, hb, F, hs, hD⟩ := h1
 exact ⟨e, clock, (ht.block b hl hB).trans hb, F, hs, hD⟩
theorem TMap.below {w w' : World} {b : Nat} {ts : List At} (h : TMap w b ts) (hb : Below w.heap.size w w') : TMap w' b ts := h.turn (B := w.heap.size) (Turn.of_below hb) (by have := h.lt; omega)
theorem tmap_new (w : World) : TMap (w.alloc (.map #[] 0)) w.heap.size [] := ⟨0, .map [], World.ownsMap_made w _ _ _, Nat.le_refl _, fun l => rfl, fun k t h => by simp at h⟩
theorem key_lit (t : At) : WideAt.IsKeyLit (keyL t) := trivial
theorem tmap_put {w : World} {b : Nat} {ts : List At} {nn : Nat} {D : DataW Unit} {t : At} {w' : World} (hmap : Maps.IsMap D) (hnn : nn ≤ ts.length) (hhas : ∀ l : List UInt8, Maps.has D (.string l) = ts.any fun t => decide (keyB t = l)) (hat : ∀ (k : Nat) t, ts[k]? = some t → D.atKey (keyL t) (.lit (.int .i64 0)) = .lit (.int .i64 k)) (hno : Maps.has D (keyL t) = false)
 (hown : w'.ownsMap Tryz.prog 94 (plainElem Tryz.prog 3) b (nn + 1) (D.put (keyL t) (.lit (.int .i64 (ts.length : Int))))) : TMap w' b (ts ++ [t]) := by
 have ne : ∀ (k : Nat) s, ts[k]? = some s → keyL s ≠ keyL t := fun k s hs e => by
  unfold keyL at hno
  rw [hhas (keyB t), List.any_eq_false] at hno
  exact hno s (List.mem_of_getElem? hs) (decide_eq_true (Lit.string.inj e))
 refine ⟨nn + 1, _, hown, by simp; omega, fun l => ?_, fun k s hs => ?_⟩
 · rw [List.any_append]
   by_cases e : l = keyB t
   · subst e
     rw [show Lit.string (keyB t) = keyL t from rfl, Maps.has_put_same hmap (key_lit t)]
     simp
   · have ne' : Lit.string l ≠ keyL t := fun h => e (Lit.string.inj h)
     rw [Maps.has_put_other ne', hhas l]
     have : ¬ keyB t = l := fun h => e h.symm
     simp [this]
 · by_cases e : k < ts.length
   · rw [List.getElem?_append_left e] at hs
     rw [Maps.atKey_put_other (ne k s hs), hat k s hs]
   · rw [List.getElem?_append_right (by omega)] at hs
     have : k = ts.length := by
      have := (List.getElem?_eq_some_iff.1 hs).1
      simp at this
      omega
     subst this
     rw [Nat.sub_self] at hs
     obtain rfl := Option.some.inj (show some t = some s from hs)
     rw [Maps.atKey_put_same hmap (key_lit t)]
end Go.Proofs.YtggilenddbobnaaGreat.Tab
namespace Go.Proofs.YtggilenddbobnaaGreat.Tab
set_option linter.unusedVariables false
set_option linter.unusedSimpArgs false
open Go.ChangeShapes Go.WideShapes Go.ChangeAt Go.RowKit IntS Pol Push
theorem fine_of {t : At} {n : Int} (h : atomB t n = true) : FineA t := by
 have k := atom_kok h
 have h1 := ok_len k.x
 have h2 := ok_len k.y
 exact ⟨by omega, by omega, fun m hm => by have := ok_atoms k.x hm; omega, fun m hm => by have := ok_atoms k.y hm; omega⟩
set_option maxRecDepth 8000 in
set_option maxHeartbeats 8000000 in
theorem l5Twin (t : At) (qx : Option Addr) (cx : Nat) (qy : Option Addr) (cy bx b : Nat) (w : World) (hx : PRow w bx (.slice qx t.x.length cx) t.x) (hy : PRow w b (.slice qy t.y.length cy) t.y) (hf : FineA t) :
 Calls Tryz.prog 50 #[.agg #[.int .i64 t.kd, .int .i64 t.k, .slice qx t.x.length cx, .slice qy t.y.length cy]] w fun e w' => ∃ ax nx kx ay ny ky mid, e = .returned (.agg #[.int .i64 t.kd, .int .i64 t.k, .slice ax nx kx, .slice ay ny ky]) ∧ WPoly w' w.heap.size mid (.slice ax nx kx) t.x ∧ WPoly w' mid w'.heap.size (.slice ay ny ky) t.y ∧ w.heap.size ≤ mid ∧ mid ≤ w'.heap.size ∧ Below w.heap.size w w' := by
 have bV : Below w.heap.size w ((w.alloc (.cells #[.int .i64 t.kd, .int .i64 t.k, .slice qx t.x.length cx, .slice qy t.y.length cy] 63)).alloc (.cells #[.int .i64 0, .int .i64 0, .slice none 0 0, .slice none 0 0] 63)).drew := (((Below.refl _ _).alloc (Nat.le_refl _) _).alloc (by simp) _).drew
 have AR := hide (((Rec.new w [.int .i64 t.kd, .int .i64 t.k, .slice qx t.x.length cx, .slice qy t.y.length cy] 63).alloc (.cells #[.int .i64 0, .int .i64 0, .slice none 0 0, .slice none 0 0] 63)).drew)
 have Z0 := (Rec.new (w.alloc (.cells #[.int .i64 t.kd, .int .i64 t.k, .slice qx t.x.length cx, .slice qy t.y.length cy] 63)) [.int .i64 0, .int .i64 0, .slice none 0 0, .slice none 0 0] 63).drew
 rw [show (w.alloc (.cells #[.int .i64 t.kd, .int .i64 t.k, .slice qx t.x.length cx, .slice qy t.y.length cy] 63)).heap.size = w.heap.size + 1 by simp] at Z0
 have ZR := hide Z0
 have HX := hide (hx.below bV)
 have HY := hide (hy.below bV)
 have BW := hide bV
 have HF := hide hf
 clear bV hx hy Z0 hf
 go_enter Tryz.func50, Tryz.ntmps50
 go_wp2_with fail
 refine (wpIn_wide (n := 0)).1 ?_
 refine PhaseIn.region (S := Rec w.heap.size [.int .i64 t.kd, .int .i64 t.k, .slice qx t.x.length cx, .slice qy t.y.length cy]) 12 (by kernel_rfl) ?_
 generalize ((w.alloc (.cells #[.int .i64 t.kd, .int .i64 t.k, .slice qx t.x.length cx, .slice qy t.y.length cy] 63)).alloc (.cells #[.int .i64 0, .int .i64 0, .slice none 0 0, .slice none 0 0] 63)).drew = d0 at AR ZR HX HY BW ⊢
 have hHeld := AR.out
 refine PhaseIn.takeE (i := 0) (v := ?_) [0, 1, 12, 13] 3 rfl (by rfl) (by kernel_rfl) (fun _ _ _ h => h) (Or.inl ⟨by kernel_rfl, ?_⟩) hHeld ?_
 rotate_left
 · intro w' hSw
   (try dsimp only at hSw)
   go_simp
   first | done | with_reducible rfl
 try simp only [Act.put, sA, List.set]
 refine PhaseIn.takeE (i := 1) (v := ?_) [1, 12, 13] 4 rfl (by rfl) (by kernel_rfl) (fun _ _ _ h => h) (Or.inl ⟨by kernel_rfl, ?_⟩) hHeld ?_
 rotate_left
 · intro w' hSw
   (try dsimp only at hSw)
   have z0 := hSw.cell 0 _ rfl; have z1 := hSw.cell 1 _ rfl; have z2 := hSw.cell 2 _ rfl; have z3 := hSw.cell 3 _ rfl
   go_simp
   first | done | with_reducible rfl
 try simp only [Act.put, sA, List.set]
 refine PhaseIn.takeE (i := 2) (v := ?_) [2, 3, 12, 13] 5 rfl (by rfl) (by kernel_rfl) (fun _ _ _ h => h) (Or.inl ⟨by kernel_rfl, ?_⟩) hHeld ?_
 rotate_left
 · intro w' hSw
   (try dsimp only at hSw)
   go_simp
   first | done | with_reducible rfl
 try simp only [Act.put, sA, List.set]
 refine PhaseIn.takeE (i := 3) (v := ?_) [3, 12, 13] 6 rfl (by rfl) (by kernel_rfl) (fun _ _ _ h => h) (Or.inl ⟨by kernel_rfl, ?_⟩) hHeld ?_
 rotate_left
 · intro w' hSw
   (try dsimp only at hSw)
   have z0 := hSw.cell 0 _ rfl; have z1 := hSw.cell 1 _ rfl; have z2 := hSw.cell 2 _ rfl; have z3 := hSw.cell 3 _ rfl
   go_simp
   first | done | with_reducible rfl
 try simp only [Act.put, sA, List.set]
 refine PhaseIn.takeE (i := 4) (v := ?_) [4, 5, 6, 7, 11, 12, 13] 7 rfl (by rfl) (by kernel_rfl) (fun _ _ _ h => h) (Or.inl ⟨by kernel_rfl, ?_⟩) hHeld ?_
 rotate_left
 · intro w' hSw
   (try dsimp only at hSw)
   go_simp
   first | done | with_reducible rfl
 try simp only [Act.put, sA, List.set]
 refine PhaseIn.takeE (i := 5) (v := ?_) [5, 6, 7, 11, 12, 13] 8 rfl (by rfl) (by kernel_rfl) (fun _ _ _ h => h) (Or.inl ⟨by kernel_rfl, ?_⟩) hHeld ?_
 rotate_left
 · intro w' hSw
   (try dsimp only at hSw)
   go_simp
   first | done | with_reducible rfl
 try simp only [Act.put, sA, List.set]
 refine PhaseIn.takeE (i := 6) (v := ?_) [6, 7, 11, 12, 13] 9 rfl (by rfl) (by kernel_rfl) (fun _ _ _ h => h) (Or.inl ⟨by kernel_rfl, ?_⟩) hHeld ?_
 rotate_left
 · intro w' hSw
   (try dsimp only at hSw)
   have z0 := hSw.cell 0 _ rfl; have z1 := hSw.cell 1 _ rfl; have z2 := hSw.cell 2 _ rfl; have z3 := hSw.cell 3 _ rfl
   go_simp
   first | done | with_reducible rfl
 try simp only [Act.put, sA, List.set]
 refine PhaseIn.takeE (i := 8) (v := ?_) [8, 9, 10, 11, 12, 13] 11 rfl (by rfl) (by kernel_rfl) (fun _ _ _ h => h) (Or.inl ⟨by kernel_rfl, ?_⟩) hHeld ?_
 rotate_left
 · intro w' hSw
   (try dsimp only at hSw)
   go_simp
   first | done | with_reducible rfl
 try simp only [Act.put, sA, List.set]
 refine PhaseIn.takeE (i := 9) (v := ?_) [9, 10, 11, 12, 13] 12 rfl (by rfl) (by kernel_rfl) (fun _ _ _ h => h) (Or.inl ⟨by kernel_rfl, ?_⟩) hHeld ?_
 rotate_left
 · intro w' hSw
   (try dsimp only at hSw)
   go_simp
   first | done | with_reducible rfl
 try simp only [Act.put, sA, List.set]
 refine PhaseIn.takeE (i := 10) (v := ?_) [10, 11, 12, 13] 13 rfl (by rfl) (by kernel_rfl) (fun _ _ _ h => h) (Or.inl ⟨by kernel_rfl, ?_⟩) hHeld ?_
 rotate_left
 · intro w' hSw
   (try dsimp only at hSw)
   have z0 := hSw.cell 0 _ rfl; have z1 := hSw.cell 1 _ rfl; have z2 := hSw.cell 2 _ rfl; have z3 := hSw.cell 3 _ rfl
   go_simp
   first | done | with_reducible rfl
 try simp only [Act.put, sA, List.set]
 refine PhaseIn.one (i := 7) (by kernel_rfl) rfl (by kernel_rfl) (fun K hK => ?_)
 unfold Oper.wpIn
 refine ⟨fun _ _ => trivial, ?_⟩
 go_simp
 refine ⟨rfl, (callsIn_wide.2 (l4Copy t.x bx _ _ HX.out HF.out.x (fun m hm => by have := HF.out.ax m hm; omega))).mono ?_⟩
 rintro e u1 ⟨ax, nx, kx, rfl, WX, hb⟩
 refine hK _ _ (fun _ => hHeld.below hb) ?_
 have DL : Hid (w.heap.size + 1 < d0.heap.size) := ZR.out.lt
 replace WX := hide WX
 have SZ1 : Hid (w.heap.size + 1 < u1.heap.size) := Nat.lt_of_lt_of_le ZR.out.lt hb.size
 have SZ0 : Hid (d0.heap.size ≤ u1.heap.size) := hb.size
 replace hHeld := hHeld.below hb
 replace AR := hide (AR.out.below hb)
 replace ZR := hide (ZR.out.below hb)
 replace HY := hide (HY.out.below hb)
 replace BW := hide (BW.out.trans (hb.mono BW.out.size))
 clear hb hK K HX
 try simp only [Act.put, sA, List.set]
 refine PhaseIn.one (i := 11) (by kernel_rfl) rfl (by kernel_rfl) (fun K hK => ?_)
 unfold Oper.wpIn
 refine ⟨fun _ _ => trivial, ?_⟩
 go_simp
 refine ⟨rfl, (callsIn_wide.2 (l4Copy t.y b _ _ HY.out HF.out.y (fun m hm => by have := HF.out.ay m hm; omega))).mono ?_⟩
 rintro e u2 ⟨ay, ny, ky, rfl, WY, hb⟩
 refine hK _ _ (fun _ => hHeld.below hb) ?_
 replace WY := hide WY
 have SZ2 : Hid (u1.heap.size ≤ u2.heap.size) := hb.size
 replace AR := hide (AR.out.below hb)
 replace ZR := hide (ZR.out.below hb)
 replace WX := hide (WX.out.below hb)
 replace BW := hide (BW.out.trans (hb.mono BW.out.size))
 clear hb hK K HY hHeld
 try simp only [Act.put, sA, List.set]
 refine PhaseIn.late (i := 12) (v := ?_) (by kernel_rfl) rfl 15 (by rfl) (by omega) (Or.inl ⟨by kernel_rfl, ?_⟩) ?_
 rotate_left
 · intro w' hSw
   go_simp
   first | done | with_reducible rfl
 try simp only [Act.put, sA, List.set]
 have z0 := ZR.out.cell 0 _ rfl
 have y0 := ZR.out.soft 0
 have z1 := ZR.out.cell 1 _ rfl
 have y1 := ZR.out.soft 1
 have z2 := ZR.out.cell 2 _ rfl
 have y2 := ZR.out.soft 2
 have z3 := ZR.out.cell 3 _ rfl
 have y3 := ZR.out.soft 3
 refine PhaseIn.one (i := 13) (by kernel_rfl) rfl (by kernel_rfl) (fun K hK => ?_)
 unfold Oper.wpIn
 refine ⟨fun _ _ => trivial, ?_⟩
 go_simp
 have RF := hide ((((ZR.out.set 0 (.int .i64 t.kd) (by simp) (show _ = ([.int .i64 t.kd, .int .i64 0, .slice none 0 0, .slice none 0 0] : List Value) from rfl)).set 1 (.int .i64 t.k) (by simp) (show _ = ([.int .i64 t.kd, .int .i64 t.k, .slice none 0 0, .slice none 0 0] : List Value) from rfl)).set 2 (.slice ax nx kx) (by simp) (show _ = ([.int .i64 t.kd, .int .i64 t.k, .slice ax nx kx, .slice none 0 0] : List Value) from rfl)).set 3 (.slice ay ny ky) (by simp) (show _ = ([.int .i64 t.kd, .int .i64 t.k, .slice ax nx kx, .slice ay ny ky] : List Value) from rfl))
 have TN := hide (((((Turn.refl (w.heap.size + 1) u2).setCell (p := ⟨w.heap.size + 1, 0, none⟩) rfl (.int .i64 t.kd)).setCell (p := ⟨w.heap.size + 1, 1, none⟩) rfl (.int .i64 t.k)).setCell (p := ⟨w.heap.size + 1, 2, none⟩) rfl (.slice ax nx kx)).setCell (p := ⟨w.heap.size + 1, 3, none⟩) rfl (.slice ay ny ky))
 refine hK _ _ (fun h => absurd h (by omega)) ?_
 clear hK K z0 z1 z2 z3 y0 y1 y2 y3 ZR AR
 try simp only [Act.put, sA, List.set]
 generalize ((((u2.setCell ⟨w.heap.size + 1, 0, none⟩ (.int .i64 t.kd)).setCell ⟨w.heap.size + 1, 1, none⟩ (.int .i64 t.k)).setCell ⟨w.heap.size + 1, 2, none⟩ (.slice ax nx kx)).setCell ⟨w.heap.size + 1, 3, none⟩ (.slice ay ny ky)) = y4 at RF TN ⊢
 have FX := hide ((WX.out.keep (Keep.of_turn TN.out) (fun b' h1 h2 (h3 : b' = _) => by have := DL.out; omega)).wide (lo' := w.heap.size) (hi' := u1.heap.size) (by have := DL.out; omega) (Nat.le_refl _))
 have FY := hide ((WY.out.keep (Keep.of_turn TN.out) (fun b' h1 h2 (h3 : b' = _) => by have := DL.out; have := SZ0.out; omega)).wide (lo' := u1.heap.size) (hi' := y4.heap.size) (Nat.le_refl _) TN.out.size)
 have M1 : Hid (w.heap.size ≤ u1.heap.size ∧ u1.heap.size ≤ y4.heap.size) := ⟨by have := DL.out; have := SZ0.out; omega, Nat.le_trans SZ2.out TN.out.size⟩
 replace BW := hide (BW.out.trans (TN.out.below (by omega) BW.out.size))
 refine PhaseIn.done (by kernel_rfl) ?_ _
 have z0 := RF.out.cell 0 _ rfl
 have z1 := RF.out.cell 1 _ rfl
 have z2 := RF.out.cell 2 _ rfl
 have z3 := RF.out.cell 3 _ rfl
 clear WX WY TN RF DL SZ0 SZ1 SZ2
 go_wp2
 exact bodyPost_ret (v := .agg #[.int .i64 t.kd, .int .i64 t.k, .slice ax nx kx, .slice ay ny ky]) (by simp [results, Tryz.results50, go_sem, z0, z1, z2, z3]) rfl ⟨ax, nx, kx, ay, ny, ky, u1.heap.size, rfl, FX.out, FY.out, M1.out.1, M1.out.2, BW.out⟩
/-- Where a copy of atoms is. -/
structure CopyT (w : World) (v : Value) (ts : List At) (k : Nat) (q : Option Addr) (cap : Nat) (cs : List C4) (l m h : Nat → Nat) (u : World) : Prop where
 a : Rec w.heap.size [v] u
 z : Rec (w.heap.size + 1) [.slice none 0 0] u
 x : Rec (w.heap.size + 1 + 1) [.slice q k cap] u
 tab : OTab u (w.heap.size + 3) q cap cs l m h (ts.take k)
 bw : Below w.heap.size w u
theorem CopyT.below {w u u' : World} {v : Value} {ts : List At} {k cap : Nat} {q : Option Addr} {cs : List C4} {l m h : Nat → Nat} (H : CopyT w v ts k q cap cs l m h u) (hb : Below u.heap.size u u') : CopyT w v ts k q cap cs l m h u' :=
 ⟨H.a.below hb, H.z.below hb, H.x.below hb, H.tab.below hb, H.bw.trans (hb.mono H.bw.size)⟩
theorem take_len {ts : List At} {k : Nat} (h : k ≤ ts.length) : (ts.take k).length = k := by rw [List.length_take]; omega
theorem take_next {ts : List At} {k : Nat} {t : At} (h : ts[k]? = some t) : ts.take k ++ [t] = ts.take (k + 1) := by rw [List.take_add_one, h]; rfl
/-- One more atom is copied: u ahead of its copy, u1 behind it, u2 with the row of one, u3 with all. -/
theorem CopyT.next {w u u1 u3 : World} {v : Value} {ts : List At} {k cap : Nat} {q : Option Addr} {cs : List C4} {l m h : Nat → Nat} (H : CopyT w v ts k q cap cs l m h u) {t : At} (ht : ts[k]? = some t) (hb : Below u.heap.size u u1) {ax : Option Addr} {nx kx : Nat} {ay : Option Addr} {ny ky mid : Nat}
 (wx : WPoly u1 u.heap.size mid (.slice ax nx kx) t.x) (wy : WPoly u1 mid u1.heap.size (.slice ay ny ky) t.y) (m1 : u.heap.size ≤ mid) (m2 : mid ≤ u1.heap.size) {o : Obj} {G' cap' : Nat} (ho : OwnT u3 (w.heap.size + 3) (.slice (some ⟨G', 0, none⟩) (k + 1) cap') (cs ++ [⟨t.kd, t.k, .slice ax nx kx, .slice ay ny ky⟩]))
 (hg : (Value.slice q k cap).ownBlock = some G' ∨ (u1.alloc o).heap.size ≤ G') (gr : (u1.alloc o).grownBy u3 (Value.slice q k cap).ownBlock) :
 CopyT w v ts (k + 1) (some ⟨G', 0, none⟩) cap' (cs ++ [⟨t.kd, t.k, .slice ax nx kx, .slice ay ny ky⟩]) (fun i => if i < (ts.take k).length then l i else u.heap.size) (fun i => if i < (ts.take k).length then m i else mid) (fun i => if i < (ts.take k).length then h i else u1.heap.size) (u3.setCell ⟨w.heap.size + 1 + 1, 0, none⟩ (.slice (some ⟨G', 0, none⟩) (k + 1) cap')) := by
 have hk : k ≤ ts.length := Nat.le_of_lt (List.getElem?_eq_some_iff.1 ht).1
 have el := take_len hk
 have hx := H.x.lt
 have bA : Below u1.heap.size u1 (u1.alloc o) := (Below.refl _ _).alloc (Nat.le_refl _) o
 have H1 := (H.below hb).below bA
 have sz : (u1.alloc o).heap.size = u1.heap.size + 1 := by simp
 have T2 : OTab u3 (w.heap.size + 3) (some ⟨G', 0, none⟩) cap' (cs ++ [⟨t.kd, t.k, .slice ax nx kx, .slice ay ny ky⟩]) (fun i => if i < (ts.take k).length then l i else u.heap.size) (fun i => if i < (ts.take k).length then m i else mid) (fun i => if i < (ts.take k).length then h i else u1.heap.size) (ts.take k ++ [t]) :=
  OTab.next H1.tab (wx.below bA) (wy.below bA) (by omega) m1 m2 (by omega) (fun i hi => by
   obtain ⟨z, hz⟩ : ∃ z, (ts.take k)[i]? = some z := ⟨_, List.getElem?_eq_getElem hi⟩
   obtain ⟨_, _, _, _, _, _, _, _, k7, _⟩ := H.tab.rows i z hz
   exact k7) (fun G e => (H.tab.q_lt e).2) (by rw [el]; exact ho) (by rw [el]; exact hg) (by rw [el]; exact gr)
 have gl : ∀ G, q = some ⟨G, 0, none⟩ → w.heap.size + 3 ≤ G := fun G e => (H.tab.q_lt e).1
 have kp : ∃ T, Turn T (u1.alloc o) u3 ∧ w.heap.size + 3 ≤ T := by
  rcases H.tab.q_form with ⟨rfl, rfl, _⟩ | ⟨G, rfl⟩
  · exact ⟨(u1.alloc o).heap.size, ⟨gr.os, gr.tape, gr.output, gr.size, fun k hk _ => gr.block k hk (by simp [Value.ownBlock])⟩, by have := H1.x.lt; omega⟩
  · exact ⟨G, Turn.of_grown gr, gl G rfl⟩
 obtain ⟨T, tn, tl⟩ := kp
 have t2 : Turn (w.heap.size + 1 + 1) u3 (u3.setCell ⟨w.heap.size + 1 + 1, 0, none⟩ (.slice (some ⟨G', 0, none⟩) (k + 1) cap')) := (Turn.refl _ _).setCell (p := ⟨w.heap.size + 1 + 1, 0, none⟩) rfl _
 refine ⟨(H1.a.turn tn (by omega)).turn t2 (by omega), (H1.z.turn tn (by omega)).turn t2 (by omega), (H1.x.turn tn (by omega)).set 0 _ (by simp) rfl, ?_, (H1.bw.trans (tn.below (by omega) H1.bw.size)).trans (t2.below (by omega) ?_)⟩
 · rw [← take_next ht]
   exact T2.turn t2 (Or.inl (by omega))
 · exact (H1.bw.trans (tn.below (by omega) H1.bw.size)).size
end Go.Proofs.YtggilenddbobnaaGreat.Tab
