/-
  One atom more: the specification's TabPut.
-/
import Derived.Test.YtagfgbkclopoeaaTabPt
import Derived.Test.YtagfgbkclopoeaaTabZi
namespace Go.Proofs.Ytagfgbkclopoeaa.Tab
set_option linter.unusedVariables false
set_option linter.unusedSimpArgs false
open Go.ChangeShapes Go.WideShapes Go.ChangeAt Go.RowKit IntS Pol Push
theorem keep_low {lo : Nat} {w w' : World} (h : Below lo w w') : Keep (fun b => lo ≤ b) w w' := ⟨h.os, h.tape, h.output, h.size, fun k _ hn => h.block k (by omega)⟩
theorem tab_fine {ts : List At} (h : tabB ts = true) : (∀ t ∈ ts, FineA t) ∧ ts.length ≤ 200 := by
  refine ⟨fun t ht => ?_, ?_⟩
  · obtain ⟨k, hk⟩ := List.getElem?_of_mem ht
    exact fine_of (tab_atom h hk)
  · unfold tabB at h
    rw [Bool.and_eq_true] at h
    exact of_decide_eq_true h.1
set_option maxRecDepth 8000 in
set_option maxHeartbeats 8000000 in
theorem specPut (ts : List At) (a : At) (B : Nat) (v : Value) (qx : Option Addr) (cx : Nat) (qy : Option Addr) (cy bx b : Nat) (w : World) (h : TRow w B v ts) (hx : PRow w bx (.slice qx a.x.length cx) a.x) (hy : PRow w b (.slice qy a.y.length cy) a.y) :
    Calls Try.prog 7 #[.agg #[v], .agg #[.int .i64 a.kd, .int .i64 a.k, .slice qx a.x.length cx, .slice qy a.y.length cy]] w fun e w' => ∃ q' cap' cs' l' m' h', e = .returned (.tuple #[.agg #[.slice q' (putP ts a).length cap'], .int .i64 (putK ts a)]) ∧ OTab w' w.heap.size q' cap' cs' l' m' h' (putP ts a) ∧ Below w.heap.size w w' := by
  have T := Three.new w [v] [.int .i64 a.kd, .int .i64 a.k, .slice qx a.x.length cx, .slice qy a.y.length cy] [.slice none 0 0] 34 42 34
  have bn : Below w.heap.size w (((w.alloc (.cells #[v] 34)).alloc (.cells #[.int .i64 a.kd, .int .i64 a.k, .slice qx a.x.length cx, .slice qy a.y.length cy] 42)).alloc (.cells #[.slice none 0 0] 34)) := T.bw
  have H := hide (h.below bn)
  have HX := hide (hx.below bn)
  have HY := hide (hy.below bn)
  have T3 := hide T
  obtain ⟨q0, cap0, off, rfl, h2, h3, _, _⟩ := h
  unfold maxLen at h3
  clear T bn hx hy
  go_enter Try.func7, Try.ntmps7
  go_wp2_with fail
  generalize (((w.alloc (.cells #[.slice q0 ts.length cap0] 34)).alloc (.cells #[.int .i64 a.kd, .int .i64 a.k, .slice qx a.x.length cx, .slice qy a.y.length cy] 42)).alloc (.cells #[.slice none 0 0] 34)) = V at T3 H HX HY ⊢
  have t0 := T3.out.a.cell 0 _ rfl
  go_wp2_with fail
  refine (specTab ts B _ _ H.out).mono ?_
  rintro e u1 ⟨rfl, hb⟩
  clear t0
  replace T3 := hide (T3.out.below hb)
  replace H := hide (H.out.below hb)
  replace HX := hide (HX.out.below hb)
  replace HY := hide (HY.out.below hb)
  clear hb
  by_cases e1 : tabB ts = true
  case neg =>
    have PE : Hid (putP ts a = [] ∧ putK ts a = -1) := show _ ∧ _ from ⟨if_neg e1, if_neg e1⟩
    rw [Bool.not_eq_true] at e1
    rw [e1]
    clear e1
    have o0 := T3.out.o.cell 0 _ rfl
    have s0 := T3.out.o.soft 0
    have TN : Turn (w.heap.size + 1 + 1) u1 (u1.setCell ⟨w.heap.size + 1 + 1, 0, none⟩ (.slice none 0 0)) := (Turn.refl _ u1).setCell (p := ⟨w.heap.size + 1 + 1, 0, none⟩) rfl _
    have ZF := hide (T3.out.o.set 0 (.slice none 0 0) (by simp) rfl)
    have BF := hide (T3.out.bw.trans (TN.below (by omega) T3.out.bw.size))
    clear TN T3 H HX HY
    go_wp2
    generalize u1.setCell ⟨w.heap.size + 1 + 1, 0, none⟩ (.slice none 0 0) = y9 at ZF BF ⊢
    have z9 := ZF.out.cell 0 _ rfl
    rw [PE.out.1, PE.out.2]
    exact bodyPost_ret (v := .tuple #[.agg #[.slice none 0 0], .int .i64 (-1)]) (by simp [results, Try.results7, go_sem, z9]) rfl ⟨none, 0, [], _, _, _, rfl, OTab.nil _ _, BF.out⟩
  have PE : Hid (putP ts a = putT ts a ∧ putK ts a = putN ts a) := show _ ∧ _ from ⟨if_pos e1, if_pos e1⟩
  have FT := hide (tab_fine e1)
  rw [e1]
  clear e1
  go_wp2_with fail
  refine (wpIn_wide (n := 0)).1 ?_
  have bA : Below u1.heap.size u1 u1.drew := (Below.refl _ _).drew
  replace T3 := hide (T3.out.below bA)
  replace H := hide (H.out.below bA)
  replace HX := hide (HX.out.below bA)
  replace HY := hide (HY.out.below bA)
  clear bA
  refine PhaseIn.region (S := fun w' => Rec w.heap.size [.slice q0 ts.length cap0] w' ∧ Rec (w.heap.size + 1) [.int .i64 a.kd, .int .i64 a.k, .slice qx a.x.length cx, .slice qy a.y.length cy] w') 8 (by kernel_rfl) ?_
  generalize u1.drew = d1 at T3 H HX HY ⊢
  have hHeld := And.intro T3.out.a T3.out.z
  refine PhaseIn.takeD (i := 0) (v := ?_) [0, 1, 3, 4, 5, 6, 7] 10 rfl (by rfl) (by kernel_rfl) (by kernel_rfl) (by kernel_rfl) (by kernel_rfl) (by kernel_rfl) (fun _ _ _ h => h) (Or.inl ⟨by kernel_rfl, ?_⟩) hHeld ?_
  rotate_left
  · intro w' hSw
    (try dsimp only at hSw)
    have z0 := hSw.1.cell 0 _ rfl
    go_simp
    first | done | with_reducible rfl
  try simp only [Act.put, List.setIfInBounds_toArray, List.set]
  refine PhaseIn.takeD (i := 2) (v := ?_) [2, 3, 4, 5, 6, 7] 12 rfl (by rfl) (by kernel_rfl) (by kernel_rfl) (by kernel_rfl) (by kernel_rfl) (by kernel_rfl) (fun _ _ _ h => h) (Or.inl ⟨by kernel_rfl, ?_⟩) hHeld ?_
  rotate_left
  · intro w' hSw
    (try dsimp only at hSw)
    have z0 := hSw.2.cell 0 _ rfl; have z1 := hSw.2.cell 1 _ rfl; have z2 := hSw.2.cell 2 _ rfl; have z3 := hSw.2.cell 3 _ rfl
    go_simp
    first | done | with_reducible rfl
  try simp only [Act.put, List.setIfInBounds_toArray, List.set]
  refine PhaseIn.one (i := 1) (by kernel_rfl) rfl (by kernel_rfl) (fun K hK => ?_)
  unfold Oper.wpIn
  refine ⟨fun _ _ => trivial, ?_⟩
  go_simp
  refine ⟨rfl, (callsIn_wide.2 (l5Copy ts B _ _ H.out FT.out.1 (by have := FT.out.2; omega))).mono ?_⟩
  rintro e u2 ⟨q, cap, cs, l, m, hh, rfl, OT, hb⟩
  refine hK _ _ (fun _ => And.intro (hHeld.1.below hb) (hHeld.2.below hb)) ?_
  replace hHeld := And.intro (hHeld.1.below hb) (hHeld.2.below hb)
  replace OT := hide OT
  have DL : Hid (w.heap.size + 1 + 1 < d1.heap.size) := T3.out.o.lt
  have DS : Hid (d1.heap.size ≤ u2.heap.size) := hb.size
  replace T3 := hide (T3.out.below hb)
  replace HX := hide (HX.out.below hb)
  replace HY := hide (HY.out.below hb)
  clear hK K hb H
  try simp only [Act.put, List.setIfInBounds_toArray, List.set]
  refine PhaseIn.one (i := 3) (by kernel_rfl) rfl (by kernel_rfl) (fun K hK => ?_)
  unfold Oper.wpIn
  refine ⟨fun _ _ => trivial, ?_⟩
  go_simp
  refine ⟨rfl, (callsIn_wide.2 (l5Put ts a d1.heap.size cap q cs l m hh qx cx qy cy bx b _ OT.out DS.out HX.out HY.out FT.out.2)).mono ?_⟩
  rintro e u3 ⟨q', cap', cs', l', m', h', rfl, ON, hb⟩
  have hHeld3 : Rec w.heap.size [.slice q0 ts.length cap0] u3 ∧ Rec (w.heap.size + 1) [.int .i64 a.kd, .int .i64 a.k, .slice qx a.x.length cx, .slice qy a.y.length cy] u3 := ⟨hHeld.1.keep (keep_low hb) (by have := DL.out; omega), hHeld.2.keep (keep_low hb) (by have := DL.out; omega)⟩
  refine hK _ _ (fun _ => hHeld3) ?_
  replace ON := hide ON
  have TO := hide (T3.out.o.keep (keep_low hb) (by have := DL.out; omega))
  have BW := hide (T3.out.bw.trans (hb.mono (by have := DL.out; omega)))
  clear hK K hb hHeld OT HX HY T3
  try simp only [Act.put, List.setIfInBounds_toArray, List.set]
  refine PhaseIn.takeD (i := 4) (v := ?_) [4, 6, 7] 14 rfl (by rfl) (by kernel_rfl) (by kernel_rfl) (by kernel_rfl) (by kernel_rfl) (by kernel_rfl) (fun _ _ _ h => h) (Or.inl ⟨by kernel_rfl, ?_⟩) hHeld3 ?_
  rotate_left
  · intro w' hSw
    (try dsimp only at hSw)
    go_simp
    first | done | with_reducible rfl
  try simp only [Act.put, List.setIfInBounds_toArray, List.set]
  refine PhaseIn.takeD (i := 5) (v := ?_) [5, 6, 7] 15 rfl (by rfl) (by kernel_rfl) (by kernel_rfl) (by kernel_rfl) (by kernel_rfl) (by kernel_rfl) (fun _ _ _ h => h) (Or.inl ⟨by kernel_rfl, ?_⟩) hHeld3 ?_
  rotate_left
  · intro w' hSw
    (try dsimp only at hSw)
    go_simp
    first | done | with_reducible rfl
  try simp only [Act.put, List.setIfInBounds_toArray, List.set]
  have o0 := TO.out.cell 0 _ rfl
  have s0 := TO.out.soft 0
  refine PhaseIn.one (i := 6) (by kernel_rfl) rfl (by kernel_rfl) (fun K hK => ?_)
  unfold Oper.wpIn
  refine ⟨fun _ _ => trivial, ?_⟩
  go_simp
  have TN : Turn (w.heap.size + 1 + 1) u3 (u3.setCell ⟨w.heap.size + 1 + 1, 0, none⟩ (.slice q' (putT ts a).length cap')) := (Turn.refl _ u3).setCell (p := ⟨w.heap.size + 1 + 1, 0, none⟩) rfl _
  have hHeld6 := And.intro (hHeld3.1.turn TN (by omega)) (hHeld3.2.turn TN (by omega))
  refine hK _ _ (fun _ => hHeld6) ?_
  have ZF := hide (TO.out.set 0 (.slice q' (putT ts a).length cap') (by simp) rfl)
  have BF := hide (BW.out.trans (TN.below (by omega) BW.out.size))
  have OF := hide ((ON.out.turn TN (Or.inl (by have := DL.out; omega))).mono (lo' := w.heap.size) (by have := DL.out; omega))
  clear TN TO BW ON hK K o0 s0 hHeld3
  try simp only [Act.put, List.setIfInBounds_toArray, List.set]
  generalize u3.setCell ⟨w.heap.size + 1 + 1, 0, none⟩ (.slice q' (putT ts a).length cap') = y9 at ZF BF OF hHeld6 ⊢
  refine PhaseIn.takeD (i := 7) (v := ?_) [7] 5 rfl (by rfl) (by kernel_rfl) (by kernel_rfl) (by kernel_rfl) (by kernel_rfl) (by kernel_rfl) (fun _ _ _ h => h) (Or.inl ⟨by kernel_rfl, ?_⟩) hHeld6 ?_
  rotate_left
  · intro w' hSw
    (try dsimp only at hSw)
    go_simp
    first | done | with_reducible rfl
  try simp only [Act.put, List.setIfInBounds_toArray, List.set]
  refine PhaseIn.done (by kernel_rfl) ?_ _
  have z9 := ZF.out.cell 0 _ rfl
  clear hHeld6
  go_wp2
  rw [PE.out.1, PE.out.2]
  exact bodyPost_ret (v := .tuple #[.agg #[(.slice q' (putT ts a).length cap')], .int .i64 (putN ts a)]) (by simp [results, Try.results7, go_sem, z9]) rfl ⟨q', cap', cs', l', m', h', rfl, OF.out, BF.out⟩
end Go.Proofs.Ytagfgbkclopoeaa.Tab
