/-
  The key of an atom: the program's keyOf.
-/
import Derived.Test.YtagfgbkclopoeaaTabV
import Derived.Test.YtagfgbkclopoeaaPhaseIn
namespace Go.Proofs.Ytagfgbkclopoeaa.Tab
set_option linter.unusedVariables false
open Go.ChangeShapes Go.WideShapes Go.ChangeAt Go.RowKit Go.Shelf IntS Pol Rng
def kv (t : At) : Value := .agg #[.int .i64 t.kd, .int .i64 t.k, .string ⟨(sumTxt t.x).toArray⟩, .string ⟨(sumTxt t.y).toArray⟩]
set_option maxRecDepth 8000 in
set_option maxHeartbeats 16000000 in
theorem keyOf' (t : At) (qx : Option Addr) (cx : Nat) (qy : Option Addr) (cy bx b : Nat) (w : World) (hx : PRow w bx (.slice qx t.x.length cx) t.x) (hy : PRow w b (.slice qy t.y.length cy) t.y) (ox : okP t.x = true) (oy : okP t.y = true) :
    Calls Try.prog 32 #[.agg #[.int .i64 t.kd, .int .i64 t.k, .slice qx t.x.length cx, .slice qy t.y.length cy]] w fun e w' => e = .returned (kv t) ∧ Below w.heap.size w w' := by
  obtain ⟨X, eX⟩ : ∃ X, sumTxt t.x = X := ⟨_, rfl⟩
  obtain ⟨Y, eY⟩ : ∃ Y, sumTxt t.y = Y := ⟨_, rfl⟩
  unfold kv
  rw [eX, eY]
  have EX := hide eX
  have EY := hide eY
  have OX := hide ox
  have OY := hide oy
  have HX := hide hx
  have HY := hide hy
  obtain ⟨nx, enx⟩ : ∃ m, t.x.length = m := ⟨_, rfl⟩
  obtain ⟨ny, eny⟩ : ∃ m, t.y.length = m := ⟨_, rfl⟩
  rw [enx] at HX ⊢
  rw [eny] at HY ⊢
  clear eX eY ox oy hx hy enx eny
  have bV : Below w.heap.size w ((w.alloc (.cells #[.int .i64 t.kd, .int .i64 t.k, .slice qx nx cx, .slice qy ny cy] 42)).alloc (.cells #[.int .i64 0, .int .i64 0, .string ⟨#[]⟩, .string ⟨#[]⟩] 67)) := ((Below.refl _ _).alloc (Nat.le_refl _) _).alloc (by simp) _
  have RA := (Rec.new w [.int .i64 t.kd, .int .i64 t.k, .slice qx nx cx, .slice qy ny cy] 42).alloc (.cells #[.int .i64 0, .int .i64 0, .string ⟨#[]⟩, .string ⟨#[]⟩] 67)
  have RZ := Rec.new (w.alloc (.cells #[.int .i64 t.kd, .int .i64 t.k, .slice qx nx cx, .slice qy ny cy] 42)) [.int .i64 0, .int .i64 0, .string ⟨#[]⟩, .string ⟨#[]⟩] 67
  rw [show (w.alloc (.cells #[.int .i64 t.kd, .int .i64 t.k, .slice qx nx cx, .slice qy ny cy] 42)).heap.size = w.heap.size + 1 by simp] at RZ
  replace HX := hide (HX.out.below bV)
  replace HY := hide (HY.out.below bV)
  have BW := hide bV
  replace RA := hide RA
  replace RZ := hide RZ
  clear bV
  go_enter Try.func32, Try.ntmps32
  go_wp2_with fail
  generalize (w.alloc (.cells #[.int .i64 t.kd, .int .i64 t.k, .slice qx nx cx, .slice qy ny cy] 42)).alloc (.cells #[.int .i64 0, .int .i64 0, .string ⟨#[]⟩, .string ⟨#[]⟩] 67) = V at RA RZ HX HY BW ⊢
  refine (wpIn_wide (n := 0)).1 ?_
  refine PhaseIn.region (S := fun w' => w'.cell? ⟨w.heap.size, 0, none⟩ = some (.int .i64 t.kd) ∧ w'.cell? ⟨w.heap.size, 1, none⟩ = some (.int .i64 t.k) ∧ w'.cell? ⟨w.heap.size, 2, none⟩ = some (.slice qx nx cx) ∧ w'.cell? ⟨w.heap.size, 3, none⟩ = some (.slice qy ny cy)) 11 (by kernel_rfl) ?_
  have hHeld : V.drew.cell? ⟨w.heap.size, 0, none⟩ = some (.int .i64 t.kd) ∧ V.drew.cell? ⟨w.heap.size, 1, none⟩ = some (.int .i64 t.k) ∧ V.drew.cell? ⟨w.heap.size, 2, none⟩ = some (.slice qx nx cx) ∧ V.drew.cell? ⟨w.heap.size, 3, none⟩ = some (.slice qy ny cy) := ⟨RA.out.cell 0 _ rfl, RA.out.cell 1 _ rfl, RA.out.cell 2 _ rfl, RA.out.cell 3 _ rfl⟩
  have hb : Below V.heap.size V V.drew := (Below.refl _ _).drew
  replace RZ := hide (RZ.out.below hb)
  replace HX := hide (HX.out.below hb)
  replace HY := hide (HY.out.below hb)
  replace BW := hide (BW.out.trans (hb.mono BW.out.size))
  clear hb RA
  generalize V.drew = V1 at hHeld RZ HX HY BW ⊢
  refine PhaseIn.takeD (i := 0) (v := ?_) [0, 1, 10, 11] 3 rfl (by rfl) (by kernel_rfl) (by kernel_rfl) (by kernel_rfl) (by kernel_rfl) (by kernel_rfl) (fun _ _ _ h => h) (Or.inl ⟨by kernel_rfl, ?_⟩) hHeld ?_
  rotate_left
  · intro w' hSw
    (try dsimp only at hSw)
    go_simp
    first | done | with_reducible rfl
  try simp only [Act.put, List.setIfInBounds_toArray, List.set]
  refine PhaseIn.takeD (i := 1) (v := ?_) [1, 10, 11] 4 rfl (by rfl) (by kernel_rfl) (by kernel_rfl) (by kernel_rfl) (by kernel_rfl) (by kernel_rfl) (fun _ _ _ h => h) (Or.inl ⟨by kernel_rfl, ?_⟩) hHeld ?_
  rotate_left
  · intro w' hSw
    (try dsimp only at hSw)
    go_simp
    first | done | with_reducible rfl
  try simp only [Act.put, List.setIfInBounds_toArray, List.set]
  refine PhaseIn.takeD (i := 2) (v := ?_) [2, 3, 10, 11] 5 rfl (by rfl) (by kernel_rfl) (by kernel_rfl) (by kernel_rfl) (by kernel_rfl) (by kernel_rfl) (fun _ _ _ h => h) (Or.inl ⟨by kernel_rfl, ?_⟩) hHeld ?_
  rotate_left
  · intro w' hSw
    (try dsimp only at hSw)
    go_simp
    first | done | with_reducible rfl
  try simp only [Act.put, List.setIfInBounds_toArray, List.set]
  refine PhaseIn.takeD (i := 3) (v := ?_) [3, 10, 11] 6 rfl (by rfl) (by kernel_rfl) (by kernel_rfl) (by kernel_rfl) (by kernel_rfl) (by kernel_rfl) (fun _ _ _ h => h) (Or.inl ⟨by kernel_rfl, ?_⟩) hHeld ?_
  rotate_left
  · intro w' hSw
    (try dsimp only at hSw)
    go_simp
    first | done | with_reducible rfl
  try simp only [Act.put, List.setIfInBounds_toArray, List.set]
  refine PhaseIn.takeD (i := 4) (v := ?_) [4, 5, 6, 9, 10, 11] 7 rfl (by rfl) (by kernel_rfl) (by kernel_rfl) (by kernel_rfl) (by kernel_rfl) (by kernel_rfl) (fun _ _ _ h => h) (Or.inl ⟨by kernel_rfl, ?_⟩) hHeld ?_
  rotate_left
  · intro w' hSw
    (try dsimp only at hSw)
    go_simp
    first | done | with_reducible rfl
  try simp only [Act.put, List.setIfInBounds_toArray, List.set]
  refine PhaseIn.takeD (i := 5) (v := ?_) [5, 6, 9, 10, 11] 8 rfl (by rfl) (by kernel_rfl) (by kernel_rfl) (by kernel_rfl) (by kernel_rfl) (by kernel_rfl) (fun _ _ _ h => h) (Or.inl ⟨by kernel_rfl, ?_⟩) hHeld ?_
  rotate_left
  · intro w' hSw
    (try dsimp only at hSw)
    go_simp
    first | done | with_reducible rfl
  try simp only [Act.put, List.setIfInBounds_toArray, List.set]
  refine PhaseIn.takeD (i := 7) (v := ?_) [7, 8, 9, 10, 11] 10 rfl (by rfl) (by kernel_rfl) (by kernel_rfl) (by kernel_rfl) (by kernel_rfl) (by kernel_rfl) (fun _ _ _ h => h) (Or.inl ⟨by kernel_rfl, ?_⟩) hHeld ?_
  rotate_left
  · intro w' hSw
    (try dsimp only at hSw)
    go_simp
    first | done | with_reducible rfl
  try simp only [Act.put, List.setIfInBounds_toArray, List.set]
  refine PhaseIn.takeD (i := 8) (v := ?_) [8, 9, 10, 11] 11 rfl (by rfl) (by kernel_rfl) (by kernel_rfl) (by kernel_rfl) (by kernel_rfl) (by kernel_rfl) (fun _ _ _ h => h) (Or.inl ⟨by kernel_rfl, ?_⟩) hHeld ?_
  rotate_left
  · intro w' hSw
    (try dsimp only at hSw)
    go_simp
    first | done | with_reducible rfl
  try simp only [Act.put, List.setIfInBounds_toArray, List.set]
  refine PhaseIn.one (i := 6) (by kernel_rfl) rfl (by kernel_rfl) (fun K hK => ?_)
  unfold Oper.wpIn
  refine ⟨fun _ _ => trivial, ?_⟩
  go_simp
  refine ⟨rfl, (callsIn_wide.2 (sumText t.x bx _ _ HX.out OX.out)).mono ?_⟩
  rintro e u ⟨rfl, hb⟩
  have hHeld2 := And.intro (cell_below hb hHeld.1) (And.intro (cell_below hb hHeld.2.1) (And.intro (cell_below hb hHeld.2.2.1) (cell_below hb hHeld.2.2.2)))
  refine hK _ _ (fun _ => hHeld2) ?_
  rw [EX.out]
  replace RZ := hide (RZ.out.below hb)
  replace HY := hide (HY.out.below hb)
  replace BW := hide (BW.out.trans (hb.mono BW.out.size))
  clear hK K hHeld hb HX
  try simp only [Act.put, List.setIfInBounds_toArray, List.set]
  refine PhaseIn.one (i := 9) (by kernel_rfl) rfl (by kernel_rfl) (fun K hK => ?_)
  unfold Oper.wpIn
  refine ⟨fun _ _ => trivial, ?_⟩
  go_simp
  refine ⟨rfl, (callsIn_wide.2 (sumText t.y b _ _ HY.out OY.out)).mono ?_⟩
  rintro e u2 ⟨rfl, hb⟩
  have hHeld := And.intro (cell_below hb hHeld2.1) (And.intro (cell_below hb hHeld2.2.1) (And.intro (cell_below hb hHeld2.2.2.1) (cell_below hb hHeld2.2.2.2)))
  refine hK _ _ (fun _ => hHeld) ?_
  rw [EY.out]
  replace RZ := hide (RZ.out.below hb)
  replace BW := hide (BW.out.trans (hb.mono BW.out.size))
  clear hK K hHeld2 hb HY
  try simp only [Act.put, List.setIfInBounds_toArray, List.set]
  refine PhaseIn.takeD (i := 10) (v := ?_) [10, 11] 13 rfl (by rfl) (by kernel_rfl) (by kernel_rfl) (by kernel_rfl) (by kernel_rfl) (by kernel_rfl) (fun _ _ _ h => h) (Or.inl ⟨by kernel_rfl, ?_⟩) hHeld ?_
  rotate_left
  · intro w' hSw
    (try dsimp only at hSw)
    go_simp
    first | done | with_reducible rfl
  try simp only [Act.put, List.setIfInBounds_toArray, List.set]
  clear hHeld
  have z0 := RZ.out.cell 0 _ rfl
  have z1 := RZ.out.cell 1 _ rfl
  have z2 := RZ.out.cell 2 _ rfl
  have z3 := RZ.out.cell 3 _ rfl
  have s0 := RZ.out.soft 0
  have s1 := RZ.out.soft 1
  have s2 := RZ.out.soft 2
  have s3 := RZ.out.soft 3
  have ZZ := hide ((((RZ.out.set 0 (.int .i64 t.kd) (by simp) (show _ = [.int .i64 t.kd, .int .i64 0, .string ⟨#[]⟩, .string ⟨#[]⟩] from rfl)).set 1 (.int .i64 t.k) (by simp) (show _ = [.int .i64 t.kd, .int .i64 t.k, .string ⟨#[]⟩, .string ⟨#[]⟩] from rfl)).set 2 (.string ⟨X.toArray⟩) (by simp) (show _ = [.int .i64 t.kd, .int .i64 t.k, .string ⟨X.toArray⟩, .string ⟨#[]⟩] from rfl)).set 3 (.string ⟨Y.toArray⟩) (by simp) (show _ = [.int .i64 t.kd, .int .i64 t.k, .string ⟨X.toArray⟩, .string ⟨Y.toArray⟩] from rfl))
  have BB := hide ((((BW.out.setCell (p := ⟨w.heap.size + 1, 0, none⟩) (by show w.heap.size ≤ w.heap.size + 1; omega) (.int .i64 t.kd)).setCell (p := ⟨w.heap.size + 1, 1, none⟩) (by show w.heap.size ≤ w.heap.size + 1; omega) (.int .i64 t.k)).setCell (p := ⟨w.heap.size + 1, 2, none⟩) (by show w.heap.size ≤ w.heap.size + 1; omega) (.string ⟨X.toArray⟩)).setCell (p := ⟨w.heap.size + 1, 3, none⟩) (by show w.heap.size ≤ w.heap.size + 1; omega) (.string ⟨Y.toArray⟩))
  refine PhaseIn.one (i := 11) (by kernel_rfl) rfl (by kernel_rfl) (fun K hK => ?_)
  unfold Oper.wpIn
  refine ⟨fun _ _ => trivial, ?_⟩
  go_simp
  refine hK _ _ (fun h => absurd h (by decide)) ?_
  clear hK K z0 z1 z2 z3 s0 s1 s2 s3 RZ BW
  refine PhaseIn.done (by kernel_rfl) ?_ _
  generalize (((u2.setCell ⟨w.heap.size + 1, 0, none⟩ (.int .i64 t.kd)).setCell ⟨w.heap.size + 1, 1, none⟩ (.int .i64 t.k)).setCell ⟨w.heap.size + 1, 2, none⟩ (.string ⟨X.toArray⟩)).setCell ⟨w.heap.size + 1, 3, none⟩ (.string ⟨Y.toArray⟩) = U at ZZ BB ⊢
  have z0 := ZZ.out.cell 0 _ rfl
  have z1 := ZZ.out.cell 1 _ rfl
  have z2 := ZZ.out.cell 2 _ rfl
  have z3 := ZZ.out.cell 3 _ rfl
  go_wp2
  exact bodyPost_ret (v := .agg #[.int .i64 t.kd, .int .i64 t.k, .string ⟨X.toArray⟩, .string ⟨Y.toArray⟩]) (by simp [results, Try.results32, go_sem, z0, z1, z2, z3]) rfl ⟨rfl, BB.out⟩
end Go.Proofs.Ytagfgbkclopoeaa.Tab
