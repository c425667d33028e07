/-
  The program's MchNew.
-/
import Derived.Test.YtlgpnogeoaoidaaMchJ
import Derived.Deep.RegionWith
namespace Go.Proofs.Ytlgpnogeoaoidaa.Mch
open Go.ChangeShapes Go.WideShapes Go.ChangeAt Go.RowKit IntS
def emptyM : M := ⟨[], 0, [], 0, false, false, 0, [], [], 0⟩
def newM (ws is : List Int) : M := ⟨[0, 0, 0, 0], 0, ws ++ List.replicate (64 - ws.length) 0, 0, false, false, 0, is, [], 0⟩
def newOf (ws is : List Int) : M := if decide (ws.length ≤ 64) && wordsB ws && wordsB is then newM ws is else emptyM
theorem row_nil (w : World) (B : Nat) : WRow w B (.slice none 0 0) [] := ⟨none, 0, 0, rfl, Nat.le_refl _, by unfold maxLen; omega, fun _ => rfl, Or.inl rfl⟩
theorem empty_mach (w : World) (lo : Nat) : WMach w lo [.slice none 0 0, .int .i64 0, .slice none 0 0, .int .i64 0, .bool false, .bool false, .int .i64 0, .slice none 0 0, .slice none 0 0, .int .i64 0] emptyM :=
  ⟨_, _, _, _, lo, lo + 1, lo + 2, lo + 3, rfl, row_nil _ _, row_nil _ _, row_nil _ _, row_nil _ _, by omega, by omega, by omega, by omega, by omega, by omega, by omega, by omega, by omega, by omega⟩
theorem new_no {ws is : List Int} (h : (decide (ws.length ≤ 64) && wordsB ws && wordsB is) = false) : newOf ws is = emptyM := by unfold newOf; rw [h]; rfl
theorem new_yes {ws is : List Int} (h1 : ws.length ≤ 64) (h2 : wordsB ws = true) (h3 : wordsB is = true) : newOf ws is = newM ws is := by unfold newOf; simp [h1, h2, h3]
theorem Rec.ten {Z : Nat} {x0 x1 x2 x3 x4 x5 x6 x7 x8 x9 : Value} {w : World} (h : Rec Z [x0, x1, x2, x3, x4, x5, x6, x7, x8, x9] w) (v0 v1 v2 v3 v4 v5 v6 v7 v8 v9 : Value) : Rec Z [v0, v1, v2, v3, v4, v5, v6, v7, v8, v9] ((((((((((w.setCell ⟨Z, 0, none⟩ v0).setCell ⟨Z, 1, none⟩ v1).setCell ⟨Z, 2, none⟩ v2).setCell ⟨Z, 3, none⟩ v3).setCell ⟨Z, 4, none⟩ v4).setCell ⟨Z, 5, none⟩ v5).setCell ⟨Z, 6, none⟩ v6).setCell ⟨Z, 7, none⟩ v7).setCell ⟨Z, 8, none⟩ v8).setCell ⟨Z, 9, none⟩ v9) :=
  (((((((((h.set 0 v0 (by simp) rfl).set 1 v1 (by simp) rfl).set 2 v2 (by simp) rfl).set 3 v3 (by simp) rfl).set 4 v4 (by simp) rfl).set 5 v5 (by simp) rfl).set 6 v6 (by simp) rfl).set 7 v7 (by simp) rfl).set 8 v8 (by simp) rfl).set 9 v9 (by simp) rfl
end Go.Proofs.Ytlgpnogeoaoidaa.Mch
namespace Go.Proofs.Ytlgpnogeoaoidaa.MchI
open Go.ChangeShapes Go.WideShapes Go.ChangeAt Go.RowKit IntS Mch
theorem wpList_make_ints {w : World} {ops : Array Oper} {rest : List Oper} {o : Oper} {a : Act} {Q : Exit → Act → World → Prop} (hgd : o.guard = none) (x y : Operand) (ho : o.op = .makeSlice 22 x y)
    (n : Nat) (hx : a.eval x = .int .i64 n) (hy : a.eval y = .int .i64 n) (hn : n ≤ 1000000000000)
    (h : ∀ w' : World, Hid (w'.heap[w.heap.size]? = some (.cells (List.replicate n (Value.int .i64 0)).toArray 3 (0, 0))) → Hid (Below w.heap.size w w') → Hid (w'.heap.size = w.heap.size + 1) → wpList Try.prog ops Q rest (a.put o.dst (.slice (some ⟨w.heap.size, 0, none⟩) n n)) w') : wpList Try.prog ops Q (o :: rest) a w := by
  have hmk := run_make_row' (P := Try.prog) 22 3 (.int .i64 0) 8 Try.underlying22 (by kernel_rfl) rfl .i64 .i64 n (by omega) (by omega) w
  refine wpList_plain hgd fun K hK => ?_
  unfold Oper.wp
  simp [execOp, ho, hx, hy, hmk, Result.andThen]
  exact hK _ _ (h _ (made_heap w n _) ((Below.refl _ _).alloc (Nat.le_refl _) _) (show _ = _ by simp))
theorem mem_form {ws : List Int} (h : ws.length ≤ 64) : splice (List.replicate 64 (Value.int .i64 0)) 0 (vals ws) = vals (ws ++ List.replicate (64 - ws.length) 0) := by
  have key : ∀ n, ws.length ≤ n → splice (List.replicate n (Value.int .i64 0)) 0 (vals ws) = vals (ws ++ List.replicate (n - ws.length) 0) := fun n hn => by
    simp [splice, vals, List.map_replicate]
  exact key 64 h
theorem heap_ten {u : World} {Z g : Nat} (hZ : g ≠ Z) (v0 v1 v2 v3 v4 v5 v6 v7 v8 v9 : Value) : ((((((((((u.setCell ⟨Z, 0, none⟩ v0).setCell ⟨Z, 1, none⟩ v1).setCell ⟨Z, 2, none⟩ v2).setCell ⟨Z, 3, none⟩ v3).setCell ⟨Z, 4, none⟩ v4).setCell ⟨Z, 5, none⟩ v5).setCell ⟨Z, 6, none⟩ v6).setCell ⟨Z, 7, none⟩ v7).setCell ⟨Z, 8, none⟩ v8).setCell ⟨Z, 9, none⟩ v9).heap[g]? = u.heap[g]? := by
  rw [Below.heap_setCell _ _ _ _ hZ, Below.heap_setCell _ _ _ _ hZ, Below.heap_setCell _ _ _ _ hZ, Below.heap_setCell _ _ _ _ hZ, Below.heap_setCell _ _ _ _ hZ, Below.heap_setCell _ _ _ _ hZ, Below.heap_setCell _ _ _ _ hZ, Below.heap_setCell _ _ _ _ hZ, Below.heap_setCell _ _ _ _ hZ, Below.heap_setCell _ _ _ _ hZ]
theorem row_ten {u : World} {B Z : Nat} {v : Value} {xs : List Int} (h : WRow u B v xs) (hZ : Z ≠ B) (v0 v1 v2 v3 v4 v5 v6 v7 v8 v9 : Value) : WRow ((((((((((u.setCell ⟨Z, 0, none⟩ v0).setCell ⟨Z, 1, none⟩ v1).setCell ⟨Z, 2, none⟩ v2).setCell ⟨Z, 3, none⟩ v3).setCell ⟨Z, 4, none⟩ v4).setCell ⟨Z, 5, none⟩ v5).setCell ⟨Z, 6, none⟩ v6).setCell ⟨Z, 7, none⟩ v7).setCell ⟨Z, 8, none⟩ v8).setCell ⟨Z, 9, none⟩ v9) B v xs :=
  other_row (other_row (other_row (other_row (other_row (other_row (other_row (other_row (other_row (other_row h _ _ hZ) _ _ hZ) _ _ hZ) _ _ hZ) _ _ hZ) _ _ hZ) _ _ hZ) _ _ hZ) _ _ hZ) _ _ hZ
theorem row_four (w : World) : WRow (w.alloc (.cells #[.int .i64 0, .int .i64 0, .int .i64 0, .int .i64 0] 3)) w.heap.size (.slice (some ⟨w.heap.size, 0, none⟩) 4 4) [0, 0, 0, 0] := by
  refine ⟨some ⟨w.heap.size, 0, none⟩, 4, 0, rfl, Nat.le_refl _, by unfold maxLen; omega, (fun h => by cases h), Or.inr ⟨rfl, by simp, fun i x hx => ⟨?_, by simp⟩⟩⟩
  rw [World.cell?_alloc_new]
  match i, hx with
  | 0, hx => cases hx; rfl
  | 1, hx => cases hx; rfl
  | 2, hx => cases hx; rfl
  | 3, hx => cases hx; rfl
  | i + 4, hx => simp at hx
theorem own_row {w : World} {base g n cap : Nat} {xs : List Int} (h : Own w base (.slice (some ⟨g, 0, none⟩) n cap) xs) : WRow w g (.slice (some ⟨g, 0, none⟩) n cap) xs := by
  obtain ⟨g', cap', hv, _, _, hr⟩ := h.form (by simp)
  cases hv
  exact hr
theorem new_fin {w V : World} {gr gm gi : Nat} {ws is : List Int} (h1 : WRow V gr (.slice (some ⟨gr, 0, none⟩) 4 4) [0, 0, 0, 0]) (h2 : WRow V gm (.slice (some ⟨gm, 0, none⟩) 64 64) (ws ++ List.replicate (64 - ws.length) 0)) (h3 : WRow V gi (.slice (some ⟨gi, 0, none⟩) is.length is.length) is)
    (l1 : w.heap.size ≤ gr) (l2 : w.heap.size ≤ gm) (l3 : w.heap.size ≤ gi) (d1 : gr ≠ gm) (d2 : gr ≠ gi) (d3 : gm ≠ gi) : WMach V w.heap.size [.slice (some ⟨gr, 0, none⟩) 4 4, .int .i64 0, .slice (some ⟨gm, 0, none⟩) 64 64, .int .i64 0, .bool false, .bool false, .int .i64 0, .slice (some ⟨gi, 0, none⟩) is.length is.length, .slice none 0 0, .int .i64 0] (newM ws is) :=
  ⟨_, _, _, _, gr, gm, gi, w.heap.size + gr + gm + gi + 1, rfl, h1, h2, h3, row_nil _ _, l1, l2, l3, by omega, d1, d2, by omega, d3, by omega, by omega⟩
theorem new_fin2 {w V : World} {gr gm gi : Nat} {ws is : List Int} (h2 : WRow V gm (.slice (some ⟨gm, 0, none⟩) 64 64) (ws ++ List.replicate (64 - ws.length) 0)) (h3 : WRow V gi (.slice (some ⟨gi, 0, none⟩) is.length is.length) is)
    (e : V.heap.size = gr) (l2 : w.heap.size ≤ gm) (l3 : w.heap.size ≤ gi) (d1 : gm < gr) (d2 : gi < gr) (d3 : gm ≠ gi) : WMach (V.alloc (.cells #[.int .i64 0, .int .i64 0, .int .i64 0, .int .i64 0] 3)) w.heap.size [.slice (some ⟨gr, 0, none⟩) 4 4, .int .i64 0, .slice (some ⟨gm, 0, none⟩) 64 64, .int .i64 0, .bool false, .bool false, .int .i64 0, .slice (some ⟨gi, 0, none⟩) is.length is.length, .slice none 0 0, .int .i64 0] (newM ws is) := by
  subst e
  have hb : Below V.heap.size V (V.alloc (.cells #[.int .i64 0, .int .i64 0, .int .i64 0, .int .i64 0] 3)) := (Below.refl _ _).alloc (Nat.le_refl _) _
  exact new_fin (row_four V) (h2.below hb) (h3.below hb) (by omega) l2 l3 (by omega) (by omega) d3
theorem make_four (u : World) : (Instr.makeSlice 22 (.int .i64 4) (.int .i64 4)).run Try.prog u = .ok (.slice (some ⟨u.heap.size, 0, none⟩) 4 4) (u.alloc (.cells #[.int .i64 0, .int .i64 0, .int .i64 0, .int .i64 0] 3)) := by
  have e : madeCells #[.int .i64 0] 4 = #[.int .i64 0, .int .i64 0, .int .i64 0, .int .i64 0] := by rw [made_zero]; rfl
  rw [← e]
  exact run_make_row' (P := Try.prog) 22 3 (.int .i64 0) 8 Try.underlying22 (by kernel_rfl) rfl .i64 .i64 4 (by omega) (by omega) u
end Go.Proofs.Ytlgpnogeoaoidaa.MchI
