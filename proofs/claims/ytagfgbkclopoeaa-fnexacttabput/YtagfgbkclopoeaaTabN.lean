/-
  The laws' own eqTabTab and toTabTab.
-/
import Derived.Test.YtagfgbkclopoeaaTabM
namespace Go.Proofs.Ytagfgbkclopoeaa.Tab
set_option linter.unusedVariables false
open Go.ChangeShapes Go.WideShapes Go.ChangeAt Go.RowKit IntS Pol
theorem poly_other {w : World} {lo hi : Nat} {v : Value} {ps : List Mono} (h : WPoly w lo hi v ps) (p : Addr) (x : Value) (hp : p.block < lo ∨ hi ≤ p.block) : WPoly (w.setCell p x) lo hi v ps :=
  h.keep (Keep.of_turn ((Turn.refl p.block w).setCell (p := p) rfl x)) (fun b h1 h2 (h3 : b = _) => by omega)
theorem setCell_size (w : World) (p : Addr) (x : Value) : (w.setCell p x).heap.size = w.heap.size := by simp [World.setCell]
set_option maxRecDepth 8000 in
set_option maxHeartbeats 8000000 in
theorem toTabAtom (t : At) (qx : Option Addr) (cx : Nat) (qy : Option Addr) (cy bx b : Nat) (w : World) (hx : PRow w bx (.slice qx t.x.length cx) t.x) (hy : PRow w b (.slice qy t.y.length cy) t.y) (hs : szA t ≤ 1048576) :
    Calls Try.prog 9 #[.agg #[.int .i64 t.kd, .int .i64 t.k, .slice qx t.x.length cx, .slice qy t.y.length cy]] w fun e w' => ∃ gx gy mid, e = .returned (.agg #[.int .i64 t.kd, .int .i64 t.k, .slice (some ⟨gx, 0, none⟩) t.x.length t.x.length, .slice (some ⟨gy, 0, none⟩) t.y.length t.y.length]) ∧ WPoly w' w.heap.size mid (.slice (some ⟨gx, 0, none⟩) t.x.length t.x.length) t.x ∧ WPoly w' mid w'.heap.size (.slice (some ⟨gy, 0, none⟩) t.y.length t.y.length) t.y ∧ w.heap.size ≤ mid ∧ mid ≤ w'.heap.size ∧ Below w.heap.size w w' := by
  have T := hide (Three.new w [.int .i64 t.kd, .int .i64 t.k, .slice qx t.x.length cx, .slice qy t.y.length cy] [.int .i64 0, .int .i64 0, .slice none 0 0, .slice none 0 0] [.int .i64 t.kd, .int .i64 t.k, .slice none 0 0, .slice none 0 0] 29 42 42)
  have HX := hide hx
  have HY := hide hy
  have SX : Hid (SmallP t.x) := show SmallP _ by unfold SmallP; unfold szA at hs; omega
  have SY : Hid (SmallP t.y) := show SmallP _ by unfold SmallP; unfold szA at hs; omega
  clear hx hy hs
  go_enter Try.func9, Try.ntmps9
  go_wp2_with fail
  refine (toTrmPoly t.x bx _ _ (HX.out.below T.out.bw) SX.out).mono ?_
  rintro e u ⟨gx, rfl, W, hb⟩
  have T0 := T.out.o.lt
  have T1 := T.out.below hb
  have gl := hb.size
  clear T hb HX SX
  have o2 := T1.o.cell 2 _ rfl
  have f2 := T1.o.soft 2
  have a3 := T1.a.cell 3 _ rfl
  have T2 := hide (T1.set 2 (.slice (some ⟨gx, 0, none⟩) t.x.length t.x.length) (by simp) (show _ = [.int .i64 t.kd, .int .i64 t.k, .slice (some ⟨gx, 0, none⟩) t.x.length t.x.length, .slice none 0 0] from rfl))
  have W1 := hide ((poly_other W ⟨w.heap.size + 1 + 1, 2, none⟩ (.slice (some ⟨gx, 0, none⟩) t.x.length t.x.length) (Or.inl T0)).wide (hl := Nat.le_refl _) (hi' := (u.setCell ⟨w.heap.size + 1 + 1, 2, none⟩ (.slice (some ⟨gx, 0, none⟩) t.x.length t.x.length)).heap.size) (by rw [setCell_size]; exact Nat.le_refl _))
  obtain ⟨lo, elo⟩ : ∃ n, n = (((w.alloc (.cells #[.int .i64 t.kd, .int .i64 t.k, .slice qx t.x.length cx, .slice qy t.y.length cy] 29)).alloc (.cells #[.int .i64 0, .int .i64 0, .slice none 0 0, .slice none 0 0] 42)).alloc (.cells #[.int .i64 t.kd, .int .i64 t.k, .slice none 0 0, .slice none 0 0] 42)).heap.size := ⟨_, rfl⟩
  have LO : Hid (w.heap.size + 1 + 1 < lo) := show _ < _ by rw [elo]; exact T0
  have W1' : Hid (WPoly (u.setCell ⟨w.heap.size + 1 + 1, 2, none⟩ (.slice (some ⟨gx, 0, none⟩) t.x.length t.x.length)) lo (u.setCell ⟨w.heap.size + 1 + 1, 2, none⟩ (.slice (some ⟨gx, 0, none⟩) t.x.length t.x.length)).heap.size (.slice (some ⟨gx, 0, none⟩) t.x.length t.x.length) t.x) := show WPoly _ _ _ _ _ by rw [elo]; exact W1.out
  clear T1 W elo T0 gl W1
  go_wp2_with fail
  generalize u.setCell ⟨w.heap.size + 1 + 1, 2, none⟩ (.slice (some ⟨gx, 0, none⟩) t.x.length t.x.length) = V1 at T2 W1' ⊢
  clear o2 f2 a3
  refine (toTrmPoly t.y b _ _ (HY.out.below T2.out.bw) SY.out).mono ?_
  rintro e u2 ⟨gy, rfl, W2, hb⟩
  have T0 := T2.out.o.lt
  have T3 := T2.out.below hb
  have W3 := W1'.out.below hb
  have gl := hb.size
  clear T2 hb HY SY W1'
  have o0 := T3.o.cell 0 _ rfl
  have o1 := T3.o.cell 1 _ rfl
  have o2 := T3.o.cell 2 _ rfl
  have o3 := T3.o.cell 3 _ rfl
  have f3 := T3.o.soft 3
  have z0 := T3.z.cell 0 _ rfl
  have z1 := T3.z.cell 1 _ rfl
  have z2 := T3.z.cell 2 _ rfl
  have z3 := T3.z.cell 3 _ rfl
  have x0 := T3.z.soft 0
  have x1 := T3.z.soft 1
  have x2 := T3.z.soft 2
  have x3 := T3.z.soft 3
  have T4 := T3.set 3 (.slice (some ⟨gy, 0, none⟩) t.y.length t.y.length) (by simp) (show _ = [.int .i64 t.kd, .int .i64 t.k, .slice (some ⟨gx, 0, none⟩) t.x.length t.x.length, .slice (some ⟨gy, 0, none⟩) t.y.length t.y.length] from rfl)
  have W4 := poly_other W3 ⟨w.heap.size + 1 + 1, 3, none⟩ (.slice (some ⟨gy, 0, none⟩) t.y.length t.y.length) (Or.inl LO.out)
  have W5 := poly_other W2 ⟨w.heap.size + 1 + 1, 3, none⟩ (.slice (some ⟨gy, 0, none⟩) t.y.length t.y.length) (Or.inl T0)
  have G1 : Hid (w.heap.size + 1 < lo) := show _ < _ by have := LO.out; omega
  have G2 : Hid (w.heap.size + 1 < V1.heap.size) := show _ < _ by omega
  have ZZ := hide ((((T4.z.set 0 (.int .i64 t.kd) (by simp) (show _ = [.int .i64 t.kd, .int .i64 0, .slice none 0 0, .slice none 0 0] from rfl)).set 1 (.int .i64 t.k) (by simp) (show _ = [.int .i64 t.kd, .int .i64 t.k, .slice none 0 0, .slice none 0 0] from rfl)).set 2 (.slice (some ⟨gx, 0, none⟩) t.x.length t.x.length) (by simp) (show _ = [.int .i64 t.kd, .int .i64 t.k, .slice (some ⟨gx, 0, none⟩) t.x.length t.x.length, .slice none 0 0] from rfl)).set 3 (.slice (some ⟨gy, 0, none⟩) t.y.length t.y.length) (by simp) (show _ = [.int .i64 t.kd, .int .i64 t.k, .slice (some ⟨gx, 0, none⟩) t.x.length t.x.length, .slice (some ⟨gy, 0, none⟩) t.y.length t.y.length] from rfl))
  have WX := hide (poly_other (poly_other (poly_other (poly_other W4 ⟨w.heap.size + 1, 0, none⟩ (.int .i64 t.kd) (Or.inl G1.out)) ⟨w.heap.size + 1, 1, none⟩ (.int .i64 t.k) (Or.inl G1.out)) ⟨w.heap.size + 1, 2, none⟩ (.slice (some ⟨gx, 0, none⟩) t.x.length t.x.length) (Or.inl G1.out)) ⟨w.heap.size + 1, 3, none⟩ (.slice (some ⟨gy, 0, none⟩) t.y.length t.y.length) (Or.inl G1.out))
  have WY := hide (poly_other (poly_other (poly_other (poly_other W5 ⟨w.heap.size + 1, 0, none⟩ (.int .i64 t.kd) (Or.inl G2.out)) ⟨w.heap.size + 1, 1, none⟩ (.int .i64 t.k) (Or.inl G2.out)) ⟨w.heap.size + 1, 2, none⟩ (.slice (some ⟨gx, 0, none⟩) t.x.length t.x.length) (Or.inl G2.out)) ⟨w.heap.size + 1, 3, none⟩ (.slice (some ⟨gy, 0, none⟩) t.y.length t.y.length) (Or.inl G2.out))
  have BB := hide ((((T4.bw.setCell (p := ⟨w.heap.size + 1, 0, none⟩) (by show w.heap.size ≤ w.heap.size + 1; omega) (.int .i64 t.kd)).setCell (p := ⟨w.heap.size + 1, 1, none⟩) (by show w.heap.size ≤ w.heap.size + 1; omega) (.int .i64 t.k)).setCell (p := ⟨w.heap.size + 1, 2, none⟩) (by show w.heap.size ≤ w.heap.size + 1; omega) (.slice (some ⟨gx, 0, none⟩) t.x.length t.x.length)).setCell (p := ⟨w.heap.size + 1, 3, none⟩) (by show w.heap.size ≤ w.heap.size + 1; omega) (.slice (some ⟨gy, 0, none⟩) t.y.length t.y.length))
  have SZ : Hid (u2.heap.size = (((((u2.setCell ⟨w.heap.size + 1 + 1, 3, none⟩ (.slice (some ⟨gy, 0, none⟩) t.y.length t.y.length)).setCell ⟨w.heap.size + 1, 0, none⟩ (.int .i64 t.kd)).setCell ⟨w.heap.size + 1, 1, none⟩ (.int .i64 t.k)).setCell ⟨w.heap.size + 1, 2, none⟩ (.slice (some ⟨gx, 0, none⟩) t.x.length t.x.length)).setCell ⟨w.heap.size + 1, 3, none⟩ (.slice (some ⟨gy, 0, none⟩) t.y.length t.y.length)).heap.size) := show _ = _ by simp only [setCell_size]
  have GL := hide gl
  clear T3 T4 W4 W5 W3 W2 gl T0
  go_wp2
  generalize ((((u2.setCell ⟨w.heap.size + 1 + 1, 3, none⟩ (.slice (some ⟨gy, 0, none⟩) t.y.length t.y.length)).setCell ⟨w.heap.size + 1, 0, none⟩ (.int .i64 t.kd)).setCell ⟨w.heap.size + 1, 1, none⟩ (.int .i64 t.k)).setCell ⟨w.heap.size + 1, 2, none⟩ (.slice (some ⟨gx, 0, none⟩) t.x.length t.x.length)).setCell ⟨w.heap.size + 1, 3, none⟩ (.slice (some ⟨gy, 0, none⟩) t.y.length t.y.length) = V at ZZ WX WY BB SZ ⊢
  have z0 := ZZ.out.cell 0 _ rfl
  have z1 := ZZ.out.cell 1 _ rfl
  have z2 := ZZ.out.cell 2 _ rfl
  have z3 := ZZ.out.cell 3 _ rfl
  exact bodyPost_ret (v := .agg #[.int .i64 t.kd, .int .i64 t.k, .slice (some ⟨gx, 0, none⟩) t.x.length t.x.length, .slice (some ⟨gy, 0, none⟩) t.y.length t.y.length]) (by simp [results, Try.results9, go_sem, z0, z1, z2, z3]) rfl ⟨gx, gy, V1.heap.size, rfl, WX.out.wide (by have := G1.out; omega) (Nat.le_refl _), WY.out.wide (Nat.le_refl _) (by rw [← SZ.out]; exact Nat.le_refl _), by have := G2.out; omega, by rw [← SZ.out]; exact GL.out, BB.out⟩
end Go.Proofs.Ytagfgbkclopoeaa.Tab
