/-
  The program's MchNew.
-/
import Derived.Test.YtpbpabcokfblfaaMchJ
import Derived.Deep.RegionWith
namespace Go.Proofs.Ytpbpabcokfblfaa.Mch
open Go.ChangeShapes Go.WideShapes Go.ChangeAt Go.RowKit IntS
def emptyM : M := ⟨[], 0, [], 0, false, false, 0, [], [], 0⟩
def newM (ws is : List Int) : M := ⟨[0, 0, 0, 0], 0, ws ++ List.replicate (64 - ws.length) 0, 0, false, false, 0, is, [], 0⟩
def newOf (ws is : List Int) : M := if decide (ws.length ≤ 64) && wordsB ws && wordsB is then newM ws is else emptyM
theorem row_nil (w : World) (B : Nat) : WRow w B (.slice none 0 0) [] := ⟨none, 0, 0, rfl, Nat.le_refl _, by unfold maxLen; omega, fun _ => rfl, Or.inl rfl⟩
theorem empty_mach (w : World) (lo : Nat) : WMach w lo [.slice none 0 0, .int .i64 0, .slice none 0 0, .int .i64 0, .bool false, .bool false, .int .i64 0, .slice none 0 0, .slice none 0 0, .int .i64 0] emptyM :=
  ⟨_, _, _, _, lo, lo + 1, lo + 2, lo + 3, rfl, row_nil _ _, row_nil _ _, row_nil _ _, row_nil _ _, by omega, by omega, by omega, by omega, by omega, by omega, by omega, by omega, by omega, by omega⟩
theorem new_no {ws is : List Int} (h : (decide (ws.length ≤ 64) && wordsB ws && wordsB is) = false) : newOf ws is = emptyM := by unfold newOf; rw [h]; rfl
theorem new_yes {ws is : List Int} (h1 : ws.length ≤ 64) (h2 : wordsB ws = true) (h3 : wordsB is = true) : newOf ws is = newM ws is := by unfold newOf; simp [h1, h2, h3]
theorem Rec.ten {Z : Nat} {x0 x1 x2 x3 x4 x5 x6 x7 x8 x9 : Value} {w : World} (h : Rec Z [x0, x1, x2, x3, x4, x5, x6, x7, x8, x9] w) (v0 v1 v2 v3 v4 v5 v6 v7 v8 v9 : Value) : Rec Z [v0, v1, v2, v3, v4, v5, v6, v7, v8, v9] ((((((((((w.setCell ⟨Z, 0, none⟩ v0).setCell ⟨Z, 1, none⟩ v1).setCell ⟨Z, 2, none⟩ v2).setCell ⟨Z, 3, none⟩ v3).setCell ⟨Z, 4, none⟩ v4).setCell ⟨Z, 5, none⟩ v5).setCell ⟨Z, 6, none⟩ v6).setCell ⟨Z, 7, none⟩ v7).setCell ⟨Z, 8, none⟩ v8).setCell ⟨Z, 9, none⟩ v9) :=
  (((((((((h.set 0 v0 (by simp) rfl).set 1 v1 (by simp) rfl).set 2 v2 (by simp) rfl).set 3 v3 (by simp) rfl).set 4 v4 (by simp) rfl).set 5 v5 (by simp) rfl).set 6 v6 (by simp) rfl).set 7 v7 (by simp) rfl).set 8 v8 (by simp) rfl).set 9 v9 (by simp) rfl
end Go.Proofs.Ytpbpabcokfblfaa.Mch
namespace Go.Proofs.Ytpbpabcokfblfaa.MchI
open Go.ChangeShapes Go.WideShapes Go.ChangeAt Go.RowKit IntS Mch
theorem wpList_make_ints {w : World} {ops : Array Oper} {rest : List Oper} {o : Oper} {a : Act} {Q : Exit → Act → World → Prop} (hgd : o.guard = none) (x y : Operand) (ho : o.op = .makeSlice 23 x y)
    (n : Nat) (hx : a.eval x = .int .i64 n) (hy : a.eval y = .int .i64 n) (hn : n ≤ 1000000000000)
    (h : ∀ w' : World, Hid (w'.heap[w.heap.size]? = some (.cells (List.replicate n (Value.int .i64 0)).toArray 3 (0, 0))) → Hid (Below w.heap.size w w') → Hid (w'.heap.size = w.heap.size + 1) → wpList Try.prog ops Q rest (a.put o.dst (.slice (some ⟨w.heap.size, 0, none⟩) n n)) w') : wpList Try.prog ops Q (o :: rest) a w := by
  have hmk := run_make_row' (P := Try.prog) 23 3 (.int .i64 0) 8 Try.underlying23 (by kernel_rfl) rfl .i64 .i64 n (by omega) (by omega) w
  refine wpList_plain hgd fun K hK => ?_
  unfold Oper.wp
  simp [execOp, ho, hx, hy, hmk, Result.andThen]
  exact hK _ _ (h _ (made_heap w n _) ((Below.refl _ _).alloc (Nat.le_refl _) _) (show _ = _ by simp))
theorem mem_form {ws : List Int} (h : ws.length ≤ 64) : splice (List.replicate 64 (Value.int .i64 0)) 0 (vals ws) = vals (ws ++ List.replicate (64 - ws.length) 0) := by
  have key : ∀ n, ws.length ≤ n → splice (List.replicate n (Value.int .i64 0)) 0 (vals ws) = vals (ws ++ List.replicate (n - ws.length) 0) := fun n hn => by
    simp [splice, vals, List.map_replicate]
  exact key 64 h
theorem heap_ten {u : World} {Z g : Nat} (hZ : g ≠ Z) (v0 v1 v2 v3 v4 v5 v6 v7 v8 v9 : Value) : ((((((((((u.setCell ⟨Z, 0, none⟩ v0).setCell ⟨Z, 1, none⟩ v1).setCell ⟨Z, 2, none⟩ v2).setCell ⟨Z, 3, none⟩ v3).setCell ⟨Z, 4, none⟩ v4).setCell ⟨Z, 5, none⟩ v5).setCell ⟨Z, 6, none⟩ v6).setCell ⟨Z, 7, none⟩ v7).setCell ⟨Z, 8, none⟩ v8).setCell ⟨Z, 9, none⟩ v9).heap[g]? = u.heap[g]? := by
  rw [Below.heap_setCell _ _ _ _ hZ, Below.heap_setCell _ _ _ _ hZ, Below.heap_setCell _ _ _ _ hZ, Below.heap_setCell _ _ _ _ hZ, Below.heap_setCell _ _ _ _ hZ, Below.heap_setCell _ _ _ _ hZ, Below.heap_setCell _ _ _ _ hZ, Below.heap_setCell _ _ _ _ hZ, Below.heap_setCell _ _ _ _ hZ, Below.heap_setCell _ _ _ _ hZ]
theorem row_ten {u : World} {B Z : Nat} {v : Value} {xs : List Int} (h : WRow u B v xs) (hZ : Z ≠ B) (v0 v1 v2 v3 v4 v5 v6 v7 v8 v9 : Value) : WRow ((((((((((u.setCell ⟨Z, 0, none⟩ v0).setCell ⟨Z, 1, none⟩ v1).setCell ⟨Z, 2, none⟩ v2).setCell ⟨Z, 3, none⟩ v3).setCell ⟨Z, 4, none⟩ v4).setCell ⟨Z, 5, none⟩ v5).setCell ⟨Z, 6, none⟩ v6).setCell ⟨Z, 7, none⟩ v7).setCell ⟨Z, 8, none⟩ v8).setCell ⟨Z, 9, none⟩ v9) B v xs :=
  other_row (other_row (other_row (other_row (other_row (other_row (other_row (other_row (other_row (other_row h _ _ hZ) _ _ hZ) _ _ hZ) _ _ hZ) _ _ hZ) _ _ hZ) _ _ hZ) _ _ hZ) _ _ hZ) _ _ hZ
theorem row_four (w : World) : WRow (w.alloc (.cells #[.int .i64 0, .int .i64 0, .int .i64 0, .int .i64 0] 3)) w.heap.size (.slice (some ⟨w.heap.size, 0, none⟩) 4 4) [0, 0, 0, 0] := by
  refine ⟨some ⟨w.heap.size, 0, none⟩, 4, 0, rfl, Nat.le_refl _, by unfold maxLen; omega, (fun h => by cases h), Or.inr ⟨rfl, by simp, fun i x hx => ⟨?_, by simp⟩⟩⟩
  rw [World.cell?_alloc_new]
  match i, hx with
  | 0, hx => cases hx; rfl
  | 1, hx => cases hx; rfl
  | 2, hx => cases hx; rfl
  | 3, hx => cases hx; rfl
  | i + 4, hx => simp at hx
theorem own_row {w : World} {base g n cap : Nat} {xs : List Int} (h : Own w base (.slice (some ⟨g, 0, none⟩) n cap) xs) : WRow w g (.slice (some ⟨g, 0, none⟩) n cap) xs := by
  obtain ⟨g', cap', hv, _, _, hr⟩ := h.form (by simp)
  cases hv
  exact hr
theorem new_fin {w V : World} {gr gm gi : Nat} {ws is : List Int} (h1 : WRow V gr (.slice (some ⟨gr, 0, none⟩) 4 4) [0, 0, 0, 0]) (h2 : WRow V gm (.slice (some ⟨gm, 0, none⟩) 64 64) (ws ++ List.replicate (64 - ws.length) 0)) (h3 : WRow V gi (.slice (some ⟨gi, 0, none⟩) is.length is.length) is)
    (l1 : w.heap.size ≤ gr) (l2 : w.heap.size ≤ gm) (l3 : w.heap.size ≤ gi) (d1 : gr ≠ gm) (d2 : gr ≠ gi) (d3 : gm ≠ gi) : WMach V w.heap.size [.slice (some ⟨gr, 0, none⟩) 4 4, .int .i64 0, .slice (some ⟨gm, 0, none⟩) 64 64, .int .i64 0, .bool false, .bool false, .int .i64 0, .slice (some ⟨gi, 0, none⟩) is.length is.length, .slice none 0 0, .int .i64 0] (newM ws is) :=
  ⟨_, _, _, _, gr, gm, gi, w.heap.size + gr + gm + gi + 1, rfl, h1, h2, h3, row_nil _ _, l1, l2, l3, by omega, d1, d2, by omega, d3, by omega, by omega⟩
theorem new_fin2 {w V : World} {gr gm gi : Nat} {ws is : List Int} (h2 : WRow V gm (.slice (some ⟨gm, 0, none⟩) 64 64) (ws ++ List.replicate (64 - ws.length) 0)) (h3 : WRow V gi (.slice (some ⟨gi, 0, none⟩) is.length is.length) is)
    (e : V.heap.size = gr) (l2 : w.heap.size ≤ gm) (l3 : w.heap.size ≤ gi) (d1 : gm < gr) (d2 : gi < gr) (d3 : gm ≠ gi) : WMach (V.alloc (.cells #[.int .i64 0, .int .i64 0, .int .i64 0, .int .i64 0] 3)) w.heap.size [.slice (some ⟨gr, 0, none⟩) 4 4, .int .i64 0, .slice (some ⟨gm, 0, none⟩) 64 64, .int .i64 0, .bool false, .bool false, .int .i64 0, .slice (some ⟨gi, 0, none⟩) is.length is.length, .slice none 0 0, .int .i64 0] (newM ws is) := by
  subst e
  have hb : Below V.heap.size V (V.alloc (.cells #[.int .i64 0, .int .i64 0, .int .i64 0, .int .i64 0] 3)) := (Below.refl _ _).alloc (Nat.le_refl _) _
  exact new_fin (row_four V) (h2.below hb) (h3.below hb) (by omega) l2 l3 (by omega) (by omega) d3
theorem make_four (u : World) : (Instr.makeSlice 23 (.int .i64 4) (.int .i64 4)).run Try.prog u = .ok (.slice (some ⟨u.heap.size, 0, none⟩) 4 4) (u.alloc (.cells #[.int .i64 0, .int .i64 0, .int .i64 0, .int .i64 0] 3)) := by
  have e : madeCells #[.int .i64 0] 4 = #[.int .i64 0, .int .i64 0, .int .i64 0, .int .i64 0] := by rw [made_zero]; rfl
  rw [← e]
  exact run_make_row' (P := Try.prog) 23 3 (.int .i64 0) 8 Try.underlying23 (by kernel_rfl) rfl .i64 .i64 4 (by omega) (by omega) u
set_option maxRecDepth 8000 in
set_option maxHeartbeats 4000000 in
theorem mchNew (ws is : List Int) (B B' : Nat) (v v' : Value) (w : World) (h : Row w B v ws) (h' : Row w B' v' is) (hn : is.length ≤ 2000000) :
    Calls Try.prog 5 #[v, v'] w fun e w' => ∃ c, e = .returned (.agg c.toArray) ∧ WMach w' w.heap.size c (newOf ws is) ∧ Below w.heap.size w w' := by
  have T := hide (One.new w [.slice none 0 0, .int .i64 0, .slice none 0 0, .int .i64 0, .bool false, .bool false, .int .i64 0, .slice none 0 0, .slice none 0 0, .int .i64 0] 27)
  have H1 := hide (h.below T.out.bw)
  have H2 := hide (h'.below T.out.bw)
  obtain ⟨a1, k1, o1, rfl, p1, q1, z1, r1⟩ := h
  obtain ⟨a2, k2, o2, rfl, p2, q2, z2, r2⟩ := h'
  have HN := hide hn
  have P1 := hide p1
  clear z1 z2 r1 r2 q1 q2 p2 p1 hn
  have no : (decide (ws.length ≤ 64) && wordsB ws && wordsB is) = false → ∀ u : World, Below w.heap.size w u → ∃ c, Ending.returned (.agg #[.slice none 0 0, .int .i64 0, .slice none 0 0, .int .i64 0, .bool false, .bool false, .int .i64 0, .slice none 0 0, .slice none 0 0, .int .i64 0]) = .returned (.agg c.toArray) ∧ WMach u w.heap.size c (newOf ws is) ∧ Below w.heap.size w u := fun hno u hu => ⟨_, rfl, by rw [new_no hno]; exact empty_mach _ _, hu⟩
  replace no := hide no
  by_cases g1 : ws.length ≤ 64
  case neg =>
    have t1 : (64 : Int) < ws.length := by omega
    have hno : Hid ((decide (ws.length ≤ 64) && wordsB ws && wordsB is) = false) := show _ = _ by simp [g1]
    clear g1
    go_enter Try.func5, Try.ntmps5
    go_wp2
    refine bodyPost_ret (v := .agg #[.slice none 0 0, .int .i64 0, .slice none 0 0, .int .i64 0, .bool false, .bool false, .int .i64 0, .slice none 0 0, .slice none 0 0, .int .i64 0]) (by simp [results, Try.results5, go_sem]) rfl (no.out hno.out _ ?_)
    go_grown
  have t1 : ¬ (64 : Int) < ws.length := by omega
  have G1 := hide g1
  clear g1
  go_enter Try.func5, Try.ntmps5
  go_wp2_with fail
  refine (allWords ws B _ _ H1.out).mono ?_
  rintro e u ⟨rfl, rfl⟩
  cases x1 : wordsB ws with
  | false =>
    have hno : Hid ((decide (ws.length ≤ 64) && wordsB ws && wordsB is) = false) := show _ = _ by simp [x1]
    clear x1
    go_wp2
    refine bodyPost_ret (v := .agg #[.slice none 0 0, .int .i64 0, .slice none 0 0, .int .i64 0, .bool false, .bool false, .int .i64 0, .slice none 0 0, .slice none 0 0, .int .i64 0]) (by simp [results, Try.results5, go_sem]) rfl (no.out hno.out _ ?_)
    go_grown
  | true =>
    have X1 := hide x1
    clear x1
    go_wp2_with fail
    refine (allWords is B' _ _ H2.out).mono ?_
    rintro e u ⟨rfl, rfl⟩
    cases x2 : wordsB is with
    | false =>
      have hno : Hid ((decide (ws.length ≤ 64) && wordsB ws && wordsB is) = false) := show _ = _ by simp [x2]
      clear x2
      go_wp2
      refine bodyPost_ret (v := .agg #[.slice none 0 0, .int .i64 0, .slice none 0 0, .int .i64 0, .bool false, .bool false, .int .i64 0, .slice none 0 0, .slice none 0 0, .int .i64 0]) (by simp [results, Try.results5, go_sem]) rfl (no.out hno.out _ ?_)
      go_grown
    | true =>
      have X2 := hide x2
      clear x2 no
      have S0 : Hid ((w.alloc (.cells #[.slice none 0 0, .int .i64 0, .slice none 0 0, .int .i64 0, .bool false, .bool false, .int .i64 0, .slice none 0 0, .slice none 0 0, .int .i64 0] 27)).heap.size = w.heap.size + 1) := show _ = _ by simp
      generalize w.alloc (.cells #[.slice none 0 0, .int .i64 0, .slice none 0 0, .int .i64 0, .bool false, .bool false, .int .i64 0, .slice none 0 0, .slice none 0 0, .int .i64 0] 27) = u0 at T H1 H2 S0 ⊢
      have L1 : Hid ((vals ws).length = Nat.min ws.length 64) := show _ = _ by rw [vals_len]; exact (Nat.min_eq_left G1.out).symm
      have L2 : Hid (0 + (vals ws).length ≤ (List.replicate 64 (Value.int .i64 0)).length) := show _ ≤ _ by rw [vals_len]; have := G1.out; simp only [List.length_replicate]; omega
      go_wp2_with (first
        | (at_make; refine wpList_make_ints rfl _ _ rfl 64 rfl rfl (by omega) ?_; intro u1 HG1 HB1 HS1)
        | (refine wpList_copy_splice rfl (.tmp 21) (.tmp 22) 23 23 rfl 3 Try.underlying23 sizeInt (some ⟨u0.heap.size, 0, none⟩) a1 64 64 ws.length k1 rfl rfl u0.heap.size 0 (List.replicate 64 (Value.int .i64 0)) 3 HG1.out (vals ws) L1.out (fun h0 => ⟨rfl, row_src (H1.out.below HB1.out) h0⟩) L2.out one_vals u0.heap.size u0 HB1.out (Nat.le_refl _) ?_; intro u2 HG2 HB2))
      rw [mem_form G1.out] at HG2
      replace HB2 := hide HB2
      have l64 : (ws ++ List.replicate (64 - ws.length) (0 : Int)).length = 64 := by have := G1.out; simp; omega
      have M2 := hide (own_row (own_full l64 (by unfold maxLen; omega) HG2.out))
      have I2 := hide (own_full l64 (by unfold maxLen; omega) HG2.out).isT
      have T2 := hide (T.out.below HB2.out)
      have R2 := hide (H2.out.below HB2.out)
      clear L1 L2 HG1 HB1 HS1 HG2 T H1 H2 l64
      have mk4 := make_four
      go_region_with (go_at_call 16; refine (copied is B' _ _ (R2.out.below (by go_grown)) HN.out).mono ?_; rintro e u3 ⟨g3, rfl, O3, ge3, gl3, hb3⟩; have T3 := (T2.out.below (by go_grown)).below hb3; have lt3 := T3.a.lt; have z0 := T3.a.cell 0 _ rfl; have y0 := T3.a.soft 0 ; have z1 := T3.a.cell 1 _ rfl; have y1 := T3.a.soft 1 ; have z2 := T3.a.cell 2 _ rfl; have y2 := T3.a.soft 2 ; have z3 := T3.a.cell 3 _ rfl; have y3 := T3.a.soft 3 ; have z4 := T3.a.cell 4 _ rfl; have y4 := T3.a.soft 4 ; have z5 := T3.a.cell 5 _ rfl; have y5 := T3.a.soft 5 ; have z6 := T3.a.cell 6 _ rfl; have y6 := T3.a.soft 6 ; have z7 := T3.a.cell 7 _ rfl; have y7 := T3.a.soft 7 ; have z8 := T3.a.cell 8 _ rfl; have y8 := T3.a.soft 8 ; have z9 := T3.a.cell 9 _ rfl; have y9 := T3.a.soft 9; replace T3 := hide T3; replace O3 := hide O3; replace hb3 := hide hb3)
      · have RA := hide (((row_four u2).below (by go_grown)).below hb3.out)
        have MA := hide ((M2.out.below (by go_grown)).below hb3.out)
        have IA := hide (own_row O3.out)
        have l0 := I2.out.lt
        have l1 := S0.out
        have l2 : u2.heap.size + 1 ≤ g3 := by simpa using ge3
        have BB := hide T3.out.bw
        have HM := hide (new_yes G1.out X1.out X2.out)
        have l64 : (ws ++ List.replicate (64 - ws.length) (0 : Int)).length = 64 := by have := G1.out; simp; omega
        have F := hide (fun v0 v1 v2 v3 v4 v5 v6 v7 v8 v9 => new_fin (w := w) (row_ten RA.out (Z := w.heap.size) (by omega) v0 v1 v2 v3 v4 v5 v6 v7 v8 v9) (row_ten MA.out (by omega) v0 v1 v2 v3 v4 v5 v6 v7 v8 v9) (row_ten IA.out (by omega) v0 v1 v2 v3 v4 v5 v6 v7 v8 v9) (by omega) (by omega) (by omega) (by omega) (by omega) (by omega))
        clear T2 R2 mk4 T3 O3 hb3 M2 I2 HB2 RA MA IA l64 ge3 gl3 lt3 t1 P1
        go_wp2
        exact bodyPost_ret (v := .agg #[.slice (some ⟨u2.heap.size, 0, none⟩) 4 4, .int .i64 0, .slice (some ⟨u0.heap.size, 0, none⟩) 64 64, .int .i64 0, .bool false, .bool false, .int .i64 0, .slice (some ⟨g3, 0, none⟩) is.length is.length, .slice none 0 0, .int .i64 0]) (by simp [results, Try.results5, go_sem, z0, z1, z2, z3, z4, z5, z6, z7, z8, z9]) rfl ⟨[.slice (some ⟨u2.heap.size, 0, none⟩) 4 4, .int .i64 0, .slice (some ⟨u0.heap.size, 0, none⟩) 64 64, .int .i64 0, .bool false, .bool false, .int .i64 0, .slice (some ⟨g3, 0, none⟩) is.length is.length, .slice none 0 0, .int .i64 0], rfl, by rw [HM.out]; exact F.out _ _ _ _ _ _ _ _ _ _, below_ten BB.out (Nat.le_refl _) _ _ _ _ _ _ _ _ _ _⟩
      · have MA := hide ((M2.out.below (by go_grown)).below hb3.out)
        have IA := hide (own_row O3.out)
        have l0 := I2.out.lt
        have l1 := S0.out
        have l2 : u2.heap.size ≤ g3 := by simpa using ge3
        have l3 := gl3
        have BB := hide T3.out.bw
        have HM := hide (new_yes G1.out X1.out X2.out)
        have F := hide (new_fin2 (w := w) (row_ten MA.out (Z := w.heap.size) (by omega) (.slice (some ⟨u3.heap.size, 0, none⟩) 4 4) (.int .i64 0) (.slice (some ⟨u0.heap.size, 0, none⟩) 64 64) (.int .i64 0) (.bool false) (.bool false) (.int .i64 0) (.slice (some ⟨g3, 0, none⟩) is.length is.length) (.slice none 0 0) (.int .i64 0)) (row_ten IA.out (by omega) (.slice (some ⟨u3.heap.size, 0, none⟩) 4 4) (.int .i64 0) (.slice (some ⟨u0.heap.size, 0, none⟩) 64 64) (.int .i64 0) (.bool false) (.bool false) (.int .i64 0) (.slice (some ⟨g3, 0, none⟩) is.length is.length) (.slice none 0 0) (.int .i64 0)) (gr := u3.heap.size) (by simp) (by omega) (by omega) (by omega) (by omega) (by omega))
        have Y := hide ((T3.out.a.ten (.slice (some ⟨u3.heap.size, 0, none⟩) 4 4) (.int .i64 0) (.slice (some ⟨u0.heap.size, 0, none⟩) 64 64) (.int .i64 0) (.bool false) (.bool false) (.int .i64 0) (.slice (some ⟨g3, 0, none⟩) is.length is.length) (.slice none 0 0) (.int .i64 0)).alloc (.cells #[.int .i64 0, .int .i64 0, .int .i64 0, .int .i64 0] 3))
        have B9 := hide ((below_ten BB.out (Nat.le_refl _) (.slice (some ⟨u3.heap.size, 0, none⟩) 4 4) (.int .i64 0) (.slice (some ⟨u0.heap.size, 0, none⟩) 64 64) (.int .i64 0) (.bool false) (.bool false) (.int .i64 0) (.slice (some ⟨g3, 0, none⟩) is.length is.length) (.slice none 0 0) (.int .i64 0)).alloc (by simp; omega) (.cells #[.int .i64 0, .int .i64 0, .int .i64 0, .int .i64 0] 3))
        clear T2 R2 mk4 T3 O3 hb3 M2 I2 HB2 MA IA ge3 lt3 t1 P1 BB z0 z1 z2 z3 z4 z5 z6 z7 z8 z9 y0 y1 y2 y3 y4 y5 y6 y7 y8 y9
        generalize (((((((((((u3.setCell ⟨w.heap.size, 0, none⟩ (.slice (some ⟨u3.heap.size, 0, none⟩) 4 4)).setCell ⟨w.heap.size, 1, none⟩ (.int .i64 0)).setCell ⟨w.heap.size, 2, none⟩ (.slice (some ⟨u0.heap.size, 0, none⟩) 64 64)).setCell ⟨w.heap.size, 3, none⟩ (.int .i64 0)).setCell ⟨w.heap.size, 4, none⟩ (.bool false)).setCell ⟨w.heap.size, 5, none⟩ (.bool false)).setCell ⟨w.heap.size, 6, none⟩ (.int .i64 0)).setCell ⟨w.heap.size, 7, none⟩ (.slice (some ⟨g3, 0, none⟩) is.length is.length)).setCell ⟨w.heap.size, 8, none⟩ (.slice none 0 0)).setCell ⟨w.heap.size, 9, none⟩ (.int .i64 0)).alloc (.cells #[.int .i64 0, .int .i64 0, .int .i64 0, .int .i64 0] 3)) = V at F Y B9 ⊢
        have z0 := Y.out.cell 0 _ rfl
        have z1 := Y.out.cell 1 _ rfl
        have z2 := Y.out.cell 2 _ rfl
        have z3 := Y.out.cell 3 _ rfl
        have z4 := Y.out.cell 4 _ rfl
        have z5 := Y.out.cell 5 _ rfl
        have z6 := Y.out.cell 6 _ rfl
        have z7 := Y.out.cell 7 _ rfl
        have z8 := Y.out.cell 8 _ rfl
        have z9 := Y.out.cell 9 _ rfl
        go_wp2
        exact bodyPost_ret (v := .agg #[.slice (some ⟨u3.heap.size, 0, none⟩) 4 4, .int .i64 0, .slice (some ⟨u0.heap.size, 0, none⟩) 64 64, .int .i64 0, .bool false, .bool false, .int .i64 0, .slice (some ⟨g3, 0, none⟩) is.length is.length, .slice none 0 0, .int .i64 0]) (by simp [results, Try.results5, go_sem, z0, z1, z2, z3, z4, z5, z6, z7, z8, z9]) rfl ⟨[.slice (some ⟨u3.heap.size, 0, none⟩) 4 4, .int .i64 0, .slice (some ⟨u0.heap.size, 0, none⟩) 64 64, .int .i64 0, .bool false, .bool false, .int .i64 0, .slice (some ⟨g3, 0, none⟩) is.length is.length, .slice none 0 0, .int .i64 0], rfl, by rw [HM.out]; exact F.out, B9.out⟩
end Go.Proofs.Ytpbpabcokfblfaa.MchI
