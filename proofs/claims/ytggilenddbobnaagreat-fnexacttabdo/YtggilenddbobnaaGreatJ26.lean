/-
  What is reckoned of two sums of atoms: the program's TabDo.
-/
import Derived.Test.YtggilenddbobnaaGreatAl
import Derived.Test.YtggilenddbobnaaGreatJ18
import Derived.Test.YtggilenddbobnaaGreatJ23
import Derived.Test.YtggilenddbobnaaGreatJ25
import Derived.Test.YtggilenddbobnaaGreatJ24
import Derived.Test.YtggilenddbobnaaGreatJ22
namespace Go.Proofs.YtggilenddbobnaaGreat.Tab
set_option linter.unusedVariables false
set_option linter.unusedSimpArgs false
open Go.ChangeShapes Go.WideShapes Go.ChangeAt Go.RowKit IntS Pol Push
/-- Atoms and a sum, told: the sum's blocks lie apart from the atoms'. -/
structure Told3 (w w' : World) (e : Ending) (ts : List At) (p : List Mono) : Prop where
 ex : ∃ q cap a n c la ha mid hid, e = .returned (.tuple #[.agg #[.slice q ts.length cap], .agg #[.slice a n c]]) ∧ WTab w' la ha (.slice q ts.length cap) ts ∧ WPoly w' mid hid (.slice a n c) p ∧ w.heap.size ≤ la ∧ ha ≤ w'.heap.size ∧ w.heap.size ≤ mid ∧ hid ≤ w'.heap.size ∧ (ha ≤ mid ∨ hid ≤ la)
 bw : Below w.heap.size w w'
theorem cutF {P : Program} {c : Code} {Q : Exit → Act → World → Prop} {a : Act} {w : World} (F : Nat → Option Addr → Nat → Nat → Value → Act) (R : Nat → Option Addr → Nat → Nat → Value → World → Prop) (h : c.wpIn Fence.wide 0 P (PhaseIn.onlyN fun ac W => ∃ Z pa pl pc fv, ac = F Z pa pl pc fv ∧ R Z pa pl pc fv W) a w) (hq : ∀ Z pa pl pc fv W, R Z pa pl pc fv W → Q .normal (F Z pa pl pc fv) W) : c.wp P Q a w :=
 PhaseIn.cut _ h (fun a' w' ⟨Z, pa, pl, pc, fv, e, hR⟩ => by subst e; exact hq _ _ _ _ _ _ hR)
theorem told3_nil {w y : World} (bw : Below w.heap.size w y) : Told3 w y (.returned (.tuple #[.agg #[.slice none 0 0], .agg #[.slice none 0 0]])) [] [] :=
 ⟨⟨none, 0, none, 0, 0, w.heap.size, y.heap.size, y.heap.size, y.heap.size, rfl, (OTab.nil y w.heap.size).whole, WPoly.nil _ _ _, Nat.le_refl _, Nat.le_refl _, bw.size, Nat.le_refl _, Or.inl (Nat.le_refl _)⟩, bw⟩
theorem told3_cast {w w' : World} {e : Ending} {ts ts' : List At} {p p' : List Mono} (h : Told3 w w' e ts p) (ht : ts = ts') (hp : p = p') : Told3 w w' e ts' p' := by subst ht hp; exact h
theorem dos_split (ts : List At) (op : Int) (x y : List Mono) : dosB ts op x y = (tabB ts && inI op 1 5 && (okP x && underB x ts.length) && (okP y && underB y ts.length)) := by
 unfold dosB sumsB
 cases tabB ts <;> cases inI op 1 5 <;> cases okP x <;> cases okP y <;> cases underB x ts.length <;> cases underB y ts.length <;> rfl
theorem in_of {k a b : Int} (h : inI k a b = true) : a ≤ k ∧ k ≤ b := of_decide_eq_true h
set_option maxRecDepth 8000 in
set_option maxHeartbeats 32000000 in
theorem implTabDo (ts : List At) (op : Int) (x y : List Mono) (B Bx By : Nat) (v vx vy : Value) (w : World) (h : TRow w B v ts) (hx : PRow w Bx vx x) (hy : PRow w By vy y) :
 Calls Tryz.prog 9 #[.agg #[v], .int .i64 op, .agg #[vx], .agg #[vy]] w fun e w' => Told3 w w' e (dosT ts op x y) (dosP ts op x y) := by
 obtain ⟨qx, cx, offx, rfl, hx'⟩ := hx
 obtain ⟨qy, cy, offy, rfl, hy'⟩ := hy
 have hx : PRow w Bx (.slice qx x.length cx) x := ⟨qx, cx, offx, rfl, hx'⟩
 have hy : PRow w By (.slice qy y.length cy) y := ⟨qy, cy, offy, rfl, hy'⟩
 obtain ⟨q0, cap0, off, rfl, h2⟩ := h
 have h : TRow w B (.slice q0 ts.length cap0) ts := ⟨q0, cap0, off, rfl, h2⟩
 obtain ⟨-, h3, -⟩ := h2
 unfold maxLen at h3
 obtain ⟨f5, bn⟩ := Five.new w [.slice q0 ts.length cap0] [.slice qx x.length cx] [.slice qy y.length cy] 32 35 35 32 35
 have F := hide f5
 have H := hide (h.below bn)
 have HX := hide (hx.below bn)
 have HY := hide (hy.below bn)
 have BW := hide bn
 have H0 := hide h
 have HX0 := hide hx
 have HY0 := hide hy
 clear f5 bn hx hy hx' hy' h
 go_enter Tryz.func9, Tryz.ntmps9
 go_wp2_with fail
 generalize (((((w.alloc (.cells #[.slice q0 ts.length cap0] 32)).alloc (.cells #[.slice qx x.length cx] 35)).alloc (.cells #[.slice qy y.length cy] 35)).alloc (.cells #[.slice none 0 0] 32)).alloc (.cells #[.slice none 0 0] 35)) = V at F H HX HY BW ⊢

 have t0 := F.out.t.cell 0 _ rfl
 go_wp2_with fail
 refine (implTab ts B _ _ H.out).mono ?_
 rintro e u1 ⟨rfl, hb⟩
 clear t0
 replace F := hide (F.out.below hb)
 replace H := hide (H.out.below hb)
 replace HX := hide (HX.out.below hb)
 replace HY := hide (HY.out.below hb)
 replace BW := hide (BW.out.trans (hb.mono BW.out.size))
 clear hb
 by_cases e1 : (tabB ts) = true
 case neg =>
  rw [Bool.not_eq_true] at e1
  have PE := hide (dos_no (show dosB ts op x y = false by rw [dos_split]; simp only [e1]; rfl))
  rw [e1]
  clear e1
  have z0 := F.out.z.cell 0 _ rfl
  have s0 := F.out.z.soft 0
  have z1 := F.out.p.cell 0 _ rfl
  have s1 := F.out.p.soft 0
  have N1 : Turn (w.heap.size + 1 + 1 + 1) u1 (u1.setCell ⟨w.heap.size + 1 + 1 + 1, 0, none⟩ (.slice none 0 0)) := (Turn.refl _ _).setCell (p := ⟨w.heap.size + 1 + 1 + 1, 0, none⟩) rfl _
  have N2 : Turn (w.heap.size + 1 + 1 + 1 + 1) (u1.setCell ⟨w.heap.size + 1 + 1 + 1, 0, none⟩ (.slice none 0 0)) ((u1.setCell ⟨w.heap.size + 1 + 1 + 1, 0, none⟩ (.slice none 0 0)).setCell ⟨w.heap.size + 1 + 1 + 1 + 1, 0, none⟩ (.slice none 0 0)) := (Turn.refl _ _).setCell (p := ⟨w.heap.size + 1 + 1 + 1 + 1, 0, none⟩) rfl _
  have R0 := hide ((F.out.z.set 0 (.slice none 0 0) (by simp) rfl).turn N2 (by omega))
  have R1 := hide ((F.out.p.turn N1 (by omega)).set 0 (.slice none 0 0) (by simp) rfl)
  have TF := hide (told3_cast (told3_nil ((BW.out.trans (N1.below (by omega) BW.out.size)).trans (N2.below (by omega) (Nat.le_trans BW.out.size N1.size)))) PE.out.1.symm PE.out.2.symm)
  clear F N1 N2 BW H HX HY
  go_wp2
  generalize ((u1.setCell ⟨w.heap.size + 1 + 1 + 1, 0, none⟩ (.slice none 0 0)).setCell ⟨w.heap.size + 1 + 1 + 1 + 1, 0, none⟩ (.slice none 0 0)) = y9 at R0 R1 TF ⊢
  have r0 := R0.out.cell 0 _ rfl
  have r1 := R1.out.cell 0 _ rfl
  exact bodyPost_ret (v := .tuple #[.agg #[.slice none 0 0], .agg #[.slice none 0 0]]) (by simp [results, Tryz.results9, go_sem, r0, r1]) rfl TF.out
 have E1 := hide e1
 rw [e1]
 clear e1
 go_wp2_with fail
 refine (isOp op _).mono ?_
 rintro e u1x ⟨rfl, hw⟩
 rw [hw]
 clear hw u1x
 by_cases e1 : (inI op 1 5) = true
 case neg =>
  rw [Bool.not_eq_true] at e1
  have PE := hide (dos_no (show dosB ts op x y = false by rw [dos_split]; simp only [E1.out, e1]; rfl))
  rw [e1]
  clear e1
  have z0 := F.out.z.cell 0 _ rfl
  have s0 := F.out.z.soft 0
  have z1 := F.out.p.cell 0 _ rfl
  have s1 := F.out.p.soft 0
  have N1 : Turn (w.heap.size + 1 + 1 + 1) u1 (u1.setCell ⟨w.heap.size + 1 + 1 + 1, 0, none⟩ (.slice none 0 0)) := (Turn.refl _ _).setCell (p := ⟨w.heap.size + 1 + 1 + 1, 0, none⟩) rfl _
  have N2 : Turn (w.heap.size + 1 + 1 + 1 + 1) (u1.setCell ⟨w.heap.size + 1 + 1 + 1, 0, none⟩ (.slice none 0 0)) ((u1.setCell ⟨w.heap.size + 1 + 1 + 1, 0, none⟩ (.slice none 0 0)).setCell ⟨w.heap.size + 1 + 1 + 1 + 1, 0, none⟩ (.slice none 0 0)) := (Turn.refl _ _).setCell (p := ⟨w.heap.size + 1 + 1 + 1 + 1, 0, none⟩) rfl _
  have R0 := hide ((F.out.z.set 0 (.slice none 0 0) (by simp) rfl).turn N2 (by omega))
  have R1 := hide ((F.out.p.turn N1 (by omega)).set 0 (.slice none 0 0) (by simp) rfl)
  have TF := hide (told3_cast (told3_nil ((BW.out.trans (N1.below (by omega) BW.out.size)).trans (N2.below (by omega) (Nat.le_trans BW.out.size N1.size)))) PE.out.1.symm PE.out.2.symm)
  clear F N1 N2 BW H HX HY
  go_wp2
  generalize ((u1.setCell ⟨w.heap.size + 1 + 1 + 1, 0, none⟩ (.slice none 0 0)).setCell ⟨w.heap.size + 1 + 1 + 1 + 1, 0, none⟩ (.slice none 0 0)) = y9 at R0 R1 TF ⊢
  have r0 := R0.out.cell 0 _ rfl
  have r1 := R1.out.cell 0 _ rfl
  exact bodyPost_ret (v := .tuple #[.agg #[.slice none 0 0], .agg #[.slice none 0 0]]) (by simp [results, Tryz.results9, go_sem, r0, r1]) rfl TF.out
 have E2 := hide e1
 rw [e1]
 clear e1
 have t0 := F.out.t.cell 0 _ rfl
 have x0 := F.out.x.cell 0 _ rfl
 go_wp2_with fail
 refine (madeOf x ts.length Bx _ _ HX.out).mono ?_
 rintro e u2 ⟨rfl, hb⟩
 clear t0 x0
 replace F := hide (F.out.below hb)
 replace H := hide (H.out.below hb)
 replace HX := hide (HX.out.below hb)
 replace HY := hide (HY.out.below hb)
 replace BW := hide (BW.out.trans (hb.mono BW.out.size))
 clear hb
 by_cases e1 : (okP x && underB x ts.length) = true
 case neg =>
  rw [Bool.not_eq_true] at e1
  have PE := hide (dos_no (show dosB ts op x y = false by rw [dos_split]; simp only [E1.out, E2.out, e1]; rfl))
  rw [e1]
  clear e1
  have z0 := F.out.z.cell 0 _ rfl
  have s0 := F.out.z.soft 0
  have z1 := F.out.p.cell 0 _ rfl
  have s1 := F.out.p.soft 0
  have N1 : Turn (w.heap.size + 1 + 1 + 1) u2 (u2.setCell ⟨w.heap.size + 1 + 1 + 1, 0, none⟩ (.slice none 0 0)) := (Turn.refl _ _).setCell (p := ⟨w.heap.size + 1 + 1 + 1, 0, none⟩) rfl _
  have N2 : Turn (w.heap.size + 1 + 1 + 1 + 1) (u2.setCell ⟨w.heap.size + 1 + 1 + 1, 0, none⟩ (.slice none 0 0)) ((u2.setCell ⟨w.heap.size + 1 + 1 + 1, 0, none⟩ (.slice none 0 0)).setCell ⟨w.heap.size + 1 + 1 + 1 + 1, 0, none⟩ (.slice none 0 0)) := (Turn.refl _ _).setCell (p := ⟨w.heap.size + 1 + 1 + 1 + 1, 0, none⟩) rfl _
  have R0 := hide ((F.out.z.set 0 (.slice none 0 0) (by simp) rfl).turn N2 (by omega))
  have R1 := hide ((F.out.p.turn N1 (by omega)).set 0 (.slice none 0 0) (by simp) rfl)
  have TF := hide (told3_cast (told3_nil ((BW.out.trans (N1.below (by omega) BW.out.size)).trans (N2.below (by omega) (Nat.le_trans BW.out.size N1.size)))) PE.out.1.symm PE.out.2.symm)
  clear F N1 N2 BW H HX HY
  go_wp2
  generalize ((u2.setCell ⟨w.heap.size + 1 + 1 + 1, 0, none⟩ (.slice none 0 0)).setCell ⟨w.heap.size + 1 + 1 + 1 + 1, 0, none⟩ (.slice none 0 0)) = y9 at R0 R1 TF ⊢
  have r0 := R0.out.cell 0 _ rfl
  have r1 := R1.out.cell 0 _ rfl
  exact bodyPost_ret (v := .tuple #[.agg #[.slice none 0 0], .agg #[.slice none 0 0]]) (by simp [results, Tryz.results9, go_sem, r0, r1]) rfl TF.out
 have E3 := hide e1
 rw [e1]
 clear e1
 have t0 := F.out.t.cell 0 _ rfl
 have y0 := F.out.y.cell 0 _ rfl
 go_wp2_with fail
 refine (madeOf y ts.length By _ _ HY.out).mono ?_
 rintro e u3 ⟨rfl, hb⟩
 clear t0 y0
 replace F := hide (F.out.below hb)
 replace H := hide (H.out.below hb)
 replace HX := hide (HX.out.below hb)
 replace HY := hide (HY.out.below hb)
 replace BW := hide (BW.out.trans (hb.mono BW.out.size))
 clear hb
 by_cases e1 : (okP y && underB y ts.length) = true
 case neg =>
  rw [Bool.not_eq_true] at e1
  have PE := hide (dos_no (show dosB ts op x y = false by rw [dos_split]; simp only [E1.out, E2.out, E3.out, e1]; rfl))
  rw [e1]
  clear e1
  have z0 := F.out.z.cell 0 _ rfl
  have s0 := F.out.z.soft 0
  have z1 := F.out.p.cell 0 _ rfl
  have s1 := F.out.p.soft 0
  have N1 : Turn (w.heap.size + 1 + 1 + 1) u3 (u3.setCell ⟨w.heap.size + 1 + 1 + 1, 0, none⟩ (.slice none 0 0)) := (Turn.refl _ _).setCell (p := ⟨w.heap.size + 1 + 1 + 1, 0, none⟩) rfl _
  have N2 : Turn (w.heap.size + 1 + 1 + 1 + 1) (u3.setCell ⟨w.heap.size + 1 + 1 + 1, 0, none⟩ (.slice none 0 0)) ((u3.setCell ⟨w.heap.size + 1 + 1 + 1, 0, none⟩ (.slice none 0 0)).setCell ⟨w.heap.size + 1 + 1 + 1 + 1, 0, none⟩ (.slice none 0 0)) := (Turn.refl _ _).setCell (p := ⟨w.heap.size + 1 + 1 + 1 + 1, 0, none⟩) rfl _
  have R0 := hide ((F.out.z.set 0 (.slice none 0 0) (by simp) rfl).turn N2 (by omega))
  have R1 := hide ((F.out.p.turn N1 (by omega)).set 0 (.slice none 0 0) (by simp) rfl)
  have TF := hide (told3_cast (told3_nil ((BW.out.trans (N1.below (by omega) BW.out.size)).trans (N2.below (by omega) (Nat.le_trans BW.out.size N1.size)))) PE.out.1.symm PE.out.2.symm)
  clear F N1 N2 BW H HX HY
  go_wp2
  generalize ((u3.setCell ⟨w.heap.size + 1 + 1 + 1, 0, none⟩ (.slice none 0 0)).setCell ⟨w.heap.size + 1 + 1 + 1 + 1, 0, none⟩ (.slice none 0 0)) = y9 at R0 R1 TF ⊢
  have r0 := R0.out.cell 0 _ rfl
  have r1 := R1.out.cell 0 _ rfl
  exact bodyPost_ret (v := .tuple #[.agg #[.slice none 0 0], .agg #[.slice none 0 0]]) (by simp [results, Tryz.results9, go_sem, r0, r1]) rfl TF.out
 have E4 := hide e1
 rw [e1]
 clear e1
 have PE := hide (dos_yes (show dosB ts op x y = true by rw [dos_split]; simp only [E1.out, E2.out, E3.out, E4.out]; rfl))
 have FT := hide (tab_fine E1.out)
 have OP := hide (in_of E2.out)
 have OK : Hid (okP x = true ∧ okP y = true) := ⟨(Bool.and_eq_true _ _ ▸ E3.out : _ ∧ _).1, (Bool.and_eq_true _ _ ▸ E4.out : _ ∧ _).1⟩
 have TB := E1
 clear E1 E2 E3 E4
 go_wp2_with fail
 refine cutF (fun Z pa pl pc fv => { tmps := #[.agg #[.slice q0 ts.length cap0], .int .i64 op, .agg #[.slice qx x.length cx], .agg #[.slice qy y.length cy], .pointer (some ⟨w.heap.size, 0, none⟩), undef, .pointer (some ⟨w.heap.size + 1, 0, none⟩), .pointer (some ⟨w.heap.size + 1 + 1, 0, none⟩), .pointer (some ⟨w.heap.size + 1 + 1 + 1, 0, none⟩), .pointer (some ⟨w.heap.size + 1 + 1 + 1 + 1, 0, none⟩), .pointer (some ⟨Z, 0, none⟩), .bool (plB op x y), undef, undef, .agg #[.slice q0 ts.length cap0], .bool true, .bool false, .bool false, .int .i64 op, .bool true, .bool false, .bool false, .bool false, .agg #[.slice qx x.length cx], .pointer (some ⟨w.heap.size, 0, none⟩), .slice q0 ts.length cap0, .int .i64 ts.length, .bool true, .bool false, .bool false, .bool false, .agg #[.slice qy y.length cy], .pointer (some ⟨w.heap.size, 0, none⟩), .slice q0 ts.length cap0, .int .i64 ts.length, .bool true, .bool false, .bool false, undef, undef, .tuple #[.agg #[.slice pa pl pc], .bool (plB op x y)], .int .i64 op, fv, .agg #[.slice qx x.length cx], .agg #[.slice qy y.length cy], .tuple #[.agg #[.slice pa pl pc], .bool (plB op x y)], .agg #[.slice pa pl pc], .bool (plB op x y), undef, undef, undef, undef, undef, undef, undef, undef, undef, undef, undef, undef, undef, undef, undef, undef, undef, undef, undef, undef, undef, undef, undef, undef, undef, undef, undef, undef, undef, undef], defers := [] }) (fun Z pa pl pc fv W => ∃ mid hid : Nat, Hid (Five w.heap.size [.slice q0 ts.length cap0] [.slice qx x.length cx] [.slice qy y.length cy] W) ∧ Hid (TRow W B (.slice q0 ts.length cap0) ts) ∧ Hid (PRow W Bx (.slice qx x.length cx) x) ∧ Hid (PRow W By (.slice qy y.length cy) y) ∧ Hid (Below w.heap.size w W) ∧ Hid (Rec Z [.slice pa pl pc] W) ∧ Hid (WPoly W mid hid (.slice pa pl pc) (plP op x y)) ∧ Hid (w.heap.size + 1 + 1 + 1 + 1 < Z ∧ Z < W.heap.size ∧ w.heap.size + 1 + 1 + 1 + 1 < mid ∧ hid ≤ W.heap.size ∧ (Z < mid ∨ hid ≤ Z))) ?_ ?_
 · have bA : Below u3.heap.size u3 u3.drew := (Below.refl _ _).drew
   replace F := hide (F.out.below bA)
   replace H := hide (H.out.below bA)
   replace HX := hide (HX.out.below bA)
   replace HY := hide (HY.out.below bA)
   replace BW := hide (BW.out.trans (bA.mono BW.out.size))
   clear bA
   refine PhaseIn.region (S := fun w' => Rec (w.heap.size + 1) [.slice qx x.length cx] w' ∧ Rec (w.heap.size + 1 + 1) [.slice qy y.length cy] w') 11 (by kernel_rfl) ?_
   generalize u3.drew = d1 at F H HX HY BW ⊢
   have VL : Hid (w.heap.size + 1 + 1 + 1 + 1 < d1.heap.size) := F.out.p.lt
   have hHeld := And.intro F.out.x F.out.y
   refine PhaseIn.takeE (i := 0) (v := ?_) [0, 1, 4, 5, 6, 7, 9, 10] 41 rfl (by rfl) (by kernel_rfl) (fun _ _ _ h => h) (Or.inl ⟨by kernel_rfl, ?_⟩) hHeld ?_
   rotate_left
   · intro w' hSw
     (try dsimp only at hSw)
     go_simp
     first | done | with_reducible rfl
   try simp only [Act.put, sA, List.set]
   refine PhaseIn.takeE (i := 2) (v := ?_) [2, 4, 5, 6, 7, 9, 10] 43 rfl (by rfl) (by kernel_rfl) (fun _ _ _ h => h) (Or.inl ⟨by kernel_rfl, ?_⟩) hHeld ?_
   rotate_left
   · intro w' hSw
     (try dsimp only at hSw)
     have z0 := hSw.1.cell 0 _ rfl
     go_simp
     first | done | with_reducible rfl
   try simp only [Act.put, sA, List.set]
   refine PhaseIn.takeE (i := 3) (v := ?_) [3, 4, 5, 6, 7, 9, 10] 44 rfl (by rfl) (by kernel_rfl) (fun _ _ _ h => h) (Or.inl ⟨by kernel_rfl, ?_⟩) hHeld ?_
   rotate_left
   · intro w' hSw
     (try dsimp only at hSw)
     have z0 := hSw.2.cell 0 _ rfl
     go_simp
     first | done | with_reducible rfl
   try simp only [Act.put, sA, List.set]
   refine PhaseIn.two (i := 1) (j := 8) (by kernel_rfl) rfl rfl (by kernel_rfl) (by kernel_rfl) (fun K hK => ?_) (fun K hK => ?_)
   · -- plainOf first
     unfold Oper.wpIn
     refine ⟨fun _ _ => trivial, ?_⟩
     go_simp
     refine ⟨rfl, (callsIn_wide.2 (plainAll op OP.out.1 OP.out.2 _)).mono ?_⟩
     rintro e u4 ⟨f, cs, rfl, SO, hb⟩
     have hHeld2 := And.intro (hHeld.1.below hb) (hHeld.2.below hb)
     refine hK _ _ (fun _ => hHeld2) ?_
     clear hK K hHeld
     replace F := hide (F.out.below hb)
     replace H := hide (H.out.below hb)
     replace HX := hide (HX.out.below hb)
     replace HY := hide (HY.out.below hb)
     replace BW := hide (BW.out.trans (hb.mono BW.out.size))
     clear hb
     have hHeld := hHeld2
     clear hHeld2
     try simp only [Act.put, sA, List.set]
     have EN := SO.en
     have SO' := hide SO
     have B4 : Hid (Below u4.heap.size u4 u4) := Below.refl _ _
     have SH := hide SO.sh
     clear SO
     have VM : Hid (w.heap.size + 1 + 1 + 1 + 1 < u4.heap.size) := F.out.p.lt
     obtain rfl | ⟨s9, n9, rfl⟩ := SH.out
     · clear SH
       refine PhaseIn.two (i := 4) (j := 8) (by kernel_rfl) rfl rfl (by kernel_rfl) (by kernel_rfl) (fun K hK => ?_) (fun K hK => ?_)
       · -- its call, then the box
         unfold Oper.wpIn
         refine ⟨fun _ _ => trivial, ?_⟩
         go_simp
         refine ⟨rfl, (callsIn_wide.2 (SO'.out.go x y Bx By _ _ _ B4.out HX.out HY.out OK.out.1 OK.out.2)).mono ?_⟩
         rintro e u5 ⟨⟨pa, pl, pc, rfl, MW⟩, hb⟩
         have L5 : Hid (u4.heap.size ≤ u5.heap.size) := hb.size
         replace MW := hide MW
         have hHeld2 := And.intro (hHeld.1.below hb) (hHeld.2.below hb)
         refine hK _ _ (fun _ => hHeld2) ?_
         clear hK K hHeld
         replace F := hide (F.out.below hb)
         replace H := hide (H.out.below hb)
         replace HX := hide (HX.out.below hb)
         replace HY := hide (HY.out.below hb)
         replace BW := hide (BW.out.trans (hb.mono BW.out.size))
         clear hb
         have hHeld := hHeld2
         clear hHeld2
         try simp only [Act.put, sA, List.set]
         refine PhaseIn.takeE (i := 5) (v := ?_) [5, 6, 7, 9, 10] 40 rfl (by rfl) (by kernel_rfl) (fun _ _ _ h => h) (Or.inl ⟨by kernel_rfl, ?_⟩) hHeld ?_
         rotate_left
         · intro w' hSw
           (try dsimp only at hSw)
           go_simp
           first | done | with_reducible rfl
         try simp only [Act.put, sA, List.set]
         refine PhaseIn.takeE (i := 6) (v := ?_) [6, 9, 10] 46 rfl (by rfl) (by kernel_rfl) (fun _ _ _ h => h) (Or.inl ⟨by kernel_rfl, ?_⟩) hHeld ?_
         rotate_left
         · intro w' hSw
           (try dsimp only at hSw)
           go_simp
           first | done | with_reducible rfl
         try simp only [Act.put, sA, List.set]
         refine PhaseIn.takeE (i := 7) (v := ?_) [7, 10] 47 rfl (by rfl) (by kernel_rfl) (fun _ _ _ h => h) (Or.inl ⟨by kernel_rfl, ?_⟩) hHeld ?_
         rotate_left
         · intro w' hSw
           (try dsimp only at hSw)
           go_simp
           first | done | with_reducible rfl
         try simp only [Act.put, sA, List.set]
         refine PhaseIn.one (i := 8) (by kernel_rfl) rfl (by kernel_rfl) (fun K hK => ?_)
         unfold Oper.wpIn
         refine ⟨fun _ _ => trivial, ?_⟩
         go_simp
         have hb : Below u5.heap.size u5 (u5.alloc (.cells #[.slice none 0 0] 35)) := (Below.refl _ _).alloc (Nat.le_refl _) _
         have PB := hide (Rec.new u5 [.slice none 0 0] 35)
         have SZ : Hid (w.heap.size + 1 + 1 + 1 + 1 < u5.heap.size) := F.out.p.lt
         have hHeld2 := And.intro (hHeld.1.below hb) (hHeld.2.below hb)
         refine hK _ _ (fun _ => hHeld2) ?_
         clear hK K hHeld
         replace MW := hide (MW.out.below hb)
         replace F := hide (F.out.below hb)
         replace H := hide (H.out.below hb)
         replace HX := hide (HX.out.below hb)
         replace HY := hide (HY.out.below hb)
         replace BW := hide (BW.out.trans (hb.mono BW.out.size))
         clear hb
         have hHeld := hHeld2
         clear hHeld2
         try simp only [Act.put, sA, List.set]
         obtain ⟨Z, eZ⟩ : ∃ Z, u5.heap.size = Z := ⟨_, rfl⟩
         rw [eZ] at PB SZ ⊢
         have EZ := hide eZ
         clear eZ
         generalize (u5.alloc (.cells #[.slice none 0 0] 35)) = u6 at F H HX HY BW PB hHeld MW ⊢
         have ZH0 : Hid (u5.heap.size ≤ u6.heap.size) := show _ ≤ _ by have := EZ.out; have := PB.out.lt; omega
         have p0 := PB.out.cell 0 _ rfl
         have s0 := PB.out.soft 0
         refine PhaseIn.one (i := 9) (by kernel_rfl) rfl (by kernel_rfl) (fun K hK => ?_)
         unfold Oper.wpIn
         refine ⟨fun _ _ => trivial, ?_⟩
         go_simp
         have t9 : Turn Z u6 (u6.setCell ⟨Z, 0, none⟩ (.slice pa pl pc)) := (Turn.refl _ u6).setCell (p := ⟨Z, 0, none⟩) rfl _
         have hHeld2 := And.intro (hHeld.1.turn t9 (by have := SZ.out; omega)) (hHeld.2.turn t9 (by have := SZ.out; omega))
         refine hK _ _ (fun _ => hHeld2) ?_
         clear hK K hHeld p0 s0
         replace PB := hide (PB.out.set 0 (.slice pa pl pc) (by simp) rfl)
         replace F := hide (F.out.turn t9 (Or.inr (by have := SZ.out; omega)))
         replace BW := hide (BW.out.trans (t9.below (by have := SZ.out; omega) BW.out.size))
         replace H := hide (H0.out.below BW.out)
         replace HX := hide (HX0.out.below BW.out)
         replace HY := hide (HY0.out.below BW.out)
         have ZZ0 : Z < u4.heap.size ∨ u5.heap.size ≤ Z := Or.inr (by have := EZ.out; omega)
         have ZH : Hid (u5.heap.size ≤ (u6.setCell ⟨Z, 0, none⟩ (.slice pa pl pc)).heap.size) := show _ ≤ _ from Nat.le_trans ZH0.out t9.size
         replace MW := hide (MW.out.keep (Keep.of_turn t9) (fun b' h1 h2 (h3 : b' = _) => by omega))
         clear t9
         try simp only [Act.put, sA, List.set]
         generalize (u6.setCell ⟨Z, 0, none⟩ (.slice pa pl pc)) = U at F H HX HY BW PB MW ZH hHeld2 ⊢
         refine PhaseIn.takeE (i := 10) (v := ?_) [10] 11 rfl (by rfl) (by kernel_rfl) (fun _ _ _ h => h) (Or.inl ⟨by kernel_rfl, ?_⟩) hHeld2 ?_
         rotate_left
         · intro w' hSw
           (try dsimp only at hSw)
           go_simp
           first | done | with_reducible rfl
         try simp only [Act.put, sA, List.set]
         refine PhaseIn.done (by kernel_rfl) ?_ _
         obtain ⟨fv, efv⟩ : ∃ fv : Value, (Value.func (.func f) #[] #[]) = fv := ⟨_, rfl⟩
         try rw [efv]
         exact ⟨Z, pa, pl, pc, fv, rfl, u4.heap.size, u5.heap.size, F, H, HX, HY, BW, PB, MW, ⟨SZ.out, PB.out.lt, by have := VM.out; omega, ZH.out, ZZ0⟩⟩
       · -- the box, then its call
         unfold Oper.wpIn
         refine ⟨fun _ _ => trivial, ?_⟩
         go_simp
         have hb : Below u4.heap.size u4 (u4.alloc (.cells #[.slice none 0 0] 35)) := (Below.refl _ _).alloc (Nat.le_refl _) _
         have PB := hide (Rec.new u4 [.slice none 0 0] 35)
         have SZ : Hid (w.heap.size + 1 + 1 + 1 + 1 < u4.heap.size) := F.out.p.lt
         replace B4 := hide hb
         have hHeld2 := And.intro (hHeld.1.below hb) (hHeld.2.below hb)
         refine hK _ _ (fun _ => hHeld2) ?_
         clear hK K hHeld
         replace F := hide (F.out.below hb)
         replace H := hide (H.out.below hb)
         replace HX := hide (HX.out.below hb)
         replace HY := hide (HY.out.below hb)
         replace BW := hide (BW.out.trans (hb.mono BW.out.size))
         clear hb
         have hHeld := hHeld2
         clear hHeld2
         try simp only [Act.put, sA, List.set]
         obtain ⟨Z, eZ⟩ : ∃ Z, u4.heap.size = Z := ⟨_, rfl⟩
         rw [eZ] at PB SZ ⊢
         have EZ := hide eZ
         clear eZ
         generalize (u4.alloc (.cells #[.slice none 0 0] 35)) = u6 at F H HX HY BW PB hHeld B4  ⊢
         have VM : Hid (w.heap.size + 1 + 1 + 1 + 1 < u6.heap.size) := F.out.p.lt
         have ZL : Hid (Z < u6.heap.size) := PB.out.lt
         refine PhaseIn.one (i := 4) (by kernel_rfl) rfl (by kernel_rfl) (fun K hK => ?_)
         unfold Oper.wpIn
         refine ⟨fun _ _ => trivial, ?_⟩
         go_simp
         refine ⟨rfl, (callsIn_wide.2 (SO'.out.go x y Bx By _ _ _ B4.out HX.out HY.out OK.out.1 OK.out.2)).mono ?_⟩
         rintro e u5 ⟨⟨pa, pl, pc, rfl, MW⟩, hb⟩
         have L5 : Hid (u6.heap.size ≤ u5.heap.size) := hb.size
         replace MW := hide MW
         have hHeld2 := And.intro (hHeld.1.below hb) (hHeld.2.below hb)
         refine hK _ _ (fun _ => hHeld2) ?_
         clear hK K hHeld
         replace PB := hide (PB.out.below hb)
         replace F := hide (F.out.below hb)
         replace H := hide (H.out.below hb)
         replace HX := hide (HX.out.below hb)
         replace HY := hide (HY.out.below hb)
         replace BW := hide (BW.out.trans (hb.mono BW.out.size))
         clear hb
         have hHeld := hHeld2
         clear hHeld2
         try simp only [Act.put, sA, List.set]
         refine PhaseIn.takeE (i := 5) (v := ?_) [5, 6, 7, 9, 10] 40 rfl (by rfl) (by kernel_rfl) (fun _ _ _ h => h) (Or.inl ⟨by kernel_rfl, ?_⟩) hHeld ?_
         rotate_left
         · intro w' hSw
           (try dsimp only at hSw)
           go_simp
           first | done | with_reducible rfl
         try simp only [Act.put, sA, List.set]
         refine PhaseIn.takeE (i := 6) (v := ?_) [6, 9, 10] 46 rfl (by rfl) (by kernel_rfl) (fun _ _ _ h => h) (Or.inl ⟨by kernel_rfl, ?_⟩) hHeld ?_
         rotate_left
         · intro w' hSw
           (try dsimp only at hSw)
           go_simp
           first | done | with_reducible rfl
         try simp only [Act.put, sA, List.set]
         refine PhaseIn.takeE (i := 7) (v := ?_) [7, 10] 47 rfl (by rfl) (by kernel_rfl) (fun _ _ _ h => h) (Or.inl ⟨by kernel_rfl, ?_⟩) hHeld ?_
         rotate_left
         · intro w' hSw
           (try dsimp only at hSw)
           go_simp
           first | done | with_reducible rfl
         try simp only [Act.put, sA, List.set]
         have ZH0 : Hid (u5.heap.size ≤ u5.heap.size) := Nat.le_refl _
         have p0 := PB.out.cell 0 _ rfl
         have s0 := PB.out.soft 0
         refine PhaseIn.one (i := 9) (by kernel_rfl) rfl (by kernel_rfl) (fun K hK => ?_)
         unfold Oper.wpIn
         refine ⟨fun _ _ => trivial, ?_⟩
         go_simp
         have t9 : Turn Z u5 (u5.setCell ⟨Z, 0, none⟩ (.slice pa pl pc)) := (Turn.refl _ u5).setCell (p := ⟨Z, 0, none⟩) rfl _
         have hHeld2 := And.intro (hHeld.1.turn t9 (by have := SZ.out; omega)) (hHeld.2.turn t9 (by have := SZ.out; omega))
         refine hK _ _ (fun _ => hHeld2) ?_
         clear hK K hHeld p0 s0
         replace PB := hide (PB.out.set 0 (.slice pa pl pc) (by simp) rfl)
         replace F := hide (F.out.turn t9 (Or.inr (by have := SZ.out; omega)))
         replace BW := hide (BW.out.trans (t9.below (by have := SZ.out; omega) BW.out.size))
         replace H := hide (H0.out.below BW.out)
         replace HX := hide (HX0.out.below BW.out)
         replace HY := hide (HY0.out.below BW.out)
         have ZZ0 : Z < u6.heap.size ∨ u5.heap.size ≤ Z := Or.inl (by have := ZL.out; omega)
         have ZH : Hid (u5.heap.size ≤ (u5.setCell ⟨Z, 0, none⟩ (.slice pa pl pc)).heap.size) := show _ ≤ _ from Nat.le_trans ZH0.out t9.size
         replace MW := hide (MW.out.keep (Keep.of_turn t9) (fun b' h1 h2 (h3 : b' = _) => by omega))
         clear t9
         try simp only [Act.put, sA, List.set]
         generalize (u5.setCell ⟨Z, 0, none⟩ (.slice pa pl pc)) = U at F H HX HY BW PB MW ZH hHeld2 ⊢
         refine PhaseIn.takeE (i := 10) (v := ?_) [10] 11 rfl (by rfl) (by kernel_rfl) (fun _ _ _ h => h) (Or.inl ⟨by kernel_rfl, ?_⟩) hHeld2 ?_
         rotate_left
         · intro w' hSw
           (try dsimp only at hSw)
           go_simp
           first | done | with_reducible rfl
         try simp only [Act.put, sA, List.set]
         refine PhaseIn.done (by kernel_rfl) ?_ _
         obtain ⟨fv, efv⟩ : ∃ fv : Value, (Value.func (.func f) #[] #[]) = fv := ⟨_, rfl⟩
         try rw [efv]
         exact ⟨Z, pa, pl, pc, fv, rfl, u6.heap.size, u5.heap.size, F, H, HX, HY, BW, PB, MW, ⟨SZ.out, PB.out.lt, by have := VM.out; omega, ZH.out, ZZ0⟩⟩
     · clear SH
       refine PhaseIn.two (i := 4) (j := 8) (by kernel_rfl) rfl rfl (by kernel_rfl) (by kernel_rfl) (fun K hK => ?_) (fun K hK => ?_)
       · -- its call, then the box
         unfold Oper.wpIn
         refine ⟨fun _ _ => trivial, ?_⟩
         go_simp
         refine ⟨rfl, (callsIn_wide.2 (SO'.out.go x y Bx By _ _ _ B4.out HX.out HY.out OK.out.1 OK.out.2)).mono ?_⟩
         rintro e u5 ⟨⟨pa, pl, pc, rfl, MW⟩, hb⟩
         have L5 : Hid (u4.heap.size ≤ u5.heap.size) := hb.size
         replace MW := hide MW
         have hHeld2 := And.intro (hHeld.1.below hb) (hHeld.2.below hb)
         refine hK _ _ (fun _ => hHeld2) ?_
         clear hK K hHeld
         replace F := hide (F.out.below hb)
         replace H := hide (H.out.below hb)
         replace HX := hide (HX.out.below hb)
         replace HY := hide (HY.out.below hb)
         replace BW := hide (BW.out.trans (hb.mono BW.out.size))
         clear hb
         have hHeld := hHeld2
         clear hHeld2
         try simp only [Act.put, sA, List.set]
         refine PhaseIn.takeE (i := 5) (v := ?_) [5, 6, 7, 9, 10] 40 rfl (by rfl) (by kernel_rfl) (fun _ _ _ h => h) (Or.inl ⟨by kernel_rfl, ?_⟩) hHeld ?_
         rotate_left
         · intro w' hSw
           (try dsimp only at hSw)
           go_simp
           first | done | with_reducible rfl
         try simp only [Act.put, sA, List.set]
         refine PhaseIn.takeE (i := 6) (v := ?_) [6, 9, 10] 46 rfl (by rfl) (by kernel_rfl) (fun _ _ _ h => h) (Or.inl ⟨by kernel_rfl, ?_⟩) hHeld ?_
         rotate_left
         · intro w' hSw
           (try dsimp only at hSw)
           go_simp
           first | done | with_reducible rfl
         try simp only [Act.put, sA, List.set]
         refine PhaseIn.takeE (i := 7) (v := ?_) [7, 10] 47 rfl (by rfl) (by kernel_rfl) (fun _ _ _ h => h) (Or.inl ⟨by kernel_rfl, ?_⟩) hHeld ?_
         rotate_left
         · intro w' hSw
           (try dsimp only at hSw)
           go_simp
           first | done | with_reducible rfl
         try simp only [Act.put, sA, List.set]
         refine PhaseIn.one (i := 8) (by kernel_rfl) rfl (by kernel_rfl) (fun K hK => ?_)
         unfold Oper.wpIn
         refine ⟨fun _ _ => trivial, ?_⟩
         go_simp
         have hb : Below u5.heap.size u5 (u5.alloc (.cells #[.slice none 0 0] 35)) := (Below.refl _ _).alloc (Nat.le_refl _) _
         have PB := hide (Rec.new u5 [.slice none 0 0] 35)
         have SZ : Hid (w.heap.size + 1 + 1 + 1 + 1 < u5.heap.size) := F.out.p.lt
         have hHeld2 := And.intro (hHeld.1.below hb) (hHeld.2.below hb)
         refine hK _ _ (fun _ => hHeld2) ?_
         clear hK K hHeld
         replace MW := hide (MW.out.below hb)
         replace F := hide (F.out.below hb)
         replace H := hide (H.out.below hb)
         replace HX := hide (HX.out.below hb)
         replace HY := hide (HY.out.below hb)
         replace BW := hide (BW.out.trans (hb.mono BW.out.size))
         clear hb
         have hHeld := hHeld2
         clear hHeld2
         try simp only [Act.put, sA, List.set]
         obtain ⟨Z, eZ⟩ : ∃ Z, u5.heap.size = Z := ⟨_, rfl⟩
         rw [eZ] at PB SZ ⊢
         have EZ := hide eZ
         clear eZ
         generalize (u5.alloc (.cells #[.slice none 0 0] 35)) = u6 at F H HX HY BW PB hHeld MW ⊢
         have ZH0 : Hid (u5.heap.size ≤ u6.heap.size) := show _ ≤ _ by have := EZ.out; have := PB.out.lt; omega
         have p0 := PB.out.cell 0 _ rfl
         have s0 := PB.out.soft 0
         refine PhaseIn.one (i := 9) (by kernel_rfl) rfl (by kernel_rfl) (fun K hK => ?_)
         unfold Oper.wpIn
         refine ⟨fun _ _ => trivial, ?_⟩
         go_simp
         have t9 : Turn Z u6 (u6.setCell ⟨Z, 0, none⟩ (.slice pa pl pc)) := (Turn.refl _ u6).setCell (p := ⟨Z, 0, none⟩) rfl _
         have hHeld2 := And.intro (hHeld.1.turn t9 (by have := SZ.out; omega)) (hHeld.2.turn t9 (by have := SZ.out; omega))
         refine hK _ _ (fun _ => hHeld2) ?_
         clear hK K hHeld p0 s0
         replace PB := hide (PB.out.set 0 (.slice pa pl pc) (by simp) rfl)
         replace F := hide (F.out.turn t9 (Or.inr (by have := SZ.out; omega)))
         replace BW := hide (BW.out.trans (t9.below (by have := SZ.out; omega) BW.out.size))
         replace H := hide (H0.out.below BW.out)
         replace HX := hide (HX0.out.below BW.out)
         replace HY := hide (HY0.out.below BW.out)
         have ZZ0 : Z < u4.heap.size ∨ u5.heap.size ≤ Z := Or.inr (by have := EZ.out; omega)
         have ZH : Hid (u5.heap.size ≤ (u6.setCell ⟨Z, 0, none⟩ (.slice pa pl pc)).heap.size) := show _ ≤ _ from Nat.le_trans ZH0.out t9.size
         replace MW := hide (MW.out.keep (Keep.of_turn t9) (fun b' h1 h2 (h3 : b' = _) => by omega))
         clear t9
         try simp only [Act.put, sA, List.set]
         generalize (u6.setCell ⟨Z, 0, none⟩ (.slice pa pl pc)) = U at F H HX HY BW PB MW ZH hHeld2 ⊢
         refine PhaseIn.takeE (i := 10) (v := ?_) [10] 11 rfl (by rfl) (by kernel_rfl) (fun _ _ _ h => h) (Or.inl ⟨by kernel_rfl, ?_⟩) hHeld2 ?_
         rotate_left
         · intro w' hSw
           (try dsimp only at hSw)
           go_simp
           first | done | with_reducible rfl
         try simp only [Act.put, sA, List.set]
         refine PhaseIn.done (by kernel_rfl) ?_ _
         obtain ⟨fv, efv⟩ : ∃ fv : Value, (Value.func (.func f) #[] #[.pointer (some ⟨s9, 0, none⟩), .pointer (some ⟨n9, 0, none⟩)]) = fv := ⟨_, rfl⟩
         try rw [efv]
         exact ⟨Z, pa, pl, pc, fv, rfl, u4.heap.size, u5.heap.size, F, H, HX, HY, BW, PB, MW, ⟨SZ.out, PB.out.lt, by have := VM.out; omega, ZH.out, ZZ0⟩⟩
       · -- the box, then its call
         unfold Oper.wpIn
         refine ⟨fun _ _ => trivial, ?_⟩
         go_simp
         have hb : Below u4.heap.size u4 (u4.alloc (.cells #[.slice none 0 0] 35)) := (Below.refl _ _).alloc (Nat.le_refl _) _
         have PB := hide (Rec.new u4 [.slice none 0 0] 35)
         have SZ : Hid (w.heap.size + 1 + 1 + 1 + 1 < u4.heap.size) := F.out.p.lt
         replace B4 := hide hb
         have hHeld2 := And.intro (hHeld.1.below hb) (hHeld.2.below hb)
         refine hK _ _ (fun _ => hHeld2) ?_
         clear hK K hHeld
         replace F := hide (F.out.below hb)
         replace H := hide (H.out.below hb)
         replace HX := hide (HX.out.below hb)
         replace HY := hide (HY.out.below hb)
         replace BW := hide (BW.out.trans (hb.mono BW.out.size))
         clear hb
         have hHeld := hHeld2
         clear hHeld2
         try simp only [Act.put, sA, List.set]
         obtain ⟨Z, eZ⟩ : ∃ Z, u4.heap.size = Z := ⟨_, rfl⟩
         rw [eZ] at PB SZ ⊢
         have EZ := hide eZ
         clear eZ
         generalize (u4.alloc (.cells #[.slice none 0 0] 35)) = u6 at F H HX HY BW PB hHeld B4  ⊢
         have VM : Hid (w.heap.size + 1 + 1 + 1 + 1 < u6.heap.size) := F.out.p.lt
         have ZL : Hid (Z < u6.heap.size) := PB.out.lt
         refine PhaseIn.one (i := 4) (by kernel_rfl) rfl (by kernel_rfl) (fun K hK => ?_)
         unfold Oper.wpIn
         refine ⟨fun _ _ => trivial, ?_⟩
         go_simp
         refine ⟨rfl, (callsIn_wide.2 (SO'.out.go x y Bx By _ _ _ B4.out HX.out HY.out OK.out.1 OK.out.2)).mono ?_⟩
         rintro e u5 ⟨⟨pa, pl, pc, rfl, MW⟩, hb⟩
         have L5 : Hid (u6.heap.size ≤ u5.heap.size) := hb.size
         replace MW := hide MW
         have hHeld2 := And.intro (hHeld.1.below hb) (hHeld.2.below hb)
         refine hK _ _ (fun _ => hHeld2) ?_
         clear hK K hHeld
         replace PB := hide (PB.out.below hb)
         replace F := hide (F.out.below hb)
         replace H := hide (H.out.below hb)
         replace HX := hide (HX.out.below hb)
         replace HY := hide (HY.out.below hb)
         replace BW := hide (BW.out.trans (hb.mono BW.out.size))
         clear hb
         have hHeld := hHeld2
         clear hHeld2
         try simp only [Act.put, sA, List.set]
         refine PhaseIn.takeE (i := 5) (v := ?_) [5, 6, 7, 9, 10] 40 rfl (by rfl) (by kernel_rfl) (fun _ _ _ h => h) (Or.inl ⟨by kernel_rfl, ?_⟩) hHeld ?_
         rotate_left
         · intro w' hSw
           (try dsimp only at hSw)
           go_simp
           first | done | with_reducible rfl
         try simp only [Act.put, sA, List.set]
         refine PhaseIn.takeE (i := 6) (v := ?_) [6, 9, 10] 46 rfl (by rfl) (by kernel_rfl) (fun _ _ _ h => h) (Or.inl ⟨by kernel_rfl, ?_⟩) hHeld ?_
         rotate_left
         · intro w' hSw
           (try dsimp only at hSw)
           go_simp
           first | done | with_reducible rfl
         try simp only [Act.put, sA, List.set]
         refine PhaseIn.takeE (i := 7) (v := ?_) [7, 10] 47 rfl (by rfl) (by kernel_rfl) (fun _ _ _ h => h) (Or.inl ⟨by kernel_rfl, ?_⟩) hHeld ?_
         rotate_left
         · intro w' hSw
           (try dsimp only at hSw)
           go_simp
           first | done | with_reducible rfl
         try simp only [Act.put, sA, List.set]
         have ZH0 : Hid (u5.heap.size ≤ u5.heap.size) := Nat.le_refl _
         have p0 := PB.out.cell 0 _ rfl
         have s0 := PB.out.soft 0
         refine PhaseIn.one (i := 9) (by kernel_rfl) rfl (by kernel_rfl) (fun K hK => ?_)
         unfold Oper.wpIn
         refine ⟨fun _ _ => trivial, ?_⟩
         go_simp
         have t9 : Turn Z u5 (u5.setCell ⟨Z, 0, none⟩ (.slice pa pl pc)) := (Turn.refl _ u5).setCell (p := ⟨Z, 0, none⟩) rfl _
         have hHeld2 := And.intro (hHeld.1.turn t9 (by have := SZ.out; omega)) (hHeld.2.turn t9 (by have := SZ.out; omega))
         refine hK _ _ (fun _ => hHeld2) ?_
         clear hK K hHeld p0 s0
         replace PB := hide (PB.out.set 0 (.slice pa pl pc) (by simp) rfl)
         replace F := hide (F.out.turn t9 (Or.inr (by have := SZ.out; omega)))
         replace BW := hide (BW.out.trans (t9.below (by have := SZ.out; omega) BW.out.size))
         replace H := hide (H0.out.below BW.out)
         replace HX := hide (HX0.out.below BW.out)
         replace HY := hide (HY0.out.below BW.out)
         have ZZ0 : Z < u6.heap.size ∨ u5.heap.size ≤ Z := Or.inl (by have := ZL.out; omega)
         have ZH : Hid (u5.heap.size ≤ (u5.setCell ⟨Z, 0, none⟩ (.slice pa pl pc)).heap.size) := show _ ≤ _ from Nat.le_trans ZH0.out t9.size
         replace MW := hide (MW.out.keep (Keep.of_turn t9) (fun b' h1 h2 (h3 : b' = _) => by omega))
         clear t9
         try simp only [Act.put, sA, List.set]
         generalize (u5.setCell ⟨Z, 0, none⟩ (.slice pa pl pc)) = U at F H HX HY BW PB MW ZH hHeld2 ⊢
         refine PhaseIn.takeE (i := 10) (v := ?_) [10] 11 rfl (by rfl) (by kernel_rfl) (fun _ _ _ h => h) (Or.inl ⟨by kernel_rfl, ?_⟩) hHeld2 ?_
         rotate_left
         · intro w' hSw
           (try dsimp only at hSw)
           go_simp
           first | done | with_reducible rfl
         try simp only [Act.put, sA, List.set]
         refine PhaseIn.done (by kernel_rfl) ?_ _
         obtain ⟨fv, efv⟩ : ∃ fv : Value, (Value.func (.func f) #[] #[.pointer (some ⟨s9, 0, none⟩), .pointer (some ⟨n9, 0, none⟩)]) = fv := ⟨_, rfl⟩
         try rw [efv]
         exact ⟨Z, pa, pl, pc, fv, rfl, u6.heap.size, u5.heap.size, F, H, HX, HY, BW, PB, MW, ⟨SZ.out, PB.out.lt, by have := VM.out; omega, ZH.out, ZZ0⟩⟩
   · -- the box first
     unfold Oper.wpIn
     refine ⟨fun _ _ => trivial, ?_⟩
     go_simp
     have hb : Below d1.heap.size d1 (d1.alloc (.cells #[.slice none 0 0] 35)) := (Below.refl _ _).alloc (Nat.le_refl _) _
     have PB := hide (Rec.new d1 [.slice none 0 0] 35)
     have SZ : Hid (w.heap.size + 1 + 1 + 1 + 1 < d1.heap.size) := F.out.p.lt
     have hHeld2 := And.intro (hHeld.1.below hb) (hHeld.2.below hb)
     refine hK _ _ (fun _ => hHeld2) ?_
     clear hK K hHeld
     replace F := hide (F.out.below hb)
     replace H := hide (H.out.below hb)
     replace HX := hide (HX.out.below hb)
     replace HY := hide (HY.out.below hb)
     replace BW := hide (BW.out.trans (hb.mono BW.out.size))
     clear hb
     have hHeld := hHeld2
     clear hHeld2
     try simp only [Act.put, sA, List.set]
     obtain ⟨Z, eZ⟩ : ∃ Z, d1.heap.size = Z := ⟨_, rfl⟩
     rw [eZ] at PB SZ ⊢
     have EZ := hide eZ
     clear eZ
     generalize (d1.alloc (.cells #[.slice none 0 0] 35)) = d2 at F H HX HY BW PB hHeld  ⊢
     refine PhaseIn.one (i := 1) (by kernel_rfl) rfl (by kernel_rfl) (fun K hK => ?_)
     unfold Oper.wpIn
     refine ⟨fun _ _ => trivial, ?_⟩
     go_simp
     refine ⟨rfl, (callsIn_wide.2 (plainAll op OP.out.1 OP.out.2 _)).mono ?_⟩
     rintro e u4 ⟨f, cs, rfl, SO, hb⟩
     have hHeld2 := And.intro (hHeld.1.below hb) (hHeld.2.below hb)
     refine hK _ _ (fun _ => hHeld2) ?_
     clear hK K hHeld
     replace PB := hide (PB.out.below hb)
     replace F := hide (F.out.below hb)
     replace H := hide (H.out.below hb)
     replace HX := hide (HX.out.below hb)
     replace HY := hide (HY.out.below hb)
     replace BW := hide (BW.out.trans (hb.mono BW.out.size))
     clear hb
     have hHeld := hHeld2
     clear hHeld2
     try simp only [Act.put, sA, List.set]
     have EN := SO.en
     have SO' := hide SO
     have B4 : Hid (Below u4.heap.size u4 u4) := Below.refl _ _
     have SH := hide SO.sh
     clear SO
     have VM : Hid (w.heap.size + 1 + 1 + 1 + 1 < u4.heap.size) := F.out.p.lt
     have ZL : Hid (Z < u4.heap.size) := PB.out.lt
     obtain rfl | ⟨s9, n9, rfl⟩ := SH.out
     · clear SH
       refine PhaseIn.one (i := 4) (by kernel_rfl) rfl (by kernel_rfl) (fun K hK => ?_)
       unfold Oper.wpIn
       refine ⟨fun _ _ => trivial, ?_⟩
       go_simp
       refine ⟨rfl, (callsIn_wide.2 (SO'.out.go x y Bx By _ _ _ B4.out HX.out HY.out OK.out.1 OK.out.2)).mono ?_⟩
       rintro e u5 ⟨⟨pa, pl, pc, rfl, MW⟩, hb⟩
       have L5 : Hid (u4.heap.size ≤ u5.heap.size) := hb.size
       replace MW := hide MW
       have hHeld2 := And.intro (hHeld.1.below hb) (hHeld.2.below hb)
       refine hK _ _ (fun _ => hHeld2) ?_
       clear hK K hHeld
       replace PB := hide (PB.out.below hb)
       replace F := hide (F.out.below hb)
       replace H := hide (H.out.below hb)
       replace HX := hide (HX.out.below hb)
       replace HY := hide (HY.out.below hb)
       replace BW := hide (BW.out.trans (hb.mono BW.out.size))
       clear hb
       have hHeld := hHeld2
       clear hHeld2
       try simp only [Act.put, sA, List.set]
       refine PhaseIn.takeE (i := 5) (v := ?_) [5, 6, 7, 9, 10] 40 rfl (by rfl) (by kernel_rfl) (fun _ _ _ h => h) (Or.inl ⟨by kernel_rfl, ?_⟩) hHeld ?_
       rotate_left
       · intro w' hSw
         (try dsimp only at hSw)
         go_simp
         first | done | with_reducible rfl
       try simp only [Act.put, sA, List.set]
       refine PhaseIn.takeE (i := 6) (v := ?_) [6, 9, 10] 46 rfl (by rfl) (by kernel_rfl) (fun _ _ _ h => h) (Or.inl ⟨by kernel_rfl, ?_⟩) hHeld ?_
       rotate_left
       · intro w' hSw
         (try dsimp only at hSw)
         go_simp
         first | done | with_reducible rfl
       try simp only [Act.put, sA, List.set]
       refine PhaseIn.takeE (i := 7) (v := ?_) [7, 10] 47 rfl (by rfl) (by kernel_rfl) (fun _ _ _ h => h) (Or.inl ⟨by kernel_rfl, ?_⟩) hHeld ?_
       rotate_left
       · intro w' hSw
         (try dsimp only at hSw)
         go_simp
         first | done | with_reducible rfl
       try simp only [Act.put, sA, List.set]
       have ZH0 : Hid (u5.heap.size ≤ u5.heap.size) := Nat.le_refl _
       have p0 := PB.out.cell 0 _ rfl
       have s0 := PB.out.soft 0
       refine PhaseIn.one (i := 9) (by kernel_rfl) rfl (by kernel_rfl) (fun K hK => ?_)
       unfold Oper.wpIn
       refine ⟨fun _ _ => trivial, ?_⟩
       go_simp
       have t9 : Turn Z u5 (u5.setCell ⟨Z, 0, none⟩ (.slice pa pl pc)) := (Turn.refl _ u5).setCell (p := ⟨Z, 0, none⟩) rfl _
       have hHeld2 := And.intro (hHeld.1.turn t9 (by have := SZ.out; omega)) (hHeld.2.turn t9 (by have := SZ.out; omega))
       refine hK _ _ (fun _ => hHeld2) ?_
       clear hK K hHeld p0 s0
       replace PB := hide (PB.out.set 0 (.slice pa pl pc) (by simp) rfl)
       replace F := hide (F.out.turn t9 (Or.inr (by have := SZ.out; omega)))
       replace BW := hide (BW.out.trans (t9.below (by have := SZ.out; omega) BW.out.size))
       replace H := hide (H0.out.below BW.out)
       replace HX := hide (HX0.out.below BW.out)
       replace HY := hide (HY0.out.below BW.out)
       have ZZ0 : Z < u4.heap.size ∨ u5.heap.size ≤ Z := Or.inl (by have := ZL.out; omega)
       have ZH : Hid (u5.heap.size ≤ (u5.setCell ⟨Z, 0, none⟩ (.slice pa pl pc)).heap.size) := show _ ≤ _ from Nat.le_trans ZH0.out t9.size
       replace MW := hide (MW.out.keep (Keep.of_turn t9) (fun b' h1 h2 (h3 : b' = _) => by omega))
       clear t9
       try simp only [Act.put, sA, List.set]
       generalize (u5.setCell ⟨Z, 0, none⟩ (.slice pa pl pc)) = U at F H HX HY BW PB MW ZH hHeld2 ⊢
       refine PhaseIn.takeE (i := 10) (v := ?_) [10] 11 rfl (by rfl) (by kernel_rfl) (fun _ _ _ h => h) (Or.inl ⟨by kernel_rfl, ?_⟩) hHeld2 ?_
       rotate_left
       · intro w' hSw
         (try dsimp only at hSw)
         go_simp
         first | done | with_reducible rfl
       try simp only [Act.put, sA, List.set]
       refine PhaseIn.done (by kernel_rfl) ?_ _
       obtain ⟨fv, efv⟩ : ∃ fv : Value, (Value.func (.func f) #[] #[]) = fv := ⟨_, rfl⟩
       try rw [efv]
       exact ⟨Z, pa, pl, pc, fv, rfl, u4.heap.size, u5.heap.size, F, H, HX, HY, BW, PB, MW, ⟨SZ.out, PB.out.lt, by have := VM.out; omega, ZH.out, ZZ0⟩⟩
     · clear SH
       refine PhaseIn.one (i := 4) (by kernel_rfl) rfl (by kernel_rfl) (fun K hK => ?_)
       unfold Oper.wpIn
       refine ⟨fun _ _ => trivial, ?_⟩
       go_simp
       refine ⟨rfl, (callsIn_wide.2 (SO'.out.go x y Bx By _ _ _ B4.out HX.out HY.out OK.out.1 OK.out.2)).mono ?_⟩
       rintro e u5 ⟨⟨pa, pl, pc, rfl, MW⟩, hb⟩
       have L5 : Hid (u4.heap.size ≤ u5.heap.size) := hb.size
       replace MW := hide MW
       have hHeld2 := And.intro (hHeld.1.below hb) (hHeld.2.below hb)
       refine hK _ _ (fun _ => hHeld2) ?_
       clear hK K hHeld
       replace PB := hide (PB.out.below hb)
       replace F := hide (F.out.below hb)
       replace H := hide (H.out.below hb)
       replace HX := hide (HX.out.below hb)
       replace HY := hide (HY.out.below hb)
       replace BW := hide (BW.out.trans (hb.mono BW.out.size))
       clear hb
       have hHeld := hHeld2
       clear hHeld2
       try simp only [Act.put, sA, List.set]
       refine PhaseIn.takeE (i := 5) (v := ?_) [5, 6, 7, 9, 10] 40 rfl (by rfl) (by kernel_rfl) (fun _ _ _ h => h) (Or.inl ⟨by kernel_rfl, ?_⟩) hHeld ?_
       rotate_left
       · intro w' hSw
         (try dsimp only at hSw)
         go_simp
         first | done | with_reducible rfl
       try simp only [Act.put, sA, List.set]
       refine PhaseIn.takeE (i := 6) (v := ?_) [6, 9, 10] 46 rfl (by rfl) (by kernel_rfl) (fun _ _ _ h => h) (Or.inl ⟨by kernel_rfl, ?_⟩) hHeld ?_
       rotate_left
       · intro w' hSw
         (try dsimp only at hSw)
         go_simp
         first | done | with_reducible rfl
       try simp only [Act.put, sA, List.set]
       refine PhaseIn.takeE (i := 7) (v := ?_) [7, 10] 47 rfl (by rfl) (by kernel_rfl) (fun _ _ _ h => h) (Or.inl ⟨by kernel_rfl, ?_⟩) hHeld ?_
       rotate_left
       · intro w' hSw
         (try dsimp only at hSw)
         go_simp
         first | done | with_reducible rfl
       try simp only [Act.put, sA, List.set]
       have ZH0 : Hid (u5.heap.size ≤ u5.heap.size) := Nat.le_refl _
       have p0 := PB.out.cell 0 _ rfl
       have s0 := PB.out.soft 0
       refine PhaseIn.one (i := 9) (by kernel_rfl) rfl (by kernel_rfl) (fun K hK => ?_)
       unfold Oper.wpIn
       refine ⟨fun _ _ => trivial, ?_⟩
       go_simp
       have t9 : Turn Z u5 (u5.setCell ⟨Z, 0, none⟩ (.slice pa pl pc)) := (Turn.refl _ u5).setCell (p := ⟨Z, 0, none⟩) rfl _
       have hHeld2 := And.intro (hHeld.1.turn t9 (by have := SZ.out; omega)) (hHeld.2.turn t9 (by have := SZ.out; omega))
       refine hK _ _ (fun _ => hHeld2) ?_
       clear hK K hHeld p0 s0
       replace PB := hide (PB.out.set 0 (.slice pa pl pc) (by simp) rfl)
       replace F := hide (F.out.turn t9 (Or.inr (by have := SZ.out; omega)))
       replace BW := hide (BW.out.trans (t9.below (by have := SZ.out; omega) BW.out.size))
       replace H := hide (H0.out.below BW.out)
       replace HX := hide (HX0.out.below BW.out)
       replace HY := hide (HY0.out.below BW.out)
       have ZZ0 : Z < u4.heap.size ∨ u5.heap.size ≤ Z := Or.inl (by have := ZL.out; omega)
       have ZH : Hid (u5.heap.size ≤ (u5.setCell ⟨Z, 0, none⟩ (.slice pa pl pc)).heap.size) := show _ ≤ _ from Nat.le_trans ZH0.out t9.size
       replace MW := hide (MW.out.keep (Keep.of_turn t9) (fun b' h1 h2 (h3 : b' = _) => by omega))
       clear t9
       try simp only [Act.put, sA, List.set]
       generalize (u5.setCell ⟨Z, 0, none⟩ (.slice pa pl pc)) = U at F H HX HY BW PB MW ZH hHeld2 ⊢
       refine PhaseIn.takeE (i := 10) (v := ?_) [10] 11 rfl (by rfl) (by kernel_rfl) (fun _ _ _ h => h) (Or.inl ⟨by kernel_rfl, ?_⟩) hHeld2 ?_
       rotate_left
       · intro w' hSw
         (try dsimp only at hSw)
         go_simp
         first | done | with_reducible rfl
       try simp only [Act.put, sA, List.set]
       refine PhaseIn.done (by kernel_rfl) ?_ _
       obtain ⟨fv, efv⟩ : ∃ fv : Value, (Value.func (.func f) #[] #[.pointer (some ⟨s9, 0, none⟩), .pointer (some ⟨n9, 0, none⟩)]) = fv := ⟨_, rfl⟩
       try rw [efv]
       exact ⟨Z, pa, pl, pc, fv, rfl, u4.heap.size, u5.heap.size, F, H, HX, HY, BW, PB, MW, ⟨SZ.out, PB.out.lt, by have := VM.out; omega, ZH.out, ZZ0⟩⟩
 clear F H HX HY BW
 rintro Z pa pl pc fv W ⟨mid, hid, F, H, HX, HY, BW, PB, MW, ZZ⟩
 try dsimp only
 cases eb : plB op x y with
 | true =>
  have HD : Hid (ts = dosT ts op x y ∧ plP op x y = dosP ts op x y) := show _ ∧ _ by rw [PE.out.1, PE.out.2]; unfold doT doP; rw [if_pos eb, if_pos eb]; exact ⟨rfl, rfl⟩
  clear eb
  go_wp2_with fail
  refine (wpIn_wide (n := 0)).1 ?_
  have bA : Below W.heap.size W W.drew := (Below.refl _ _).drew
  replace PB := hide (PB.out.below bA)
  replace MW := hide (MW.out.below bA)
  replace ZZ : Hid (w.heap.size + 1 + 1 + 1 + 1 < Z ∧ w.heap.size + 1 + 1 + 1 + 1 < mid ∧ hid ≤ W.drew.heap.size ∧ (Z < mid ∨ hid ≤ Z)) := ⟨ZZ.out.1, ZZ.out.2.2.1, Nat.le_trans ZZ.out.2.2.2.1 bA.size, ZZ.out.2.2.2.2⟩
  replace F := hide (F.out.below bA)
  replace H := hide (H.out.below bA)
  replace HX := hide (HX.out.below bA)
  replace HY := hide (HY.out.below bA)
  replace BW := hide (BW.out.trans (bA.mono BW.out.size))
  clear bA
  refine PhaseIn.region (S := fun w' => Rec w.heap.size [.slice q0 ts.length cap0] w' ∧ Rec Z [.slice pa pl pc] w') 5 (by kernel_rfl) ?_
  generalize W.drew = d5 at F H HX HY BW PB MW ZZ ⊢
  have hHeld := And.intro F.out.t PB.out
  refine PhaseIn.takeE (i := 0) (v := ?_) [0, 1, 3, 4] 49 rfl (by rfl) (by kernel_rfl) (fun _ _ _ h => h) (Or.inl ⟨by kernel_rfl, ?_⟩) hHeld ?_
  rotate_left
  · intro w' hSw
    (try dsimp only at hSw)
    have z0 := hSw.1.cell 0 _ rfl
    go_simp
    first | done | with_reducible rfl
  try simp only [Act.put, sA, List.set]
  refine PhaseIn.takeE (i := 2) (v := ?_) [2, 4] 51 rfl (by rfl) (by kernel_rfl) (fun _ _ _ h => h) (Or.inl ⟨by kernel_rfl, ?_⟩) hHeld ?_
  rotate_left
  · intro w' hSw
    (try dsimp only at hSw)
    have z0 := hSw.2.cell 0 _ rfl
    go_simp
    first | done | with_reducible rfl
  try simp only [Act.put, sA, List.set]
  refine PhaseIn.one (i := 1) (by kernel_rfl) rfl (by kernel_rfl) (fun K hK => ?_)
  unfold Oper.wpIn
  refine ⟨fun _ _ => trivial, ?_⟩
  go_simp
  refine ⟨rfl, (callsIn_wide.2 (copiedAtoms ts B _ _ H.out FT.out.1 (by have := FT.out.2; omega))).mono ?_⟩
  rintro e u7 ⟨q, cap, cs, l, m, hh, rfl, OT, hb⟩
  have D5 : Hid (w.heap.size + 1 + 1 + 1 + 1 < d5.heap.size) := F.out.p.lt
  have S75 : Hid (d5.heap.size ≤ u7.heap.size) := hb.size
  have hHeld2 := And.intro (hHeld.1.below hb) (hHeld.2.below hb)
  refine hK _ _ (fun _ => hHeld2) ?_
  clear hK K hHeld
  replace PB := hide (PB.out.below hb)
  replace MW := hide (MW.out.below hb)
  replace F := hide (F.out.below hb)
  replace H := hide (H.out.below hb)
  replace HX := hide (HX.out.below hb)
  replace HY := hide (HY.out.below hb)
  replace BW := hide (BW.out.trans (hb.mono BW.out.size))
  clear hb
  have hHeld := hHeld2
  clear hHeld2
  try simp only [Act.put, sA, List.set]
  replace OT := hide OT
  clear PB
  have z0 := F.out.z.cell 0 _ rfl
  have s0 := F.out.z.soft 0
  refine PhaseIn.one (i := 3) (by kernel_rfl) rfl (by kernel_rfl) (fun K hK => ?_)
  unfold Oper.wpIn
  refine ⟨fun _ _ => trivial, ?_⟩
  go_simp
  have t1 : Turn (w.heap.size + 1 + 1 + 1) u7 (u7.setCell ⟨w.heap.size + 1 + 1 + 1, 0, none⟩ (.slice q ts.length cap)) := (Turn.refl _ u7).setCell (p := ⟨w.heap.size + 1 + 1 + 1, 0, none⟩) rfl _
  have hHeld2 := And.intro (hHeld.1.turn t1 (by omega)) (hHeld.2.turn t1 (by have := ZZ.out; omega))
  refine hK _ _ (fun _ => hHeld2) ?_
  have ZT := hide (F.out.z.set 0 (.slice q ts.length cap) (by simp) rfl)
  have ZP := hide (F.out.p.turn t1 (by omega))
  replace OT := hide (OT.out.turn t1 (Or.inl (by have := D5.out; omega)))
  replace S75 : Hid (d5.heap.size ≤ (u7.setCell ⟨w.heap.size + 1 + 1 + 1, 0, none⟩ (.slice q ts.length cap)).heap.size) := Nat.le_trans S75.out t1.size
  replace MW := hide (MW.out.keep (Keep.of_turn t1) (fun b' h1 h2 (h3 : b' = _) => by have := ZZ.out; omega))
  replace BW := hide (BW.out.trans (t1.below (by omega) BW.out.size))
  clear hK K z0 s0 hHeld t1 F H HX HY
  have hHeld := hHeld2
  clear hHeld2
  try simp only [Act.put, sA, List.set]
  generalize (u7.setCell ⟨w.heap.size + 1 + 1 + 1, 0, none⟩ (.slice q ts.length cap)) = v6 at ZT ZP OT MW BW S75 hHeld ⊢
  have z0 := ZP.out.cell 0 _ rfl
  have s0 := ZP.out.soft 0
  refine PhaseIn.one (i := 4) (by kernel_rfl) rfl (by kernel_rfl) (fun K hK => ?_)
  unfold Oper.wpIn
  refine ⟨fun _ _ => trivial, ?_⟩
  go_simp
  have t1 : Turn (w.heap.size + 1 + 1 + 1 + 1) v6 (v6.setCell ⟨w.heap.size + 1 + 1 + 1 + 1, 0, none⟩ (.slice pa pl pc)) := (Turn.refl _ v6).setCell (p := ⟨w.heap.size + 1 + 1 + 1 + 1, 0, none⟩) rfl _
  have hHeld2 := And.intro (hHeld.1.turn t1 (by omega)) (hHeld.2.turn t1 (by have := ZZ.out; omega))
  refine hK _ _ (fun _ => hHeld2) ?_
  replace ZT := hide (ZT.out.turn t1 (by omega))
  replace ZP := hide (ZP.out.set 0 (.slice pa pl pc) (by simp) rfl)
  replace OT := hide (OT.out.turn t1 (Or.inl (by have := D5.out; omega)))
  replace S75 : Hid (d5.heap.size ≤ (v6.setCell ⟨w.heap.size + 1 + 1 + 1 + 1, 0, none⟩ (.slice pa pl pc)).heap.size) := Nat.le_trans S75.out t1.size
  replace MW := hide (MW.out.keep (Keep.of_turn t1) (fun b' h1 h2 (h3 : b' = _) => by have := ZZ.out; omega))
  replace BW := hide (BW.out.trans (t1.below (by omega) BW.out.size))
  clear hK K z0 s0 hHeld t1 
  have hHeld := hHeld2
  clear hHeld2
  try simp only [Act.put, sA, List.set]
  generalize (v6.setCell ⟨w.heap.size + 1 + 1 + 1 + 1, 0, none⟩ (.slice pa pl pc)) = v7 at ZT ZP OT MW BW S75 hHeld ⊢
  refine PhaseIn.done (by kernel_rfl) ?_ _
  have z0 := ZT.out.cell 0 _ rfl
  have z1 := ZP.out.cell 0 _ rfl
  clear hHeld
  have zt := ZZ.out
  have TF := hide (told3_cast ⟨⟨q, cap, _, _, _, d5.heap.size, v7.heap.size, mid, hid, rfl, OT.out.whole, MW.out, by have := D5.out; omega, Nat.le_refl _, by omega, by have := S75.out; omega, Or.inr (by omega)⟩, BW.out⟩ HD.out.1 HD.out.2 : Told3 w v7 (.returned (.tuple #[.agg #[.slice q ts.length cap], .agg #[.slice pa pl pc]])) (dosT ts op x y) (dosP ts op x y))
  clear zt
  go_wp2
  exact bodyPost_ret (v := .tuple #[.agg #[.slice q ts.length cap], .agg #[.slice pa pl pc]]) (by simp [results, Tryz.results9, go_sem, z0, z1]) rfl TF.out
 | false =>
  have PF := hide eb
  clear eb PB MW ZZ
  have TD : Hid (dosT ts op x y = (if putN ts (doA op x y) < 0 then [] else putT ts (doA op x y)) ∧ dosP ts op x y = (if putN ts (doA op x y) < 0 then [] else atomP (putN ts (doA op x y)))) := show _ ∧ _ by
   rw [PE.out.1, PE.out.2]; unfold doT doP
   have pf : ¬ plB op x y = true := by rw [PF.out]; decide
   rw [if_neg pf, if_neg pf]; exact ⟨rfl, rfl⟩
  clear PF PE
  have x0 := F.out.x.cell 0 _ rfl
  have y0 := F.out.y.cell 0 _ rfl
  by_cases o2 : op = 2
  · have HA0 : doA op x y = ⟨4, op, x, y⟩ := if_neg (fun h => h.1 o2)
    have g2 : (op != 2) = false := by simp [o2]
    clear o2 x0 y0
    have t0 := F.out.t.cell 0 _ rfl
    have x0 := F.out.x.cell 0 _ rfl
    have y0 := F.out.y.cell 0 _ rfl
    rw [HA0] at TD
    clear HA0
    go_wp2_with fail
    refine (implPut ts ⟨4, op, x, y⟩ B _ _ _ _ _ Bx By _ H.out HX.out HY.out).mono ?_
    rintro e u7 ⟨q', cap', cs', l', m', h', rfl, ON, hb⟩
    clear t0 x0 y0
    rw [show putP ts ⟨4, op, x, y⟩ = putT ts ⟨4, op, x, y⟩ from if_pos TB.out] at ON ⊢
    rw [show putK ts ⟨4, op, x, y⟩ = putN ts ⟨4, op, x, y⟩ from if_pos TB.out]
    have UL : Hid (w.heap.size + 1 + 1 + 1 + 1 < W.heap.size) := F.out.p.lt
    replace ON := hide ON
    replace F := hide (F.out.below hb)
    replace H := hide (H.out.below hb)
    replace HX := hide (HX.out.below hb)
    replace HY := hide (HY.out.below hb)
    replace BW := hide (BW.out.trans (hb.mono BW.out.size))
    clear hb
    obtain ⟨TT, eTT⟩ : ∃ TT, putT ts ⟨4, op, x, y⟩ = TT := ⟨_, rfl⟩
    obtain ⟨KK, eKK⟩ : ∃ KK, putN ts ⟨4, op, x, y⟩ = KK := ⟨_, rfl⟩
    rw [eTT] at ON TD ⊢
    rw [eKK] at TD ⊢
    clear eTT eKK H HX HY
    have bo : Below u7.heap.size u7 (u7.alloc (.cells #[.slice q' TT.length cap'] 32)) := (Below.refl _ _).alloc (Nat.le_refl _) _
    have BX := hide (Rec.new u7 [.slice q' TT.length cap'] 32)
    have U7 : Hid (w.heap.size + 1 + 1 + 1 + 1 < u7.heap.size) := F.out.p.lt
    replace F := hide (F.out.below bo)
    replace ON := hide (ON.out.whole)
    replace ON := hide (ON.out.below bo)
    replace BW := hide (BW.out.trans (bo.mono BW.out.size))
    clear bo
    by_cases kn : KK < 0
    · have PE : Hid (dosT ts op x y = [] ∧ dosP ts op x y = []) := show _ ∧ _ by rw [TD.out.1, TD.out.2, if_pos kn, if_pos kn]; exact ⟨rfl, rfl⟩
      clear TD ON BX
      have z0 := F.out.z.cell 0 _ rfl
      have s0 := F.out.z.soft 0
      have z1 := F.out.p.cell 0 _ rfl
      have s1 := F.out.p.soft 0
      have N1 : Turn (w.heap.size + 1 + 1 + 1) (u7.alloc (.cells #[.slice q' TT.length cap'] 32)) ((u7.alloc (.cells #[.slice q' TT.length cap'] 32)).setCell ⟨w.heap.size + 1 + 1 + 1, 0, none⟩ (.slice none 0 0)) := (Turn.refl _ _).setCell (p := ⟨w.heap.size + 1 + 1 + 1, 0, none⟩) rfl _
      have N2 : Turn (w.heap.size + 1 + 1 + 1 + 1) ((u7.alloc (.cells #[.slice q' TT.length cap'] 32)).setCell ⟨w.heap.size + 1 + 1 + 1, 0, none⟩ (.slice none 0 0)) (((u7.alloc (.cells #[.slice q' TT.length cap'] 32)).setCell ⟨w.heap.size + 1 + 1 + 1, 0, none⟩ (.slice none 0 0)).setCell ⟨w.heap.size + 1 + 1 + 1 + 1, 0, none⟩ (.slice none 0 0)) := (Turn.refl _ _).setCell (p := ⟨w.heap.size + 1 + 1 + 1 + 1, 0, none⟩) rfl _
      have R0 := hide ((F.out.z.set 0 (.slice none 0 0) (by simp) rfl).turn N2 (by omega))
      have R1 := hide ((F.out.p.turn N1 (by omega)).set 0 (.slice none 0 0) (by simp) rfl)
      have TF := hide (told3_cast (told3_nil ((BW.out.trans (N1.below (by omega) BW.out.size)).trans (N2.below (by omega) (Nat.le_trans BW.out.size N1.size)))) PE.out.1.symm PE.out.2.symm)
      clear F N1 N2 BW
      go_wp2
      generalize (((u7.alloc (.cells #[.slice q' TT.length cap'] 32)).setCell ⟨w.heap.size + 1 + 1 + 1, 0, none⟩ (.slice none 0 0)).setCell ⟨w.heap.size + 1 + 1 + 1 + 1, 0, none⟩ (.slice none 0 0)) = y9 at R0 R1 TF ⊢
      have r0 := R0.out.cell 0 _ rfl
      have r1 := R1.out.cell 0 _ rfl
      exact bodyPost_ret (v := .tuple #[.agg #[.slice none 0 0], .agg #[.slice none 0 0]]) (by simp [results, Tryz.results9, go_sem, r0, r1]) rfl TF.out
    have HD : Hid (TT = dosT ts op x y ∧ atomP KK = dosP ts op x y) := show _ ∧ _ by rw [TD.out.1, TD.out.2, if_neg kn, if_neg kn]; exact ⟨rfl, rfl⟩
    clear TD
    have bA : Below (u7.alloc (.cells #[.slice q' TT.length cap'] 32)).heap.size (u7.alloc (.cells #[.slice q' TT.length cap'] 32)) (u7.alloc (.cells #[.slice q' TT.length cap'] 32)).drew := (Below.refl _ _).drew
    go_wp2_with fail
    refine (wpIn_wide (n := 0)).1 ?_
    replace F := hide (F.out.below bA)
    replace BX := hide (BX.out.below bA)
    replace ON := hide (ON.out.below bA)
    replace BW := hide (BW.out.trans (bA.mono BW.out.size))
    refine PhaseIn.region (S := fun w' => Rec u7.heap.size [.slice q' TT.length cap'] w' ∧ True) 5 (by kernel_rfl) ?_
    have SD : Hid (u7.heap.size < (u7.alloc (.cells #[.slice q' TT.length cap'] 32)).drew.heap.size) := BX.out.lt
    generalize (u7.alloc (.cells #[.slice q' TT.length cap'] 32)).drew = d8 at F BX ON BW SD ⊢
    have hHeld : Rec u7.heap.size [.slice q' TT.length cap'] d8 ∧ True := ⟨BX.out, trivial⟩
    clear bA
    refine PhaseIn.takeE (i := 0) (v := ?_) [0, 3, 4] 75 rfl (by rfl) (by kernel_rfl) (fun _ _ _ h => h) (Or.inl ⟨by kernel_rfl, ?_⟩) hHeld ?_
    rotate_left
    · intro w' hSw
      (try dsimp only at hSw)
      have z0 := hSw.1.cell 0 _ rfl
      go_simp
      first | done | with_reducible rfl
    try simp only [Act.put, sA, List.set]
    refine PhaseIn.takeE (i := 1) (v := ?_) [1, 2, 3, 4] 76 rfl (by rfl) (by kernel_rfl) (fun _ _ _ h => h) (Or.inl ⟨by kernel_rfl, ?_⟩) hHeld ?_
    rotate_left
    · intro w' hSw
      (try dsimp only at hSw)
      go_simp
      first | done | with_reducible rfl
    try simp only [Act.put, sA, List.set]
    refine PhaseIn.one (i := 2) (by kernel_rfl) rfl (by kernel_rfl) (fun K hK => ?_)
    unfold Oper.wpIn
    refine ⟨fun _ _ => trivial, ?_⟩
    go_simp
    refine ⟨rfl, (callsIn_wide.2 (implAtom KK _)).mono ?_⟩
    rintro e u9 ⟨ra, rl, rc, rfl, MA, hb⟩
    refine hK _ _ (fun _ => ⟨hHeld.1.below hb, trivial⟩) ?_
    replace hHeld : Rec u7.heap.size [.slice q' TT.length cap'] u9 ∧ True := ⟨hHeld.1.below hb, trivial⟩
    replace MA := hide MA
    have S9 : Hid (d8.heap.size ≤ u9.heap.size) := hb.size
    replace F := hide (F.out.below hb)
    replace ON := hide (ON.out.below hb)
    replace BW := hide (BW.out.trans (hb.mono BW.out.size))
    clear hK K hb BX
    try simp only [Act.put, sA, List.set]
    have z0 := F.out.z.cell 0 _ rfl
    have s0 := F.out.z.soft 0
    refine PhaseIn.one (i := 3) (by kernel_rfl) rfl (by kernel_rfl) (fun K hK => ?_)
    unfold Oper.wpIn
    refine ⟨fun _ _ => trivial, ?_⟩
    go_simp
    have t1 : Turn (w.heap.size + 1 + 1 + 1) u9 (u9.setCell ⟨w.heap.size + 1 + 1 + 1, 0, none⟩ (.slice q' TT.length cap')) := (Turn.refl _ u9).setCell (p := ⟨w.heap.size + 1 + 1 + 1, 0, none⟩) rfl _
    have hHeld2 : Rec u7.heap.size [.slice q' TT.length cap'] (u9.setCell ⟨w.heap.size + 1 + 1 + 1, 0, none⟩ (.slice q' TT.length cap')) ∧ True := ⟨hHeld.1.turn t1 (by have := U7.out; omega), trivial⟩
    refine hK _ _ (fun _ => hHeld2) ?_
    have ZT := hide (F.out.z.set 0 (.slice q' TT.length cap') (by simp) rfl)
    have ZP := hide (F.out.p.turn t1 (by omega))
    replace ON := hide (ON.out.keep (Keep.of_turn t1) (fun b' h1 h2 (h3 : b' = _) => by have := UL.out; omega))
    replace MA := hide (MA.out.keep (Keep.of_turn t1) (fun b' h1 h2 (h3 : b' = _) => by have := U7.out; have := SD.out; omega))
    replace BW := hide (BW.out.trans (t1.below (by omega) BW.out.size))
    have S10 : Hid (u9.heap.size ≤ (u9.setCell ⟨w.heap.size + 1 + 1 + 1, 0, none⟩ (.slice q' TT.length cap')).heap.size) := t1.size
    clear hK K z0 s0 hHeld t1 F
    try simp only [Act.put, sA, List.set]
    generalize u9.setCell ⟨w.heap.size + 1 + 1 + 1, 0, none⟩ (.slice q' TT.length cap') = v6 at ZT ZP ON MA BW S10 hHeld2 ⊢
    have z0 := ZP.out.cell 0 _ rfl
    have s0 := ZP.out.soft 0
    refine PhaseIn.one (i := 4) (by kernel_rfl) rfl (by kernel_rfl) (fun K hK => ?_)
    unfold Oper.wpIn
    refine ⟨fun _ _ => trivial, ?_⟩
    go_simp
    have t2 : Turn (w.heap.size + 1 + 1 + 1 + 1) v6 (v6.setCell ⟨w.heap.size + 1 + 1 + 1 + 1, 0, none⟩ (.slice ra rl rc)) := (Turn.refl _ v6).setCell (p := ⟨w.heap.size + 1 + 1 + 1 + 1, 0, none⟩) rfl _
    have hHeld3 : Rec u7.heap.size [.slice q' TT.length cap'] (v6.setCell ⟨w.heap.size + 1 + 1 + 1 + 1, 0, none⟩ (.slice ra rl rc)) ∧ True := ⟨hHeld2.1.turn t2 (by have := U7.out; omega), trivial⟩
    refine hK _ _ (fun _ => hHeld3) ?_
    replace ZT := hide (ZT.out.turn t2 (by omega))
    replace ZP := hide (ZP.out.set 0 (.slice ra rl rc) (by simp) rfl)
    replace ON := hide (ON.out.keep (Keep.of_turn t2) (fun b' h1 h2 (h3 : b' = _) => by have := UL.out; omega))
    replace MA := hide (MA.out.keep (Keep.of_turn t2) (fun b' h1 h2 (h3 : b' = _) => by have := U7.out; have := SD.out; omega))
    replace BW := hide (BW.out.trans (t2.below (by omega) BW.out.size))
    have S11 : Hid (u9.heap.size ≤ (v6.setCell ⟨w.heap.size + 1 + 1 + 1 + 1, 0, none⟩ (.slice ra rl rc)).heap.size) := Nat.le_trans S10.out t2.size
    clear hK K z0 s0 hHeld2 t2
    try simp only [Act.put, sA, List.set]
    generalize v6.setCell ⟨w.heap.size + 1 + 1 + 1 + 1, 0, none⟩ (.slice ra rl rc) = v7 at ZT ZP ON MA BW S11 hHeld3 ⊢
    refine PhaseIn.done (by kernel_rfl) ?_ _
    have z0 := ZT.out.cell 0 _ rfl
    have z1 := ZP.out.cell 0 _ rfl
    clear hHeld3
    have TF := hide (told3_cast ⟨⟨q', cap', _, _, _, W.heap.size, u7.heap.size, d8.heap.size, u9.heap.size, rfl, ON.out, MA.out, by have := UL.out; omega, by have := SD.out; have := S9.out; have := S11.out; omega, by have := SD.out; have := U7.out; omega, S11.out, Or.inl (by have := SD.out; omega)⟩, BW.out⟩ HD.out.1 HD.out.2 : Told3 w v7 (.returned (.tuple #[.agg #[(.slice q' TT.length cap')], .agg #[(.slice ra rl rc)]])) (dosT ts op x y) (dosP ts op x y))
    go_wp2
    exact bodyPost_ret (v := .tuple #[.agg #[(.slice q' TT.length cap')], .agg #[(.slice ra rl rc)]]) (by simp [results, Tryz.results9, go_sem, z0, z1]) rfl TF.out
  have g2 : (op != 2) = true := by simp [o2]
  have O2 := hide o2
  clear o2
  go_wp2_with fail
  refine (implOrder x y Bx By _ _ _ HX.out HY.out).mono ?_
  rintro e u6 ⟨rfl, hb⟩
  replace F := hide (F.out.below hb)
  replace H := hide (H.out.below hb)
  replace HX := hide (HX.out.below hb)
  replace HY := hide (HY.out.below hb)
  replace BW := hide (BW.out.trans (hb.mono BW.out.size))
  clear hb
  clear x0 y0
  obtain ⟨od, eod⟩ : ∃ od, ordP x y = od := ⟨_, rfl⟩
  have EO := hide eod
  rw [eod]
  clear eod
  by_cases od0 : 0 < od
  case neg =>
   have HA0 : doA op x y = ⟨4, op, x, y⟩ := if_neg (fun h => od0 (by have := h.2; rw [EO.out] at this; exact this))
   have t0 := F.out.t.cell 0 _ rfl
   have x0 := F.out.x.cell 0 _ rfl
   have y0 := F.out.y.cell 0 _ rfl
   rw [HA0] at TD
   clear HA0
   go_wp2_with fail
   refine (implPut ts ⟨4, op, x, y⟩ B _ _ _ _ _ Bx By _ H.out HX.out HY.out).mono ?_
   rintro e u7 ⟨q', cap', cs', l', m', h', rfl, ON, hb⟩
   clear t0 x0 y0
   rw [show putP ts ⟨4, op, x, y⟩ = putT ts ⟨4, op, x, y⟩ from if_pos TB.out] at ON ⊢
   rw [show putK ts ⟨4, op, x, y⟩ = putN ts ⟨4, op, x, y⟩ from if_pos TB.out]
   have UL : Hid (w.heap.size + 1 + 1 + 1 + 1 < u6.heap.size) := F.out.p.lt
   replace ON := hide ON
   replace F := hide (F.out.below hb)
   replace H := hide (H.out.below hb)
   replace HX := hide (HX.out.below hb)
   replace HY := hide (HY.out.below hb)
   replace BW := hide (BW.out.trans (hb.mono BW.out.size))
   clear hb
   obtain ⟨TT, eTT⟩ : ∃ TT, putT ts ⟨4, op, x, y⟩ = TT := ⟨_, rfl⟩
   obtain ⟨KK, eKK⟩ : ∃ KK, putN ts ⟨4, op, x, y⟩ = KK := ⟨_, rfl⟩
   rw [eTT] at ON TD ⊢
   rw [eKK] at TD ⊢
   clear eTT eKK H HX HY
   have bo : Below u7.heap.size u7 (u7.alloc (.cells #[.slice q' TT.length cap'] 32)) := (Below.refl _ _).alloc (Nat.le_refl _) _
   have BX := hide (Rec.new u7 [.slice q' TT.length cap'] 32)
   have U7 : Hid (w.heap.size + 1 + 1 + 1 + 1 < u7.heap.size) := F.out.p.lt
   replace F := hide (F.out.below bo)
   replace ON := hide (ON.out.whole)
   replace ON := hide (ON.out.below bo)
   replace BW := hide (BW.out.trans (bo.mono BW.out.size))
   clear bo
   by_cases kn : KK < 0
   · have PE : Hid (dosT ts op x y = [] ∧ dosP ts op x y = []) := show _ ∧ _ by rw [TD.out.1, TD.out.2, if_pos kn, if_pos kn]; exact ⟨rfl, rfl⟩
     clear TD ON BX
     have z0 := F.out.z.cell 0 _ rfl
     have s0 := F.out.z.soft 0
     have z1 := F.out.p.cell 0 _ rfl
     have s1 := F.out.p.soft 0
     have N1 : Turn (w.heap.size + 1 + 1 + 1) (u7.alloc (.cells #[.slice q' TT.length cap'] 32)) ((u7.alloc (.cells #[.slice q' TT.length cap'] 32)).setCell ⟨w.heap.size + 1 + 1 + 1, 0, none⟩ (.slice none 0 0)) := (Turn.refl _ _).setCell (p := ⟨w.heap.size + 1 + 1 + 1, 0, none⟩) rfl _
     have N2 : Turn (w.heap.size + 1 + 1 + 1 + 1) ((u7.alloc (.cells #[.slice q' TT.length cap'] 32)).setCell ⟨w.heap.size + 1 + 1 + 1, 0, none⟩ (.slice none 0 0)) (((u7.alloc (.cells #[.slice q' TT.length cap'] 32)).setCell ⟨w.heap.size + 1 + 1 + 1, 0, none⟩ (.slice none 0 0)).setCell ⟨w.heap.size + 1 + 1 + 1 + 1, 0, none⟩ (.slice none 0 0)) := (Turn.refl _ _).setCell (p := ⟨w.heap.size + 1 + 1 + 1 + 1, 0, none⟩) rfl _
     have R0 := hide ((F.out.z.set 0 (.slice none 0 0) (by simp) rfl).turn N2 (by omega))
     have R1 := hide ((F.out.p.turn N1 (by omega)).set 0 (.slice none 0 0) (by simp) rfl)
     have TF := hide (told3_cast (told3_nil ((BW.out.trans (N1.below (by omega) BW.out.size)).trans (N2.below (by omega) (Nat.le_trans BW.out.size N1.size)))) PE.out.1.symm PE.out.2.symm)
     clear F N1 N2 BW
     go_wp2
     generalize (((u7.alloc (.cells #[.slice q' TT.length cap'] 32)).setCell ⟨w.heap.size + 1 + 1 + 1, 0, none⟩ (.slice none 0 0)).setCell ⟨w.heap.size + 1 + 1 + 1 + 1, 0, none⟩ (.slice none 0 0)) = y9 at R0 R1 TF ⊢
     have r0 := R0.out.cell 0 _ rfl
     have r1 := R1.out.cell 0 _ rfl
     exact bodyPost_ret (v := .tuple #[.agg #[.slice none 0 0], .agg #[.slice none 0 0]]) (by simp [results, Tryz.results9, go_sem, r0, r1]) rfl TF.out
   have HD : Hid (TT = dosT ts op x y ∧ atomP KK = dosP ts op x y) := show _ ∧ _ by rw [TD.out.1, TD.out.2, if_neg kn, if_neg kn]; exact ⟨rfl, rfl⟩
   clear TD
   have bA : Below (u7.alloc (.cells #[.slice q' TT.length cap'] 32)).heap.size (u7.alloc (.cells #[.slice q' TT.length cap'] 32)) (u7.alloc (.cells #[.slice q' TT.length cap'] 32)).drew := (Below.refl _ _).drew
   go_wp2_with fail
   refine (wpIn_wide (n := 0)).1 ?_
   replace F := hide (F.out.below bA)
   replace BX := hide (BX.out.below bA)
   replace ON := hide (ON.out.below bA)
   replace BW := hide (BW.out.trans (bA.mono BW.out.size))
   refine PhaseIn.region (S := fun w' => Rec u7.heap.size [.slice q' TT.length cap'] w' ∧ True) 5 (by kernel_rfl) ?_
   have SD : Hid (u7.heap.size < (u7.alloc (.cells #[.slice q' TT.length cap'] 32)).drew.heap.size) := BX.out.lt
   generalize (u7.alloc (.cells #[.slice q' TT.length cap'] 32)).drew = d8 at F BX ON BW SD ⊢
   have hHeld : Rec u7.heap.size [.slice q' TT.length cap'] d8 ∧ True := ⟨BX.out, trivial⟩
   clear bA
   refine PhaseIn.takeE (i := 0) (v := ?_) [0, 3, 4] 75 rfl (by rfl) (by kernel_rfl) (fun _ _ _ h => h) (Or.inl ⟨by kernel_rfl, ?_⟩) hHeld ?_
   rotate_left
   · intro w' hSw
     (try dsimp only at hSw)
     have z0 := hSw.1.cell 0 _ rfl
     go_simp
     first | done | with_reducible rfl
   try simp only [Act.put, sA, List.set]
   refine PhaseIn.takeE (i := 1) (v := ?_) [1, 2, 3, 4] 76 rfl (by rfl) (by kernel_rfl) (fun _ _ _ h => h) (Or.inl ⟨by kernel_rfl, ?_⟩) hHeld ?_
   rotate_left
   · intro w' hSw
     (try dsimp only at hSw)
     go_simp
     first | done | with_reducible rfl
   try simp only [Act.put, sA, List.set]
   refine PhaseIn.one (i := 2) (by kernel_rfl) rfl (by kernel_rfl) (fun K hK => ?_)
   unfold Oper.wpIn
   refine ⟨fun _ _ => trivial, ?_⟩
   go_simp
   refine ⟨rfl, (callsIn_wide.2 (implAtom KK _)).mono ?_⟩
   rintro e u9 ⟨ra, rl, rc, rfl, MA, hb⟩
   refine hK _ _ (fun _ => ⟨hHeld.1.below hb, trivial⟩) ?_
   replace hHeld : Rec u7.heap.size [.slice q' TT.length cap'] u9 ∧ True := ⟨hHeld.1.below hb, trivial⟩
   replace MA := hide MA
   have S9 : Hid (d8.heap.size ≤ u9.heap.size) := hb.size
   replace F := hide (F.out.below hb)
   replace ON := hide (ON.out.below hb)
   replace BW := hide (BW.out.trans (hb.mono BW.out.size))
   clear hK K hb BX
   try simp only [Act.put, sA, List.set]
   have z0 := F.out.z.cell 0 _ rfl
   have s0 := F.out.z.soft 0
   refine PhaseIn.one (i := 3) (by kernel_rfl) rfl (by kernel_rfl) (fun K hK => ?_)
   unfold Oper.wpIn
   refine ⟨fun _ _ => trivial, ?_⟩
   go_simp
   have t1 : Turn (w.heap.size + 1 + 1 + 1) u9 (u9.setCell ⟨w.heap.size + 1 + 1 + 1, 0, none⟩ (.slice q' TT.length cap')) := (Turn.refl _ u9).setCell (p := ⟨w.heap.size + 1 + 1 + 1, 0, none⟩) rfl _
   have hHeld2 : Rec u7.heap.size [.slice q' TT.length cap'] (u9.setCell ⟨w.heap.size + 1 + 1 + 1, 0, none⟩ (.slice q' TT.length cap')) ∧ True := ⟨hHeld.1.turn t1 (by have := U7.out; omega), trivial⟩
   refine hK _ _ (fun _ => hHeld2) ?_
   have ZT := hide (F.out.z.set 0 (.slice q' TT.length cap') (by simp) rfl)
   have ZP := hide (F.out.p.turn t1 (by omega))
   replace ON := hide (ON.out.keep (Keep.of_turn t1) (fun b' h1 h2 (h3 : b' = _) => by have := UL.out; omega))
   replace MA := hide (MA.out.keep (Keep.of_turn t1) (fun b' h1 h2 (h3 : b' = _) => by have := U7.out; have := SD.out; omega))
   replace BW := hide (BW.out.trans (t1.below (by omega) BW.out.size))
   have S10 : Hid (u9.heap.size ≤ (u9.setCell ⟨w.heap.size + 1 + 1 + 1, 0, none⟩ (.slice q' TT.length cap')).heap.size) := t1.size
   clear hK K z0 s0 hHeld t1 F
   try simp only [Act.put, sA, List.set]
   generalize u9.setCell ⟨w.heap.size + 1 + 1 + 1, 0, none⟩ (.slice q' TT.length cap') = v6 at ZT ZP ON MA BW S10 hHeld2 ⊢
   have z0 := ZP.out.cell 0 _ rfl
   have s0 := ZP.out.soft 0
   refine PhaseIn.one (i := 4) (by kernel_rfl) rfl (by kernel_rfl) (fun K hK => ?_)
   unfold Oper.wpIn
   refine ⟨fun _ _ => trivial, ?_⟩
   go_simp
   have t2 : Turn (w.heap.size + 1 + 1 + 1 + 1) v6 (v6.setCell ⟨w.heap.size + 1 + 1 + 1 + 1, 0, none⟩ (.slice ra rl rc)) := (Turn.refl _ v6).setCell (p := ⟨w.heap.size + 1 + 1 + 1 + 1, 0, none⟩) rfl _
   have hHeld3 : Rec u7.heap.size [.slice q' TT.length cap'] (v6.setCell ⟨w.heap.size + 1 + 1 + 1 + 1, 0, none⟩ (.slice ra rl rc)) ∧ True := ⟨hHeld2.1.turn t2 (by have := U7.out; omega), trivial⟩
   refine hK _ _ (fun _ => hHeld3) ?_
   replace ZT := hide (ZT.out.turn t2 (by omega))
   replace ZP := hide (ZP.out.set 0 (.slice ra rl rc) (by simp) rfl)
   replace ON := hide (ON.out.keep (Keep.of_turn t2) (fun b' h1 h2 (h3 : b' = _) => by have := UL.out; omega))
   replace MA := hide (MA.out.keep (Keep.of_turn t2) (fun b' h1 h2 (h3 : b' = _) => by have := U7.out; have := SD.out; omega))
   replace BW := hide (BW.out.trans (t2.below (by omega) BW.out.size))
   have S11 : Hid (u9.heap.size ≤ (v6.setCell ⟨w.heap.size + 1 + 1 + 1 + 1, 0, none⟩ (.slice ra rl rc)).heap.size) := Nat.le_trans S10.out t2.size
   clear hK K z0 s0 hHeld2 t2
   try simp only [Act.put, sA, List.set]
   generalize v6.setCell ⟨w.heap.size + 1 + 1 + 1 + 1, 0, none⟩ (.slice ra rl rc) = v7 at ZT ZP ON MA BW S11 hHeld3 ⊢
   refine PhaseIn.done (by kernel_rfl) ?_ _
   have z0 := ZT.out.cell 0 _ rfl
   have z1 := ZP.out.cell 0 _ rfl
   clear hHeld3
   have TF := hide (told3_cast ⟨⟨q', cap', _, _, _, u6.heap.size, u7.heap.size, d8.heap.size, u9.heap.size, rfl, ON.out, MA.out, by have := UL.out; omega, by have := SD.out; have := S9.out; have := S11.out; omega, by have := SD.out; have := U7.out; omega, S11.out, Or.inl (by have := SD.out; omega)⟩, BW.out⟩ HD.out.1 HD.out.2 : Told3 w v7 (.returned (.tuple #[.agg #[(.slice q' TT.length cap')], .agg #[(.slice ra rl rc)]])) (dosT ts op x y) (dosP ts op x y))
   go_wp2
   exact bodyPost_ret (v := .tuple #[.agg #[(.slice q' TT.length cap')], .agg #[(.slice ra rl rc)]]) (by simp [results, Tryz.results9, go_sem, z0, z1]) rfl TF.out
  have HA0 : doA op x y = ⟨4, op, y, x⟩ := if_pos ⟨O2.out, by rw [EO.out]; exact od0⟩
  have x0 := F.out.x.cell 0 _ rfl
  have y0 := F.out.y.cell 0 _ rfl
  have sx0 := F.out.x.soft 0
  have sy0 := F.out.y.soft 0
  have t1 : Turn (w.heap.size + 1) u6 (u6.setCell ⟨w.heap.size + 1, 0, none⟩ (.slice qy y.length cy)) := (Turn.refl _ u6).setCell (p := ⟨w.heap.size + 1, 0, none⟩) rfl _
  have t2 : Turn (w.heap.size + 1 + 1) (u6.setCell ⟨w.heap.size + 1, 0, none⟩ (.slice qy y.length cy)) ((u6.setCell ⟨w.heap.size + 1, 0, none⟩ (.slice qy y.length cy)).setCell ⟨w.heap.size + 1 + 1, 0, none⟩ (.slice qx x.length cx)) := (Turn.refl _ _).setCell (p := ⟨w.heap.size + 1 + 1, 0, none⟩) rfl _
  have F2 : Hid (Five w.heap.size [.slice q0 ts.length cap0] [.slice qy y.length cy] [.slice qx x.length cx] ((u6.setCell ⟨w.heap.size + 1, 0, none⟩ (.slice qy y.length cy)).setCell ⟨w.heap.size + 1 + 1, 0, none⟩ (.slice qx x.length cx))) := ⟨(F.out.t.turn t1 (by omega)).turn t2 (by omega), (F.out.x.set 0 (.slice qy y.length cy) (by simp) rfl).turn t2 (by omega), (F.out.y.turn t1 (by omega)).set 0 (.slice qx x.length cx) (by simp) rfl, (F.out.z.turn t1 (by omega)).turn t2 (by omega), (F.out.p.turn t1 (by omega)).turn t2 (by omega)⟩
  replace BW := hide ((BW.out.trans (t1.below (by omega) BW.out.size)).trans (t2.below (by omega) (Nat.le_trans BW.out.size t1.size)))
  replace H := hide (H0.out.below BW.out)
  replace HX := hide (HX0.out.below BW.out)
  replace HY := hide (HY0.out.below BW.out)
  clear t1 t2 F
  have F := F2
  clear F2
  have x1 := F.out.x.cell 0 _ rfl
  have y1 := F.out.y.cell 0 _ rfl
  have t0 := F.out.t.cell 0 _ rfl
  go_wp2_with fail
  clear x1 y1 t0 x0 y0 sx0 sy0
  generalize ((u6.setCell ⟨w.heap.size + 1, 0, none⟩ (.slice qy y.length cy)).setCell ⟨w.heap.size + 1 + 1, 0, none⟩ (.slice qx x.length cx)) = y6 at F H HX HY BW ⊢
  have t0 := F.out.t.cell 0 _ rfl
  have x0 := F.out.x.cell 0 _ rfl
  have y0 := F.out.y.cell 0 _ rfl
  rw [HA0] at TD
  clear HA0
  go_wp2_with fail
  refine (implPut ts ⟨4, op, y, x⟩ B _ _ _ _ _ By Bx _ H.out HY.out HX.out).mono ?_
  rintro e u7 ⟨q', cap', cs', l', m', h', rfl, ON, hb⟩
  clear t0 x0 y0
  rw [show putP ts ⟨4, op, y, x⟩ = putT ts ⟨4, op, y, x⟩ from if_pos TB.out] at ON ⊢
  rw [show putK ts ⟨4, op, y, x⟩ = putN ts ⟨4, op, y, x⟩ from if_pos TB.out]
  have UL : Hid (w.heap.size + 1 + 1 + 1 + 1 < y6.heap.size) := F.out.p.lt
  replace ON := hide ON
  replace F := hide (F.out.below hb)
  replace H := hide (H.out.below hb)
  replace HX := hide (HX.out.below hb)
  replace HY := hide (HY.out.below hb)
  replace BW := hide (BW.out.trans (hb.mono BW.out.size))
  clear hb
  obtain ⟨TT, eTT⟩ : ∃ TT, putT ts ⟨4, op, y, x⟩ = TT := ⟨_, rfl⟩
  obtain ⟨KK, eKK⟩ : ∃ KK, putN ts ⟨4, op, y, x⟩ = KK := ⟨_, rfl⟩
  rw [eTT] at ON TD ⊢
  rw [eKK] at TD ⊢
  clear eTT eKK H HX HY
  have bo : Below u7.heap.size u7 (u7.alloc (.cells #[.slice q' TT.length cap'] 32)) := (Below.refl _ _).alloc (Nat.le_refl _) _
  have BX := hide (Rec.new u7 [.slice q' TT.length cap'] 32)
  have U7 : Hid (w.heap.size + 1 + 1 + 1 + 1 < u7.heap.size) := F.out.p.lt
  replace F := hide (F.out.below bo)
  replace ON := hide (ON.out.whole)
  replace ON := hide (ON.out.below bo)
  replace BW := hide (BW.out.trans (bo.mono BW.out.size))
  clear bo
  by_cases kn : KK < 0
  · have PE : Hid (dosT ts op x y = [] ∧ dosP ts op x y = []) := show _ ∧ _ by rw [TD.out.1, TD.out.2, if_pos kn, if_pos kn]; exact ⟨rfl, rfl⟩
    clear TD ON BX
    have z0 := F.out.z.cell 0 _ rfl
    have s0 := F.out.z.soft 0
    have z1 := F.out.p.cell 0 _ rfl
    have s1 := F.out.p.soft 0
    have N1 : Turn (w.heap.size + 1 + 1 + 1) (u7.alloc (.cells #[.slice q' TT.length cap'] 32)) ((u7.alloc (.cells #[.slice q' TT.length cap'] 32)).setCell ⟨w.heap.size + 1 + 1 + 1, 0, none⟩ (.slice none 0 0)) := (Turn.refl _ _).setCell (p := ⟨w.heap.size + 1 + 1 + 1, 0, none⟩) rfl _
    have N2 : Turn (w.heap.size + 1 + 1 + 1 + 1) ((u7.alloc (.cells #[.slice q' TT.length cap'] 32)).setCell ⟨w.heap.size + 1 + 1 + 1, 0, none⟩ (.slice none 0 0)) (((u7.alloc (.cells #[.slice q' TT.length cap'] 32)).setCell ⟨w.heap.size + 1 + 1 + 1, 0, none⟩ (.slice none 0 0)).setCell ⟨w.heap.size + 1 + 1 + 1 + 1, 0, none⟩ (.slice none 0 0)) := (Turn.refl _ _).setCell (p := ⟨w.heap.size + 1 + 1 + 1 + 1, 0, none⟩) rfl _
    have R0 := hide ((F.out.z.set 0 (.slice none 0 0) (by simp) rfl).turn N2 (by omega))
    have R1 := hide ((F.out.p.turn N1 (by omega)).set 0 (.slice none 0 0) (by simp) rfl)
    have TF := hide (told3_cast (told3_nil ((BW.out.trans (N1.below (by omega) BW.out.size)).trans (N2.below (by omega) (Nat.le_trans BW.out.size N1.size)))) PE.out.1.symm PE.out.2.symm)
    clear F N1 N2 BW
    go_wp2
    generalize (((u7.alloc (.cells #[.slice q' TT.length cap'] 32)).setCell ⟨w.heap.size + 1 + 1 + 1, 0, none⟩ (.slice none 0 0)).setCell ⟨w.heap.size + 1 + 1 + 1 + 1, 0, none⟩ (.slice none 0 0)) = y9 at R0 R1 TF ⊢
    have r0 := R0.out.cell 0 _ rfl
    have r1 := R1.out.cell 0 _ rfl
    exact bodyPost_ret (v := .tuple #[.agg #[.slice none 0 0], .agg #[.slice none 0 0]]) (by simp [results, Tryz.results9, go_sem, r0, r1]) rfl TF.out
  have HD : Hid (TT = dosT ts op x y ∧ atomP KK = dosP ts op x y) := show _ ∧ _ by rw [TD.out.1, TD.out.2, if_neg kn, if_neg kn]; exact ⟨rfl, rfl⟩
  clear TD
  have bA : Below (u7.alloc (.cells #[.slice q' TT.length cap'] 32)).heap.size (u7.alloc (.cells #[.slice q' TT.length cap'] 32)) (u7.alloc (.cells #[.slice q' TT.length cap'] 32)).drew := (Below.refl _ _).drew
  go_wp2_with fail
  refine (wpIn_wide (n := 0)).1 ?_
  replace F := hide (F.out.below bA)
  replace BX := hide (BX.out.below bA)
  replace ON := hide (ON.out.below bA)
  replace BW := hide (BW.out.trans (bA.mono BW.out.size))
  refine PhaseIn.region (S := fun w' => Rec u7.heap.size [.slice q' TT.length cap'] w' ∧ True) 5 (by kernel_rfl) ?_
  have SD : Hid (u7.heap.size < (u7.alloc (.cells #[.slice q' TT.length cap'] 32)).drew.heap.size) := BX.out.lt
  generalize (u7.alloc (.cells #[.slice q' TT.length cap'] 32)).drew = d8 at F BX ON BW SD ⊢
  have hHeld : Rec u7.heap.size [.slice q' TT.length cap'] d8 ∧ True := ⟨BX.out, trivial⟩
  clear bA
  refine PhaseIn.takeE (i := 0) (v := ?_) [0, 3, 4] 75 rfl (by rfl) (by kernel_rfl) (fun _ _ _ h => h) (Or.inl ⟨by kernel_rfl, ?_⟩) hHeld ?_
  rotate_left
  · intro w' hSw
    (try dsimp only at hSw)
    have z0 := hSw.1.cell 0 _ rfl
    go_simp
    first | done | with_reducible rfl
  try simp only [Act.put, sA, List.set]
  refine PhaseIn.takeE (i := 1) (v := ?_) [1, 2, 3, 4] 76 rfl (by rfl) (by kernel_rfl) (fun _ _ _ h => h) (Or.inl ⟨by kernel_rfl, ?_⟩) hHeld ?_
  rotate_left
  · intro w' hSw
    (try dsimp only at hSw)
    go_simp
    first | done | with_reducible rfl
  try simp only [Act.put, sA, List.set]
  refine PhaseIn.one (i := 2) (by kernel_rfl) rfl (by kernel_rfl) (fun K hK => ?_)
  unfold Oper.wpIn
  refine ⟨fun _ _ => trivial, ?_⟩
  go_simp
  refine ⟨rfl, (callsIn_wide.2 (implAtom KK _)).mono ?_⟩
  rintro e u9 ⟨ra, rl, rc, rfl, MA, hb⟩
  refine hK _ _ (fun _ => ⟨hHeld.1.below hb, trivial⟩) ?_
  replace hHeld : Rec u7.heap.size [.slice q' TT.length cap'] u9 ∧ True := ⟨hHeld.1.below hb, trivial⟩
  replace MA := hide MA
  have S9 : Hid (d8.heap.size ≤ u9.heap.size) := hb.size
  replace F := hide (F.out.below hb)
  replace ON := hide (ON.out.below hb)
  replace BW := hide (BW.out.trans (hb.mono BW.out.size))
  clear hK K hb BX
  try simp only [Act.put, sA, List.set]
  have z0 := F.out.z.cell 0 _ rfl
  have s0 := F.out.z.soft 0
  refine PhaseIn.one (i := 3) (by kernel_rfl) rfl (by kernel_rfl) (fun K hK => ?_)
  unfold Oper.wpIn
  refine ⟨fun _ _ => trivial, ?_⟩
  go_simp
  have t1 : Turn (w.heap.size + 1 + 1 + 1) u9 (u9.setCell ⟨w.heap.size + 1 + 1 + 1, 0, none⟩ (.slice q' TT.length cap')) := (Turn.refl _ u9).setCell (p := ⟨w.heap.size + 1 + 1 + 1, 0, none⟩) rfl _
  have hHeld2 : Rec u7.heap.size [.slice q' TT.length cap'] (u9.setCell ⟨w.heap.size + 1 + 1 + 1, 0, none⟩ (.slice q' TT.length cap')) ∧ True := ⟨hHeld.1.turn t1 (by have := U7.out; omega), trivial⟩
  refine hK _ _ (fun _ => hHeld2) ?_
  have ZT := hide (F.out.z.set 0 (.slice q' TT.length cap') (by simp) rfl)
  have ZP := hide (F.out.p.turn t1 (by omega))
  replace ON := hide (ON.out.keep (Keep.of_turn t1) (fun b' h1 h2 (h3 : b' = _) => by have := UL.out; omega))
  replace MA := hide (MA.out.keep (Keep.of_turn t1) (fun b' h1 h2 (h3 : b' = _) => by have := U7.out; have := SD.out; omega))
  replace BW := hide (BW.out.trans (t1.below (by omega) BW.out.size))
  have S10 : Hid (u9.heap.size ≤ (u9.setCell ⟨w.heap.size + 1 + 1 + 1, 0, none⟩ (.slice q' TT.length cap')).heap.size) := t1.size
  clear hK K z0 s0 hHeld t1 F
  try simp only [Act.put, sA, List.set]
  generalize u9.setCell ⟨w.heap.size + 1 + 1 + 1, 0, none⟩ (.slice q' TT.length cap') = v6 at ZT ZP ON MA BW S10 hHeld2 ⊢
  have z0 := ZP.out.cell 0 _ rfl
  have s0 := ZP.out.soft 0
  refine PhaseIn.one (i := 4) (by kernel_rfl) rfl (by kernel_rfl) (fun K hK => ?_)
  unfold Oper.wpIn
  refine ⟨fun _ _ => trivial, ?_⟩
  go_simp
  have t2 : Turn (w.heap.size + 1 + 1 + 1 + 1) v6 (v6.setCell ⟨w.heap.size + 1 + 1 + 1 + 1, 0, none⟩ (.slice ra rl rc)) := (Turn.refl _ v6).setCell (p := ⟨w.heap.size + 1 + 1 + 1 + 1, 0, none⟩) rfl _
  have hHeld3 : Rec u7.heap.size [.slice q' TT.length cap'] (v6.setCell ⟨w.heap.size + 1 + 1 + 1 + 1, 0, none⟩ (.slice ra rl rc)) ∧ True := ⟨hHeld2.1.turn t2 (by have := U7.out; omega), trivial⟩
  refine hK _ _ (fun _ => hHeld3) ?_
  replace ZT := hide (ZT.out.turn t2 (by omega))
  replace ZP := hide (ZP.out.set 0 (.slice ra rl rc) (by simp) rfl)
  replace ON := hide (ON.out.keep (Keep.of_turn t2) (fun b' h1 h2 (h3 : b' = _) => by have := UL.out; omega))
  replace MA := hide (MA.out.keep (Keep.of_turn t2) (fun b' h1 h2 (h3 : b' = _) => by have := U7.out; have := SD.out; omega))
  replace BW := hide (BW.out.trans (t2.below (by omega) BW.out.size))
  have S11 : Hid (u9.heap.size ≤ (v6.setCell ⟨w.heap.size + 1 + 1 + 1 + 1, 0, none⟩ (.slice ra rl rc)).heap.size) := Nat.le_trans S10.out t2.size
  clear hK K z0 s0 hHeld2 t2
  try simp only [Act.put, sA, List.set]
  generalize v6.setCell ⟨w.heap.size + 1 + 1 + 1 + 1, 0, none⟩ (.slice ra rl rc) = v7 at ZT ZP ON MA BW S11 hHeld3 ⊢
  refine PhaseIn.done (by kernel_rfl) ?_ _
  have z0 := ZT.out.cell 0 _ rfl
  have z1 := ZP.out.cell 0 _ rfl
  clear hHeld3
  have TF := hide (told3_cast ⟨⟨q', cap', _, _, _, y6.heap.size, u7.heap.size, d8.heap.size, u9.heap.size, rfl, ON.out, MA.out, by have := UL.out; omega, by have := SD.out; have := S9.out; have := S11.out; omega, by have := SD.out; have := U7.out; omega, S11.out, Or.inl (by have := SD.out; omega)⟩, BW.out⟩ HD.out.1 HD.out.2 : Told3 w v7 (.returned (.tuple #[.agg #[(.slice q' TT.length cap')], .agg #[(.slice ra rl rc)]])) (dosT ts op x y) (dosP ts op x y))
  go_wp2
  exact bodyPost_ret (v := .tuple #[.agg #[(.slice q' TT.length cap')], .agg #[(.slice ra rl rc)]]) (by simp [results, Tryz.results9, go_sem, z0, z1]) rfl TF.out
end Go.Proofs.YtggilenddbobnaaGreat.Tab
