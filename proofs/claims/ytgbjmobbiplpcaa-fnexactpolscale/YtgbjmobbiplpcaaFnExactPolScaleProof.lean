/-
  At every sum and int the program's PolScale answers as the specification's PolScale does, every field; it writes into no argument, and its answer owns its memory (the law FnExactPolScale returns true); no condition.
  The frame (lifted, over, proved) is written by my own program after the guide's worked texts; the walk and the lemmas ahead of it are mine.
-/
import Derived.Test.YtgbjmobbiplpcaaRows
import Derived.Test.YtgbjmobbiplpcaaShape
import Derived.Test.YtgbjmobbiplpcaaPolP
import Derived.Test.YtgbjmobbiplpcaaPolSc
import Derived.WalkKit
import Derived.ProofKit
import Derived.OpenShut
import Derived.ShutString
import Derived.ChangeOld
import Derived.Below
import Derived.SizedLaws
namespace Go.Proofs.Ytgbjmobbiplpcaa.fnExactPolScale
open Go.ChangeShapes Go.WideShapes Go.ChangeAt Go.RowKit
open Go.ChangeMaps (open_string shut_string)
set_option linter.unusedVariables false

theorem own : ownKnob Try.prog.godebug = none := by kernel_rfl
theorem laidOut : laidOutB Try.prog = true := by kernel_rfl

open IntS Pol
theorem tot_le {n : Nat} : ∀ {L : List Mono}, (∀ x ∈ L, x.2.length ≤ n) → tot L ≤ L.length * n
  | [], _ => by simp [tot]
  | x :: r, h => by
    have h1 := h x (List.mem_cons_self ..)
    have h2 := tot_le (L := r) (fun y hy => h y (List.mem_cons_of_mem _ hy))
    simp only [tot, List.length_cons, Nat.succ_mul]
    omega
theorem small_scale (ps : List Mono) (m : Int) : (scaleP ps m).length + tot (scaleP ps m) ≤ 1000000000 := by
  by_cases h : okP ps = true ∧ Wrd.wok m = true
  · rw [scale_yes h.1 h.2]
    have g := ok_good h.1
    have h1 := scale_len (n := m) ps
    have h2 := tot_le (n := 4) (L := scaleL m ps) (fun x hx => by
      obtain ⟨_, _, y, hy, e⟩ := scale_all x hx
      rw [e]
      exact g.four y hy)
    have := g.many
    omega
  · rw [scale_no h]
    simp [tot]

set_option maxRecDepth 8000 in
set_option maxHeartbeats 8000000 in
theorem walk (a0 : Array Value) (a1 : Int) (w1 : (Lit.int .i64 a1).wf = true) (w : World) (w0 : Shape.Holds Try.prog w 9 24 a0.toList)  :
    Calls Try.prog 3 #[.agg a0, .int .i64 a1] w fun e w' => e = .returned (.bool true) ∧ Below w.heap.size w w' := by
  obtain ⟨v, ps, B, rfl, hP⟩ := Pol.of_holds w0
  have RM := hide hP
  obtain ⟨qa, ca, _, rfl, _⟩ := hP
  clear w0 w1
  obtain ⟨R, eR⟩ : ∃ R, scaleP ps a1 = R := ⟨_, rfl⟩
  have ER := hide eR
  have SR : Hid (R.length + tot R ≤ 1000000000) := by rw [← eR]; exact small_scale ps a1
  clear eR
  obtain ⟨tt, et⟩ : ∃ tt, 1 + offs R R.length = tt := ⟨_, rfl⟩
  have tp : 0 ≤ tt := by rw [← et]; unfold offs; omega
  have ET := hide et
  clear et
  obtain ⟨tx, ex⟩ : ∃ tx, 1 + offs ps ps.length = tx := ⟨_, rfl⟩
  have tq : 0 ≤ tx := by rw [← ex]; unfold offs; omega
  have EX := hide ex
  clear ex
  have pt : ¬ tt < 0 := by omega
  have px : ¬ tx < 0 := by omega
  have pn : (tt != tt) = false := by simp
  have TA := hide (Rec.new w [.slice qa ps.length ca] 24)
  have BW := hide ((Below.refl w.heap.size w).alloc (Nat.le_refl _) (.cells #[.slice qa ps.length ca] 24))
  have AL : Hid (w.heap.size < (w.alloc (.cells #[.slice qa ps.length ca] 24)).heap.size) := show _ < _ by simp
  go_enter Try.func3, Try.ntmps3
  go_wp2_with fail
  refine (szTrmPoly ps B _ 1048576 _ (RM.out.below BW.out) (by omega) (by omega)).mono ?_
  rintro e u0 ⟨n, rfl, n0, hs, hb⟩
  have L0 : Hid (w.heap.size < u0.heap.size) := show _ < _ by have := AL.out; have := hb.size; omega
  replace TA := hide (TA.out.below hb)
  replace BW := hide (BW.out.trans (hb.mono BW.out.size))
  clear hb
  by_cases hn : n < 0
  · clear TA
    go_wp2
    go_ret
    exact ⟨rfl, BW.out⟩
  have HS : Hid (SmallP ps) := show SmallP ps by have := hs (by omega); unfold SmallP; omega
  have SP : Hid (ps.length + tot ps ≤ 1000000000) := show _ ≤ _ by have := hs (by omega); omega
  clear hs
  have ta0 := TA.out.cell 0 _ rfl
  go_wp2_with fail
  refine (toTrmPoly ps B _ _ (RM.out.below BW.out) HS.out).mono ?_
  rintro e u1 ⟨g1, rfl, M1, hb⟩
  have L1 : Hid (w.heap.size < u1.heap.size) := show _ < _ by have := L0.out; have := hb.size; omega
  obtain ⟨B1, R1⟩ := M1.read
  replace R1 := hide R1
  clear ta0 M1
  replace TA := hide (TA.out.below hb)
  replace BW := hide (BW.out.trans (hb.mono BW.out.size))
  clear hb
  go_wp2_with fail
  refine (specScale ps a1 B1 _ _ R1.out).mono ?_
  rintro e u2 ⟨pa, pl, pc, rfl, MW, hb⟩
  rw [ER.out] at MW
  replace MW := hide MW
  have L2 : Hid (u1.heap.size ≤ u2.heap.size) := hb.size
  clear R1
  replace TA := hide (TA.out.below hb)
  replace BW := hide (BW.out.trans (hb.mono BW.out.size))
  clear hb
  have bX : Below u2.heap.size u2 (u2.alloc (.cells #[.slice pa pl pc] 28)) := (Below.refl _ _).alloc (Nat.le_refl _) _
  have Y := hide (Rec.new u2 [.slice pa pl pc] 28)
  have szY : Hid ((u2.alloc (.cells #[.slice pa pl pc] 28)).heap.size = u2.heap.size + 1) := show _ = _ by simp
  replace BW := hide (BW.out.trans (bX.mono BW.out.size))
  replace TA := hide (TA.out.below bX)
  replace MW := hide (MW.out.below bX)
  clear bX
  have ta0 := TA.out.cell 0 _ rfl
  go_wp2_with fail
  refine (toTrmPoly ps B _ _ (RM.out.below BW.out) HS.out).mono ?_
  rintro e u3 ⟨gx, rfl, MX, hb⟩
  rw [szY.out] at MX
  replace MX := hide MX
  have L3 : Hid (u2.heap.size + 1 ≤ u3.heap.size) := show _ ≤ _ by have := hb.size; rw [szY.out] at this; exact this
  clear ta0
  replace TA := hide (TA.out.below hb)
  replace MW := hide (MW.out.below hb)
  replace Y := hide (Y.out.below hb)
  replace BW := hide (BW.out.trans (hb.mono BW.out.size))
  clear hb
  have bX : Below u3.heap.size u3 (u3.alloc (.cells #[.slice (some ⟨gx, 0, none⟩) ps.length ps.length] 28)) := (Below.refl _ _).alloc (Nat.le_refl _) _
  have X := hide (Rec.new u3 [.slice (some ⟨gx, 0, none⟩) ps.length ps.length] 28)
  have szX : Hid ((u3.alloc (.cells #[.slice (some ⟨gx, 0, none⟩) ps.length ps.length] 28)).heap.size = u3.heap.size + 1) := show _ = _ by simp
  replace BW := hide (BW.out.trans (bX.mono BW.out.size))
  replace TA := hide (TA.out.below bX)
  replace MW := hide (MW.out.below bX)
  replace Y := hide (Y.out.below bX)
  replace MX := hide (MX.out.below bX)
  clear bX
  obtain ⟨BX, RBX⟩ := MX.out.read
  replace RBX := hide RBX
  have x0 := X.out.cell 0 _ rfl
  go_wp2_with fail
  refine (implScale ps a1 BX _ _ RBX.out).mono ?_
  rintro e u4 ⟨ga, gl, gc, rfl, MG, hb⟩
  rw [ER.out, szX.out] at MG
  replace MG := hide MG
  have L4 : Hid (u3.heap.size + 1 ≤ u4.heap.size) := show _ ≤ _ by have := hb.size; rw [szX.out] at this; exact this
  clear x0 RBX
  replace TA := hide (TA.out.below hb)
  replace MW := hide (MW.out.below hb)
  replace Y := hide (Y.out.below hb)
  replace MX := hide (MX.out.below hb)
  replace X := hide (X.out.below hb)
  replace BW := hide (BW.out.trans (hb.mono BW.out.size))
  clear hb
  have bX : Below u4.heap.size u4 (u4.alloc (.cells #[.slice ga gl gc] 28)) := (Below.refl _ _).alloc (Nat.le_refl _) _
  have G := hide (Rec.new u4 [.slice ga gl gc] 28)
  have szG : Hid ((u4.alloc (.cells #[.slice ga gl gc] 28)).heap.size = u4.heap.size + 1) := show _ = _ by simp
  replace BW := hide (BW.out.trans (bX.mono BW.out.size))
  replace TA := hide (TA.out.below bX)
  replace MW := hide (MW.out.below bX)
  replace Y := hide (Y.out.below bX)
  replace MX := hide (MX.out.below bX)
  replace X := hide (X.out.below bX)
  replace MG := hide (MG.out.below bX)
  clear bX
  obtain ⟨BG, RBG⟩ := MG.out.read
  replace RBG := hide RBG
  obtain ⟨BY, RBY⟩ := MW.out.read
  replace RBY := hide RBY
  have x0 := G.out.cell 0 _ rfl
  have y0 := Y.out.cell 0 _ rfl
  go_wp2_with fail
  refine (eqTrmPoly R BG BY _ _ _ RBG.out RBY.out).mono ?_
  rintro e u5 ⟨rfl, hb⟩
  clear x0 y0 RBG RBY
  replace TA := hide (TA.out.below hb)
  replace MW := hide (MW.out.below hb)
  replace Y := hide (Y.out.below hb)
  replace MX := hide (MX.out.below hb)
  replace X := hide (X.out.below hb)
  replace MG := hide (MG.out.below hb)
  replace G := hide (G.out.below hb)
  replace BW := hide (BW.out.trans (hb.mono BW.out.size))
  clear hb
  have x0 := X.out.cell 0 _ rfl
  have ta0 := TA.out.cell 0 _ rfl
  go_wp2_with fail
  refine (wpIn_wide (n := 0)).1 ?_
  refine PhaseIn.region (S := fun w' => w'.cell? ⟨u3.heap.size, 0, none⟩ = some (.slice (some ⟨gx, 0, none⟩) ps.length ps.length) ∧ w'.cell? ⟨w.heap.size, 0, none⟩ = some (.slice qa ps.length ca)) 5 (by kernel_rfl) ?_
  have hHeld : u5.drew.cell? ⟨u3.heap.size, 0, none⟩ = some (.slice (some ⟨gx, 0, none⟩) ps.length ps.length) ∧ u5.drew.cell? ⟨w.heap.size, 0, none⟩ = some (.slice qa ps.length ca) := ⟨x0, ta0⟩
  have hb : Below u5.heap.size u5 u5.drew := (Below.refl _ _).drew
  clear x0 ta0
  replace TA := hide (TA.out.below hb)
  replace MW := hide (MW.out.below hb)
  replace Y := hide (Y.out.below hb)
  replace MX := hide (MX.out.below hb)
  replace X := hide (X.out.below hb)
  replace MG := hide (MG.out.below hb)
  replace G := hide (G.out.below hb)
  replace BW := hide (BW.out.trans (hb.mono BW.out.size))
  clear hb
  generalize u5.drew = d5 at hHeld BW TA MW Y MX X MG G ⊢
  refine PhaseIn.takeD (i := 0) (v := ?_) [0, 3, 4] 31 rfl (by rfl) (by kernel_rfl) (by kernel_rfl) (by kernel_rfl) (by kernel_rfl) (by kernel_rfl) (fun _ _ _ h => h) (Or.inl ⟨by kernel_rfl, ?_⟩) hHeld ?_
  rotate_left
  · intro w' hSw
    (try dsimp only at hSw)
    go_simp
    first | done | with_reducible rfl
  try simp only [Act.put, List.setIfInBounds_toArray, List.set]
  refine PhaseIn.takeD (i := 1) (v := ?_) [1, 2, 3, 4] 32 rfl (by rfl) (by kernel_rfl) (by kernel_rfl) (by kernel_rfl) (by kernel_rfl) (by kernel_rfl) (fun _ _ _ h => h) (Or.inl ⟨by kernel_rfl, ?_⟩) hHeld ?_
  rotate_left
  · intro w' hSw
    (try dsimp only at hSw)
    go_simp
    first | done | with_reducible rfl
  try simp only [Act.put, List.setIfInBounds_toArray, List.set]
  refine PhaseIn.one (i := 2) (by kernel_rfl) rfl (by kernel_rfl) (fun K hK => ?_)
  unfold Oper.wpIn
  refine ⟨fun _ _ => trivial, ?_⟩
  go_simp
  refine ⟨rfl, (callsIn_wide.2 (toTrmPoly ps B _ _ (RM.out.below BW.out) HS.out)).mono ?_⟩
  rintro e u6 ⟨g6, rfl, M6, hb⟩
  have hHeld2 := And.intro (cell_below hb hHeld.1) (cell_below hb hHeld.2)
  refine hK _ _ (fun _ => hHeld2) ?_
  obtain ⟨B6, R6⟩ := M6.read
  replace R6 := hide R6
  clear hK K M6 hHeld
  replace TA := hide (TA.out.below hb)
  replace MW := hide (MW.out.below hb)
  replace Y := hide (Y.out.below hb)
  replace MX := hide (MX.out.below hb)
  replace X := hide (X.out.below hb)
  replace MG := hide (MG.out.below hb)
  replace G := hide (G.out.below hb)
  replace BW := hide (BW.out.trans (hb.mono BW.out.size))
  clear hb
  obtain ⟨BX, RBX⟩ := MX.out.read
  replace RBX := hide RBX
  try simp only [Act.put, List.setIfInBounds_toArray, List.set]
  refine PhaseIn.one (i := 3) (by kernel_rfl) rfl (by kernel_rfl) (fun K hK => ?_)
  unfold Oper.wpIn
  refine ⟨fun _ _ => trivial, ?_⟩
  go_simp
  refine ⟨rfl, (callsIn_wide.2 (eqTrmPoly ps BX B6 _ _ _ RBX.out R6.out)).mono ?_⟩
  rintro e u7 ⟨rfl, hb⟩
  have hHeld := And.intro (cell_below hb hHeld2.1) (cell_below hb hHeld2.2)
  refine hK _ _ (fun _ => hHeld) ?_
  clear hK K R6 RBX hHeld2
  replace TA := hide (TA.out.below hb)
  replace MW := hide (MW.out.below hb)
  replace Y := hide (Y.out.below hb)
  replace MX := hide (MX.out.below hb)
  replace X := hide (X.out.below hb)
  replace MG := hide (MG.out.below hb)
  replace G := hide (G.out.below hb)
  replace BW := hide (BW.out.trans (hb.mono BW.out.size))
  clear hb
  try simp only [Act.put, List.setIfInBounds_toArray, List.set]
  refine PhaseIn.takeD (i := 4) (v := ?_) [4] 35 rfl (by rfl) (by kernel_rfl) (by kernel_rfl) (by kernel_rfl) (by kernel_rfl) (by kernel_rfl) (fun _ _ _ h => h) (Or.inl ⟨by kernel_rfl, ?_⟩) hHeld ?_
  rotate_left
  · intro w' hSw
    (try dsimp only at hSw)
    go_simp
    first | done | with_reducible rfl
  try simp only [Act.put, List.setIfInBounds_toArray, List.set]
  refine PhaseIn.done (by kernel_rfl) ?_ _
  clear hHeld
  have x0 := X.out.cell 0 _ rfl
  go_wp2_with fail
  refine (markTrmPoly ps 1 _ _ _ _ MX.out SP.out (by omega) (by omega)).mono ?_
  rintro e u8 ⟨rfl, MM, hk⟩
  rw [EX.out]
  have l1 := L1.out
  have l2 := L2.out
  have l3 := L3.out
  have l4 := L4.out
  clear x0 MX MM
  replace MW := hide (MW.out.keep hk (fun b h1 h2 h3 => by omega))
  replace MG := hide (MG.out.keep hk (fun b h1 h2 h3 => by omega))
  replace Y := hide (Y.out.keep hk (by omega))
  replace X := hide (X.out.keep hk (by omega))
  replace G := hide (G.out.keep hk (by omega))
  replace TA := hide (TA.out.keep hk (by omega))
  replace BW := hide (BW.out.trans (hk.below BW.out.size (fun k h1 h2 => by omega)))
  clear hk X l1 l2 l3 l4
  obtain ⟨BG, RBG⟩ := MG.out.read
  replace RBG := hide RBG
  obtain ⟨BY, RBY⟩ := MW.out.read
  replace RBY := hide RBY
  have x0 := G.out.cell 0 _ rfl
  have y0 := Y.out.cell 0 _ rfl
  go_wp2_with fail
  refine (eqTrmPoly R BG BY _ _ _ RBG.out RBY.out).mono ?_
  rintro e u9 ⟨rfl, hb⟩
  clear x0 y0 RBG RBY
  replace TA := hide (TA.out.below hb)
  replace MW := hide (MW.out.below hb)
  replace Y := hide (Y.out.below hb)
  replace MG := hide (MG.out.below hb)
  replace G := hide (G.out.below hb)
  replace BW := hide (BW.out.trans (hb.mono BW.out.size))
  clear hb
  have x0 := G.out.cell 0 _ rfl
  go_wp2_with fail
  refine (markTrmPoly R 1 _ _ _ _ MG.out SR.out (by omega) (by omega)).mono ?_
  rintro e u10 ⟨rfl, MM, hk⟩
  rw [ET.out]
  have l1 := L1.out
  have l2 := L2.out
  have l3 := L3.out
  have l4 := L4.out
  clear x0 MG
  replace MW := hide (MW.out.keep hk (fun b h1 h2 h3 => by omega))
  replace Y := hide (Y.out.keep hk (by omega))
  replace G := hide (G.out.keep hk (by omega))
  replace TA := hide (TA.out.keep hk (by omega))
  replace BW := hide (BW.out.trans (hk.below BW.out.size (fun k h1 h2 => by omega)))
  replace MM := hide MM
  clear hk l1 l2 l3 l4
  obtain ⟨BM, RBM⟩ := MM.out.read
  replace RBM := hide RBM
  have x0 := G.out.cell 0 _ rfl
  go_wp2_with fail
  refine (heldTrmPoly R 1 BM _ _ RBM.out SR.out (by omega) (by omega)).mono ?_
  rintro e u11 ⟨rfl, hb⟩
  rw [ET.out]
  clear x0 RBM BM
  replace TA := hide (TA.out.below hb)
  replace MW := hide (MW.out.below hb)
  replace Y := hide (Y.out.below hb)
  replace MM := hide (MM.out.below hb)
  replace G := hide (G.out.below hb)
  replace BW := hide (BW.out.trans (hb.mono BW.out.size))
  clear hb
  have ta0 := TA.out.cell 0 _ rfl
  go_wp2_with fail
  refine (toTrmPoly ps B _ _ (RM.out.below BW.out) HS.out).mono ?_
  rintro e u12 ⟨g12, rfl, M12, hb⟩
  obtain ⟨B12, R12⟩ := M12.read
  replace R12 := hide R12
  clear ta0 M12
  replace TA := hide (TA.out.below hb)
  replace MW := hide (MW.out.below hb)
  replace Y := hide (Y.out.below hb)
  replace MM := hide (MM.out.below hb)
  replace G := hide (G.out.below hb)
  replace BW := hide (BW.out.trans (hb.mono BW.out.size))
  clear hb
  go_wp2_with fail
  refine (implScale ps a1 B12 _ _ R12.out).mono ?_
  rintro e u13 ⟨ha, hl, hc, rfl, MH, hb⟩
  rw [ER.out] at MH
  replace MH := hide MH
  clear R12
  replace TA := hide (TA.out.below hb)
  replace MW := hide (MW.out.below hb)
  replace Y := hide (Y.out.below hb)
  replace MM := hide (MM.out.below hb)
  replace G := hide (G.out.below hb)
  replace BW := hide (BW.out.trans (hb.mono BW.out.size))
  clear hb
  have bX : Below u13.heap.size u13 (u13.alloc (.cells #[.slice ha hl hc] 28)) := (Below.refl _ _).alloc (Nat.le_refl _) _
  have H := hide (Rec.new u13 [.slice ha hl hc] 28)
  have szH : Hid ((u13.alloc (.cells #[.slice ha hl hc] 28)).heap.size = u13.heap.size + 1) := show _ = _ by simp
  replace BW := hide (BW.out.trans (bX.mono BW.out.size))
  replace TA := hide (TA.out.below bX)
  replace MW := hide (MW.out.below bX)
  replace Y := hide (Y.out.below bX)
  replace MM := hide (MM.out.below bX)
  replace G := hide (G.out.below bX)
  replace MH := hide (MH.out.below bX)
  clear bX
  obtain ⟨BG, RBG⟩ := MH.out.read
  replace RBG := hide RBG
  obtain ⟨BY, RBY⟩ := MW.out.read
  replace RBY := hide RBY
  have x0 := H.out.cell 0 _ rfl
  have y0 := Y.out.cell 0 _ rfl
  go_wp2_with fail
  refine (eqTrmPoly R BG BY _ _ _ RBG.out RBY.out).mono ?_
  rintro e u14 ⟨rfl, hb⟩
  clear x0 y0 RBG RBY
  replace MM := hide (MM.out.below hb)
  replace G := hide (G.out.below hb)
  replace BW := hide (BW.out.trans (hb.mono BW.out.size))
  clear hb
  clear MH H MW Y TA
  obtain ⟨BM, RBM⟩ := MM.out.read
  replace RBM := hide RBM
  have x0 := G.out.cell 0 _ rfl
  go_wp2_with fail
  refine (heldTrmPoly R 1 BM _ _ RBM.out SR.out (by omega) (by omega)).mono ?_
  rintro e u15 ⟨rfl, hb⟩
  rw [ET.out]
  clear x0 RBM BM
  replace BW := hide (BW.out.trans (hb.mono BW.out.size))
  clear hb
  clear MM G
  go_wp2
  go_ret
  exact ⟨rfl, BW.out⟩

set_option maxRecDepth 100000 in
theorem lifted (os : Os) (started : os.Started) (H : Type) (enc : TypeId × Value → H) :
    ReturnsInHanded {} Try.checked os 3 .any (Rows.fnExactPolScaleSpec.pre6 enc Try.prog Try.f3 Rows.fnExactPolScaleRow.domain false) (Rows.fnExactPolScaleSpec.post enc Try.prog Try.f3 false true false false) := by
  refine returnsInHanded_of_change (C := Try.checked) own started (by kernel_rfl) Try.func3
    (ChangeSpec.witness6 (enc := enc) (C := Try.checked) false ⟨#[], #[.agg #[.slice none 0 0], .int .i64 0], []⟩ 8 (by kernel_rfl) (by kernel_rfl) (by kernel_rfl) (by kernel_rfl)) ?_
  intro W base args ds gs before hval0 hW hcnd hsz0
  have hval : ∀ (j : Nat) t v, Try.f3.params[j]? = some t → args[j]? = some v → Value.okWide Try.prog W .any base t v := hval0
  have hW' := hW
  obtain ⟨p, q, hA0, hV, rfl, hfz, hnd⟩ := hW
  have hA : DataW.TrodAll enc Try.prog W 0 (fun _ => true) true Try.f3.params.toList args.toList ds p := hA0
  rw [Try.params3] at hA hval
  obtain ⟨v0, vs0, d0, ds0, p0, q0, hargs, rfl, rfl, h0, r0⟩ := trodAll_cons hA
  obtain ⟨v1, vs1, d1, ds1, p1, q1, rfl, rfl, rfl, h1, r1⟩ := trodAll_cons r0
  obtain ⟨rfl, rfl, rfl⟩ := trodAll_nil r1
  obtain rfl : args = #[v0, v1] := by cases args; simp_all
  obtain ⟨rfl, rfl⟩ := trodVars_none hV
  have k0 := h0
  have lt0 : ∀ x ∈ p0, x.block < W.heap.size := by obtain ⟨m, hm⟩ := k0; exact DataW.trod_lt m _ _ _ hm
  obtain ⟨a0, rfl, _⟩ := okWide_struct Try.underlying24 (hval 0 24 v0 rfl rfl)
  have w0 : Shape.Holds Try.prog W 9 24 a0.toList := Shape.opened 9 h0
  have k1 := h1
  have lt1 : ∀ x ∈ p1, x.block < W.heap.size := by obtain ⟨m, hm⟩ := k1; exact DataW.trod_lt m _ _ _ hm
  obtain ⟨a1, rfl, rfl, rfl, w1⟩ := open_int Try.underlying3 (hval 1 3 v1 rfl rfl) h1
  clear hA0 hval0
  refine (walk a0 a1 w1 W w0).mono fun e W' ⟨he, hnx⟩ => ?_
  subst he
  exact ⟨_, rfl, _, _, _, [], _, [], hW', trodAll_cons_mk (shut_bool Try.underlying4 _) trodAll_mk0, (trodAll_cons_mk (Below.trod laidOut (by kernel_rfl) (of_decide_eq_true (by kernel_rfl)) k0 hnx lt0) (trodAll_cons_mk (Below.trod laidOut (by kernel_rfl) (of_decide_eq_true (by kernel_rfl)) k1 hnx lt1) trodAll_mk0)), rfl, hnx.frame _, fun h => by cases h⟩

theorem over : Rows.fnExactPolScaleRow.holds Try.pinned (OpenSpec.ofChange Rows.fnExactPolScaleSpec) :=
  OpenClaim.holds_of_wide 3 Try.f3 rfl rfl rfl rfl rfl rfl rfl ⟨rfl, rfl, rfl, rfl, rfl⟩ rfl rfl rfl rfl rfl (by kernel_rfl) Try.func3 (by kernel_rfl)
    (of_decide_eq_true (by kernel_rfl)) (by unfold Func.isWrapper; first | (rw [if_pos (by decide +kernel)]; kernel_rfl) | (rw [if_neg (by decide +kernel)]; exact ⟨rfl, rfl⟩))
    (fun os started H enc _ => lifted os started H enc)

theorem proved : Rows.FnExactPolScaleSaid := over
#print axioms proved
end Go.Proofs.Ytgbjmobbiplpcaa.fnExactPolScale
