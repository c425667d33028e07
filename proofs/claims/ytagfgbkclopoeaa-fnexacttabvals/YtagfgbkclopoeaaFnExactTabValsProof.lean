/-
  At every table of atoms and lists of ints the program's TabVals answers as the specification's TabVals does; it writes into no argument, and its answer owns its memory (the law FnExactTabVals returns true); no condition.
  The frame (lifted, over, proved) is written by my own program after the guide's worked texts; the walk and the lemmas ahead of it are mine.
-/
import Derived.Test.YtagfgbkclopoeaaRows
import Derived.Test.YtagfgbkclopoeaaShape
import Derived.Test.YtagfgbkclopoeaaTabZs
import Derived.Test.YtagfgbkclopoeaaTabPh
import Derived.Test.YtagfgbkclopoeaaPhaseIn
import Derived.WalkKit
import Derived.ProofKit
import Derived.OpenShut
import Derived.ShutString
import Derived.ChangeOld
import Derived.Below
import Derived.SizedLaws
namespace Go.Proofs.Ytagfgbkclopoeaa.fnExactTabVals
open Go.ChangeShapes Go.WideShapes Go.ChangeAt Go.RowKit
open Go.ChangeMaps (open_string shut_string)
set_option linter.unusedVariables false

theorem own : ownKnob Try.prog.godebug = none := by kernel_rfl
theorem laidOut : laidOutB Try.prog = true := by kernel_rfl

open IntS Pol Tab
set_option linter.unusedSimpArgs false
theorem len_of {w : World} {B : Nat} {a : Option Addr} {n cap : Nat} {xs : List Int} (h : Row w B (.slice a n cap) xs) : n = xs.length := by
  obtain ⟨x, j, o, e, _⟩ := h
  cases e
  rfl
theorem own_w {w : World} {base : Nat} {v : Value} {xs : List Int} (h : IntS.Own w base v xs) : ∃ g, WRow w g v xs ∧ (xs = [] ∨ (base ≤ g ∧ g < w.heap.size)) := by
  by_cases e : v = .slice none 0 0
  · subst e
    obtain ⟨hl, h0 | ⟨g, cap, cur, hv, _⟩⟩ := h
    · have : xs = [] := List.length_eq_zero_iff.1 h0.2
      subst this
      exact ⟨0, nil_row w 0, Or.inl rfl⟩
    · cases hv
  · obtain ⟨g, cap, e1, h1, h2, W⟩ := h.form e
    exact ⟨g, W, Or.inr ⟨h1, h2⟩⟩
theorem re_block {w : World} {g : Nat} {v : Value} {xs : List Int} (h : WRow w g v xs) : ∃ g', WRow w g' v xs ∧ (xs ≠ [] → g' = g) ∧ (xs = [] → w.heap.size ≤ g') := by
  by_cases e : xs = []
  · obtain ⟨a, cap, off, h1, h2, h3, hz, _⟩ := h
    exact ⟨w.heap.size, ⟨a, cap, off, h1, h2, h3, hz, Or.inl e⟩, fun h => absurd e h, fun _ => Nat.le_refl _⟩
  · exact ⟨g, h, fun _ => rfl, fun h => absurd h e⟩
theorem vals_small {ts : List At} {rs ls is R : List Int} (e : valsP ts rs ls is = R) (h : SmallT ts) : R.length ≤ 1048576 := by
  unfold SmallT at h
  rw [← e]
  unfold valsP
  split
  · rw [valsGo_len]
    simp
    omega
  · simp

set_option maxRecDepth 8000 in
set_option maxHeartbeats 16000000 in
theorem walk (a0 : Array Value) (a1 : Option Addr) (len1 cap1 : Nat) (a2 : Option Addr) (len2 cap2 : Nat) (a3 : Option Addr) (len3 cap3 : Nat) (w : World) (w0 : Shape.Holds Try.prog w 9 24 a0.toList) (w1 : Shape.Holds Try.prog w 9 49 [.slice a1 len1 cap1]) (w2 : Shape.Holds Try.prog w 9 49 [.slice a2 len2 cap2]) (w3 : Shape.Holds Try.prog w 9 49 [.slice a3 len3 cap3])  :
    Calls Try.prog 4 #[.agg a0, .slice a1 len1 cap1, .slice a2 len2 cap2, .slice a3 len3 cap3] w fun e w' => e = .returned (.bool true) ∧ Below w.heap.size w w' := by
  obtain ⟨v1, rs, BR, hv1, AR⟩ := row_holds (n := 7) w1
  simp only [List.cons.injEq, and_true] at hv1
  subst hv1
  obtain rfl := len_of AR
  replace AR := hide AR
  clear w1
  obtain ⟨v2, ls, BL, hv2, AL⟩ := row_holds (n := 7) w2
  simp only [List.cons.injEq, and_true] at hv2
  subst hv2
  obtain rfl := len_of AL
  replace AL := hide AL
  clear w2
  obtain ⟨v3, is, BI, hv3, AI⟩ := row_holds (n := 7) w3
  simp only [List.cons.injEq, and_true] at hv3
  subst hv3
  obtain rfl := len_of AI
  replace AI := hide AI
  clear w3
  obtain ⟨v, ts, B, rfl, hP⟩ := Tab.of_holds w0
  have RM := hide hP
  obtain ⟨qa, ca, _, rfl, _⟩ := hP
  clear w0
  have BW := hide ((Below.refl w.heap.size w).alloc (Nat.le_refl _) (.cells #[.slice qa ts.length ca] 24))
  by_cases l1 : rs.length ≤ 1048576
  case neg =>
    have t1 : (1048576 : Int) < rs.length := by omega
    clear l1
    go_enter Try.func4, Try.ntmps4
    go_wp2
    go_ret
    exact ⟨rfl, BW.out⟩
  have t1 : ¬ (1048576 : Int) < rs.length := by omega
  have L1 := hide l1
  clear l1
  by_cases l2 : ls.length ≤ 1048576
  case neg =>
    have t2 : (1048576 : Int) < ls.length := by omega
    clear l2
    go_enter Try.func4, Try.ntmps4
    go_wp2
    go_ret
    exact ⟨rfl, BW.out⟩
  have t2 : ¬ (1048576 : Int) < ls.length := by omega
  have L2 := hide l2
  clear l2
  by_cases l3 : is.length ≤ 1048576
  case neg =>
    have t3 : (1048576 : Int) < is.length := by omega
    clear l3
    go_enter Try.func4, Try.ntmps4
    go_wp2
    go_ret
    exact ⟨rfl, BW.out⟩
  have t3 : ¬ (1048576 : Int) < is.length := by omega
  have L3 := hide l3
  clear l3
  obtain ⟨R, eR⟩ : ∃ R, valsP ts rs ls is = R := ⟨_, rfl⟩
  have ER := hide eR
  clear eR
  have TA := hide (Rec.new w [.slice qa ts.length ca] 24)
  go_enter Try.func4, Try.ntmps4
  go_wp2_with fail
  refine (szTabTab ts B _ 1048576 _ (RM.out.below BW.out) (by omega) (by omega)).mono ?_
  rintro e u0 ⟨n, rfl, n0, hs, hb⟩
  replace TA := hide (TA.out.below hb)
  replace BW := hide (BW.out.trans (hb.mono BW.out.size))
  clear hb
  by_cases hn : n < 0
  · clear TA
    go_wp2
    go_ret
    exact ⟨rfl, BW.out⟩
  have HS : Hid (SmallT ts) := show SmallT ts by have := hs (by omega); unfold SmallT; omega
  clear hs
  have ta0 := TA.out.cell 0 _ rfl
  go_wp2_with fail
  refine (toTabTab ts B _ _ (RM.out.below BW.out) HS.out).mono ?_
  rintro e u1 ⟨g1, rfl, M1, hb⟩
  obtain ⟨B1, R1⟩ := M1.read
  replace R1 := hide R1
  clear ta0 M1
  replace TA := hide (TA.out.below hb)
  replace BW := hide (BW.out.trans (hb.mono BW.out.size))
  clear hb
  go_wp2_with fail
  refine (toIntS rs BR _ _ (AR.out.below BW.out) L1.out).mono ?_
  rintro e ua1 ⟨gs1, rfl, S1, se1, sl1, hb⟩
  replace S1 := hide S1.row
  clear se1 sl1
  replace TA := hide (TA.out.below hb)
  replace R1 := hide (R1.out.below hb)
  replace BW := hide (BW.out.trans (hb.mono BW.out.size))
  clear hb
  go_wp2_with fail
  refine (toIntS ls BL _ _ (AL.out.below BW.out) L2.out).mono ?_
  rintro e ua2 ⟨gs2, rfl, S2, se2, sl2, hb⟩
  replace S2 := hide S2.row
  clear se2 sl2
  replace TA := hide (TA.out.below hb)
  replace R1 := hide (R1.out.below hb)
  replace S1 := hide (S1.out.below hb)
  replace BW := hide (BW.out.trans (hb.mono BW.out.size))
  clear hb
  go_wp2_with fail
  refine (toIntS is BI _ _ (AI.out.below BW.out) L3.out).mono ?_
  rintro e ua3 ⟨gs3, rfl, S3, se3, sl3, hb⟩
  replace S3 := hide S3.row
  clear se3 sl3
  replace TA := hide (TA.out.below hb)
  replace R1 := hide (R1.out.below hb)
  replace S1 := hide (S1.out.below hb)
  replace S2 := hide (S2.out.below hb)
  replace BW := hide (BW.out.trans (hb.mono BW.out.size))
  clear hb
  go_wp2_with fail
  refine (specVals ts rs ls is B1 _ _ _ _ _ _ _ _ R1.out S1.out S2.out S3.out).mono ?_
  rintro e u2 ⟨vW, rfl, OW, hb⟩
  rw [ER.out] at OW
  obtain ⟨gW, MW, IW⟩ := own_w OW
  replace MW := hide MW
  replace IW : Hid (R = [] ∨ gW < u2.heap.size) := IW.imp id (fun h => h.2)
  clear R1 S1 S2 S3 OW
  have lw : Hid (w.heap.size < u2.heap.size) := Nat.lt_of_lt_of_le TA.out.lt hb.size
  replace TA := hide (TA.out.below hb)
  replace BW := hide (BW.out.trans (hb.mono BW.out.size))
  clear hb
  have ta0 := TA.out.cell 0 _ rfl
  go_wp2_with fail
  refine (toTabTab ts B _ _ (RM.out.below BW.out) HS.out).mono ?_
  rintro e u3 ⟨gx, rfl, MX, hb⟩
  replace MX := hide MX
  have J3 : Hid (u2.heap.size ≤ u3.heap.size) := hb.size
  clear ta0
  replace TA := hide (TA.out.below hb)
  replace MW := hide (MW.out.below hb)
  replace BW := hide (BW.out.trans (hb.mono BW.out.size))
  clear hb
  have bX : Below u3.heap.size u3 (u3.alloc (.cells #[.slice (some ⟨gx, 0, none⟩) ts.length ts.length] 34)) := (Below.refl _ _).alloc (Nat.le_refl _) _
  have X := hide (Rec.new u3 [.slice (some ⟨gx, 0, none⟩) ts.length ts.length] 34)
  have J4 : Hid ((u3.alloc (.cells #[.slice (some ⟨gx, 0, none⟩) ts.length ts.length] 34)).heap.size = u3.heap.size + 1) := show _ = _ by simp
  replace BW := hide (BW.out.trans (bX.mono BW.out.size))
  replace TA := hide (TA.out.below bX)
  replace MW := hide (MW.out.below bX)
  replace MX := hide (MX.out.below bX)
  clear bX
  go_wp2_with fail
  refine (toIntS rs BR _ _ (AR.out.below BW.out) L1.out).mono ?_
  rintro e ub1 ⟨gx1, rfl, X1, xe1, xl1, hb⟩
  replace X1 := hide X1
  have I1 : Hid ((u3.alloc (.cells #[.slice (some ⟨gx, 0, none⟩) ts.length ts.length] 34)).heap.size ≤ gx1 ∧ gx1 < ub1.heap.size) := ⟨xe1, xl1⟩
  have I1s : Hid ((u3.alloc (.cells #[.slice (some ⟨gx, 0, none⟩) ts.length ts.length] 34)).heap.size ≤ ub1.heap.size) := hb.size
  clear xe1 xl1
  replace TA := hide (TA.out.below hb)
  replace MW := hide (MW.out.below hb)
  replace MX := hide (MX.out.below hb)
  replace X := hide (X.out.below hb)
  replace BW := hide (BW.out.trans (hb.mono BW.out.size))
  clear hb
  go_wp2_with fail
  refine (toIntS ls BL _ _ (AL.out.below BW.out) L2.out).mono ?_
  rintro e ub2 ⟨gx2, rfl, X2, xe2, xl2, hb⟩
  replace X2 := hide X2
  have I2 : Hid (ub1.heap.size ≤ gx2 ∧ gx2 < ub2.heap.size) := ⟨xe2, xl2⟩
  have I2s : Hid (ub1.heap.size ≤ ub2.heap.size) := hb.size
  clear xe2 xl2
  replace TA := hide (TA.out.below hb)
  replace MW := hide (MW.out.below hb)
  replace MX := hide (MX.out.below hb)
  replace X := hide (X.out.below hb)
  replace X1 := hide (X1.out.below hb)
  replace BW := hide (BW.out.trans (hb.mono BW.out.size))
  clear hb
  go_wp2_with fail
  refine (toIntS is BI _ _ (AI.out.below BW.out) L3.out).mono ?_
  rintro e ub3 ⟨gx3, rfl, X3, xe3, xl3, hb⟩
  replace X3 := hide X3
  have I3 : Hid (ub2.heap.size ≤ gx3 ∧ gx3 < ub3.heap.size) := ⟨xe3, xl3⟩
  have I3s : Hid (ub2.heap.size ≤ ub3.heap.size) := hb.size
  clear xe3 xl3
  replace TA := hide (TA.out.below hb)
  replace MW := hide (MW.out.below hb)
  replace MX := hide (MX.out.below hb)
  replace X := hide (X.out.below hb)
  replace X1 := hide (X1.out.below hb)
  replace X2 := hide (X2.out.below hb)
  replace BW := hide (BW.out.trans (hb.mono BW.out.size))
  clear hb
  obtain ⟨BX, RBX⟩ := MX.out.read
  replace RBX := hide RBX
  have x0 := X.out.cell 0 _ rfl
  go_wp2_with fail
  refine (implVals ts rs ls is BX _ _ _ _ _ _ _ _ RBX.out X1.out.row X2.out.row X3.out.row).mono ?_
  rintro e u5 ⟨vG, rfl, OG, hb⟩
  rw [ER.out] at OG
  obtain ⟨gG, MG, IG⟩ := own_w OG
  replace MG := hide MG
  replace IG : Hid (R = [] ∨ (ub3.heap.size ≤ gG ∧ gG < u5.heap.size)) := IG
  clear x0 RBX OG
  replace TA := hide (TA.out.below hb)
  replace MW := hide (MW.out.below hb)
  replace MX := hide (MX.out.below hb)
  replace X := hide (X.out.below hb)
  replace X1 := hide (X1.out.below hb)
  replace X2 := hide (X2.out.below hb)
  replace X3 := hide (X3.out.below hb)
  replace BW := hide (BW.out.trans (hb.mono BW.out.size))
  clear hb
  go_wp2_with fail
  refine (eqIntS R R gG gW _ _ _ MG.out.row MW.out.row).mono ?_
  rintro e u6 ⟨rfl, hb⟩
  rw [show decide (R = R) = true by simp]
  replace TA := hide (TA.out.below hb)
  replace MW := hide (MW.out.below hb)
  replace MX := hide (MX.out.below hb)
  replace X := hide (X.out.below hb)
  replace X1 := hide (X1.out.below hb)
  replace X2 := hide (X2.out.below hb)
  replace X3 := hide (X3.out.below hb)
  replace MG := hide (MG.out.below hb)
  replace BW := hide (BW.out.trans (hb.mono BW.out.size))
  clear hb
  have x0 := X.out.cell 0 _ rfl
  have ta0 := TA.out.cell 0 _ rfl
  go_wp2_with fail
  refine (wpIn_wide (n := 0)).1 ?_
  refine PhaseIn.region (S := fun w' => w'.cell? ⟨u3.heap.size, 0, none⟩ = some (.slice (some ⟨gx, 0, none⟩) ts.length ts.length) ∧ w'.cell? ⟨w.heap.size, 0, none⟩ = some (.slice qa ts.length ca)) 5 (by kernel_rfl) ?_
  have hHeld : u6.drew.cell? ⟨u3.heap.size, 0, none⟩ = some (.slice (some ⟨gx, 0, none⟩) ts.length ts.length) ∧ u6.drew.cell? ⟨w.heap.size, 0, none⟩ = some (.slice qa ts.length ca) := ⟨x0, ta0⟩
  have hb : Below u6.heap.size u6 u6.drew := (Below.refl _ _).drew
  clear x0 ta0
  replace TA := hide (TA.out.below hb)
  replace MW := hide (MW.out.below hb)
  replace MX := hide (MX.out.below hb)
  replace X := hide (X.out.below hb)
  replace X1 := hide (X1.out.below hb)
  replace X2 := hide (X2.out.below hb)
  replace X3 := hide (X3.out.below hb)
  replace MG := hide (MG.out.below hb)
  replace BW := hide (BW.out.trans (hb.mono BW.out.size))
  clear hb
  generalize u6.drew = d6 at hHeld BW TA MW MX X X1 X2 X3 MG ⊢
  refine PhaseIn.takeD (i := 0) (v := ?_) [0, 3, 4] 60 rfl (by rfl) (by kernel_rfl) (by kernel_rfl) (by kernel_rfl) (by kernel_rfl) (by kernel_rfl) (fun _ _ _ h => h) (Or.inl ⟨by kernel_rfl, ?_⟩) hHeld ?_
  rotate_left
  · intro w' hSw
    (try dsimp only at hSw)
    go_simp
    first | done | with_reducible rfl
  try simp only [Act.put, List.setIfInBounds_toArray, List.set]
  refine PhaseIn.takeD (i := 1) (v := ?_) [1, 2, 3, 4] 61 rfl (by rfl) (by kernel_rfl) (by kernel_rfl) (by kernel_rfl) (by kernel_rfl) (by kernel_rfl) (fun _ _ _ h => h) (Or.inl ⟨by kernel_rfl, ?_⟩) hHeld ?_
  rotate_left
  · intro w' hSw
    (try dsimp only at hSw)
    go_simp
    first | done | with_reducible rfl
  try simp only [Act.put, List.setIfInBounds_toArray, List.set]
  refine PhaseIn.one (i := 2) (by kernel_rfl) rfl (by kernel_rfl) (fun K hK => ?_)
  unfold Oper.wpIn
  refine ⟨fun _ _ => trivial, ?_⟩
  go_simp
  refine ⟨rfl, (callsIn_wide.2 (toTabTab ts B _ _ (RM.out.below BW.out) HS.out)).mono ?_⟩
  rintro e u7 ⟨g6, rfl, M6, hb⟩
  have hHeld2 := And.intro (cell_below hb hHeld.1) (cell_below hb hHeld.2)
  refine hK _ _ (fun _ => hHeld2) ?_
  obtain ⟨B6, R6⟩ := M6.read
  replace R6 := hide R6
  clear hK K M6 hHeld
  replace TA := hide (TA.out.below hb)
  replace MW := hide (MW.out.below hb)
  replace MX := hide (MX.out.below hb)
  replace X := hide (X.out.below hb)
  replace X1 := hide (X1.out.below hb)
  replace X2 := hide (X2.out.below hb)
  replace X3 := hide (X3.out.below hb)
  replace MG := hide (MG.out.below hb)
  replace BW := hide (BW.out.trans (hb.mono BW.out.size))
  clear hb
  obtain ⟨BX, RBX⟩ := MX.out.read
  replace RBX := hide RBX
  try simp only [Act.put, List.setIfInBounds_toArray, List.set]
  refine PhaseIn.one (i := 3) (by kernel_rfl) rfl (by kernel_rfl) (fun K hK => ?_)
  unfold Oper.wpIn
  refine ⟨fun _ _ => trivial, ?_⟩
  go_simp
  refine ⟨rfl, (callsIn_wide.2 (eqTabTab ts BX B6 _ _ _ RBX.out R6.out)).mono ?_⟩
  rintro e u8 ⟨rfl, hb⟩
  have hHeld := And.intro (cell_below hb hHeld2.1) (cell_below hb hHeld2.2)
  refine hK _ _ (fun _ => hHeld) ?_
  clear hK K R6 RBX hHeld2
  replace TA := hide (TA.out.below hb)
  replace MW := hide (MW.out.below hb)
  replace MX := hide (MX.out.below hb)
  replace X := hide (X.out.below hb)
  replace X1 := hide (X1.out.below hb)
  replace X2 := hide (X2.out.below hb)
  replace X3 := hide (X3.out.below hb)
  replace MG := hide (MG.out.below hb)
  replace BW := hide (BW.out.trans (hb.mono BW.out.size))
  clear hb
  try simp only [Act.put, List.setIfInBounds_toArray, List.set]
  refine PhaseIn.takeD (i := 4) (v := ?_) [4] 64 rfl (by rfl) (by kernel_rfl) (by kernel_rfl) (by kernel_rfl) (by kernel_rfl) (by kernel_rfl) (fun _ _ _ h => h) (Or.inl ⟨by kernel_rfl, ?_⟩) hHeld ?_
  rotate_left
  · intro w' hSw
    (try dsimp only at hSw)
    go_simp
    first | done | with_reducible rfl
  try simp only [Act.put, List.setIfInBounds_toArray, List.set]
  refine PhaseIn.done (by kernel_rfl) ?_ _
  clear hHeld
  go_wp2_with fail
  refine (toIntS rs BR _ _ (AR.out.below BW.out) L1.out).mono ?_
  rintro e uc1 ⟨gc1, rfl, C1, -, -, hb⟩
  replace C1 := hide C1
  replace TA := hide (TA.out.below hb)
  replace MW := hide (MW.out.below hb)
  replace MX := hide (MX.out.below hb)
  replace X := hide (X.out.below hb)
  replace X1 := hide (X1.out.below hb)
  replace X2 := hide (X2.out.below hb)
  replace X3 := hide (X3.out.below hb)
  replace MG := hide (MG.out.below hb)
  replace BW := hide (BW.out.trans (hb.mono BW.out.size))
  clear hb
  go_wp2_with fail
  refine (eqIntS rs rs gx1 gc1 _ _ _ X1.out.row C1.out.row).mono ?_
  rintro e ud1 ⟨rfl, hb⟩
  rw [show decide (rs = rs) = true by simp]
  replace TA := hide (TA.out.below hb)
  replace MW := hide (MW.out.below hb)
  replace MX := hide (MX.out.below hb)
  replace X := hide (X.out.below hb)
  replace X1 := hide (X1.out.below hb)
  replace X2 := hide (X2.out.below hb)
  replace X3 := hide (X3.out.below hb)
  replace MG := hide (MG.out.below hb)
  replace C1 := hide (C1.out.below hb)
  replace BW := hide (BW.out.trans (hb.mono BW.out.size))
  clear hb
  clear C1
  go_wp2_with fail
  refine (toIntS ls BL _ _ (AL.out.below BW.out) L2.out).mono ?_
  rintro e uc2 ⟨gc2, rfl, C2, -, -, hb⟩
  replace C2 := hide C2
  replace TA := hide (TA.out.below hb)
  replace MW := hide (MW.out.below hb)
  replace MX := hide (MX.out.below hb)
  replace X := hide (X.out.below hb)
  replace X1 := hide (X1.out.below hb)
  replace X2 := hide (X2.out.below hb)
  replace X3 := hide (X3.out.below hb)
  replace MG := hide (MG.out.below hb)
  replace BW := hide (BW.out.trans (hb.mono BW.out.size))
  clear hb
  go_wp2_with fail
  refine (eqIntS ls ls gx2 gc2 _ _ _ X2.out.row C2.out.row).mono ?_
  rintro e ud2 ⟨rfl, hb⟩
  rw [show decide (ls = ls) = true by simp]
  replace TA := hide (TA.out.below hb)
  replace MW := hide (MW.out.below hb)
  replace MX := hide (MX.out.below hb)
  replace X := hide (X.out.below hb)
  replace X1 := hide (X1.out.below hb)
  replace X2 := hide (X2.out.below hb)
  replace X3 := hide (X3.out.below hb)
  replace MG := hide (MG.out.below hb)
  replace C2 := hide (C2.out.below hb)
  replace BW := hide (BW.out.trans (hb.mono BW.out.size))
  clear hb
  clear C2
  go_wp2_with fail
  refine (toIntS is BI _ _ (AI.out.below BW.out) L3.out).mono ?_
  rintro e uc3 ⟨gc3, rfl, C3, -, -, hb⟩
  replace C3 := hide C3
  replace TA := hide (TA.out.below hb)
  replace MW := hide (MW.out.below hb)
  replace MX := hide (MX.out.below hb)
  replace X := hide (X.out.below hb)
  replace X1 := hide (X1.out.below hb)
  replace X2 := hide (X2.out.below hb)
  replace X3 := hide (X3.out.below hb)
  replace MG := hide (MG.out.below hb)
  replace BW := hide (BW.out.trans (hb.mono BW.out.size))
  clear hb
  go_wp2_with fail
  refine (eqIntS is is gx3 gc3 _ _ _ X3.out.row C3.out.row).mono ?_
  rintro e ud3 ⟨rfl, hb⟩
  rw [show decide (is = is) = true by simp]
  replace TA := hide (TA.out.below hb)
  replace MW := hide (MW.out.below hb)
  replace MX := hide (MX.out.below hb)
  replace X := hide (X.out.below hb)
  replace X1 := hide (X1.out.below hb)
  replace X2 := hide (X2.out.below hb)
  replace X3 := hide (X3.out.below hb)
  replace MG := hide (MG.out.below hb)
  replace C3 := hide (C3.out.below hb)
  replace BW := hide (BW.out.trans (hb.mono BW.out.size))
  clear hb
  clear C3
  have SZ : Hid (u2.heap.size ≤ u3.heap.size ∧ (u3.alloc (.cells #[.slice (some ⟨gx, 0, none⟩) ts.length ts.length] 34)).heap.size = u3.heap.size + 1 ∧ w.heap.size < u2.heap.size ∧ u3.heap.size + 1 ≤ gx1 ∧ gx1 < gx2 ∧ gx2 < gx3 ∧ gx3 < ub3.heap.size) := by
    have h1 := J3.out
    have h2 := J4.out
    have h3 := lw.out
    have h4 := I1.out
    have h5 := I2.out
    have h6 := I3.out
    rw [h2] at h4
    exact ⟨h1, h2, h3, h4.1, by omega, by omega, h6.2⟩
  obtain ⟨k1, ek1⟩ : ∃ k1, 1 + offT ts ts.length = k1 := ⟨_, rfl⟩
  have k10 : 0 ≤ k1 := by rw [← ek1]; unfold offT; omega
  have k11 : k1 ≤ 100000000 := by have := HS.out; unfold SmallT at this; rw [← ek1]; unfold offT; rw [List.take_length]; omega
  have EK1 := hide ek1
  clear ek1
  obtain ⟨k2, ek2⟩ : ∃ k2, k1 + (rs.length : Int) = k2 := ⟨_, rfl⟩
  have k20 : 0 ≤ k2 := by omega
  have k21 : k2 ≤ 200000000 := by have := L1.out; omega
  have EK2 := hide ek2
  clear ek2
  obtain ⟨k3, ek3⟩ : ∃ k3, k2 + (ls.length : Int) = k3 := ⟨_, rfl⟩
  have k30 : 0 ≤ k3 := by omega
  have k31 : k3 ≤ 300000000 := by have := L2.out; omega
  have EK3 := hide ek3
  clear ek3
  obtain ⟨k4, ek4⟩ : ∃ k4, k3 + (is.length : Int) = k4 := ⟨_, rfl⟩
  have k40 : 0 ≤ k4 := by omega
  have k4n : ¬ k4 < 0 := by omega
  have EK4 := hide ek4
  clear ek4
  have SR : Hid (R.length ≤ 1048576) := vals_small ER.out HS.out
  obtain ⟨km, ekm⟩ : ∃ km, 1 + (R.length : Int) = km := ⟨_, rfl⟩
  have km0 : ¬ km < 0 := by omega
  have kmm : (km != km) = false := by simp
  have EKM := hide ekm
  clear ekm
  have x0 := X.out.cell 0 _ rfl
  go_wp2_with fail
  refine (markTabTab ts 1 u2.heap.size u3.heap.size _ _ MX.out (by have := HS.out; unfold SmallT at this; omega) (by omega) (by omega)).mono ?_
  rintro e m1 ⟨rfl, -, hk⟩
  rw [EK1.out]
  clear x0 MX X
  replace TA := hide (TA.out.keep hk (fun (hS : _ ≤ _ ∧ _ < _) => by have := SZ.out; omega))
  replace X1 := hide (row_keep2 X1.out hk (Or.inr (fun (hS : _ ≤ _ ∧ _ < _) => by have := SZ.out; omega)))
  replace X2 := hide (row_keep2 X2.out hk (Or.inr (fun (hS : _ ≤ _ ∧ _ < _) => by have := SZ.out; omega)))
  replace X3 := hide (row_keep2 X3.out hk (Or.inr (fun (hS : _ ≤ _ ∧ _ < _) => by have := SZ.out; omega)))
  replace MW := hide (row_keep2 MW.out hk (IW.out.imp id (fun h => fun (hS : _ ≤ _ ∧ _ < _) => by have := SZ.out; omega)))
  replace MG := hide (row_keep2 MG.out hk (IG.out.imp id (fun h => fun (hS : _ ≤ _ ∧ _ < _) => by have := SZ.out; omega)))
  replace BW := hide (BW.out.trans (hk.below BW.out.size (fun k hl (hS : _ ≤ _ ∧ _ < _) => by have := SZ.out; omega)))
  clear hk
  go_wp2_with fail
  refine (markIntS k1 rs gx1 _ _ X1.out (by omega) (by omega) (by have := L1.out; omega)).mono ?_
  rintro e m2 ⟨rfl, -, ht⟩
  rw [EK2.out]
  have hk := Keep.of_turn ht
  clear ht X1
  replace TA := hide (TA.out.keep hk (fun (hS : _ = _) => by have := SZ.out; omega))
  replace X2 := hide (row_keep2 X2.out hk (Or.inr (fun (hS : _ = _) => by have := SZ.out; omega)))
  replace X3 := hide (row_keep2 X3.out hk (Or.inr (fun (hS : _ = _) => by have := SZ.out; omega)))
  replace MW := hide (row_keep2 MW.out hk (IW.out.imp id (fun h => fun (hS : _ = _) => by have := SZ.out; omega)))
  replace MG := hide (row_keep2 MG.out hk (IG.out.imp id (fun h => fun (hS : _ = _) => by have := SZ.out; omega)))
  replace BW := hide (BW.out.trans (hk.below BW.out.size (fun k hl (hS : _ = _) => by have := SZ.out; omega)))
  clear hk
  go_wp2_with fail
  refine (markIntS k2 ls gx2 _ _ X2.out (by omega) (by omega) (by have := L2.out; omega)).mono ?_
  rintro e m3 ⟨rfl, -, ht⟩
  rw [EK3.out]
  have hk := Keep.of_turn ht
  clear ht X2
  replace TA := hide (TA.out.keep hk (fun (hS : _ = _) => by have := SZ.out; omega))
  replace X3 := hide (row_keep2 X3.out hk (Or.inr (fun (hS : _ = _) => by have := SZ.out; omega)))
  replace MW := hide (row_keep2 MW.out hk (IW.out.imp id (fun h => fun (hS : _ = _) => by have := SZ.out; omega)))
  replace MG := hide (row_keep2 MG.out hk (IG.out.imp id (fun h => fun (hS : _ = _) => by have := SZ.out; omega)))
  replace BW := hide (BW.out.trans (hk.below BW.out.size (fun k hl (hS : _ = _) => by have := SZ.out; omega)))
  clear hk
  go_wp2_with fail
  refine (markIntS k3 is gx3 _ _ X3.out (by omega) (by omega) (by have := L3.out; omega)).mono ?_
  rintro e m4 ⟨rfl, -, ht⟩
  rw [EK4.out]
  have hk := Keep.of_turn ht
  clear ht X3
  replace TA := hide (TA.out.keep hk (fun (hS : _ = _) => by have := SZ.out; omega))
  replace MW := hide (row_keep2 MW.out hk (IW.out.imp id (fun h => fun (hS : _ = _) => by have := SZ.out; omega)))
  replace MG := hide (row_keep2 MG.out hk (IG.out.imp id (fun h => fun (hS : _ = _) => by have := SZ.out; omega)))
  replace BW := hide (BW.out.trans (hk.below BW.out.size (fun k hl (hS : _ = _) => by have := SZ.out; omega)))
  clear hk
  go_wp2_with fail
  refine (eqIntS R R gG gW _ _ _ MG.out.row MW.out.row).mono ?_
  rintro e m5 ⟨rfl, hb⟩
  rw [show decide (R = R) = true by simp]
  replace TA := hide (TA.out.below hb)
  replace MW := hide (MW.out.below hb)
  replace MG := hide (MG.out.below hb)
  replace BW := hide (BW.out.trans (hb.mono BW.out.size))
  clear hb
  obtain ⟨gH, MH, H1, H2⟩ := re_block MG.out
  have HT : Hid (w.heap.size < gH) := by
    by_cases e : R = []
    · have h1 := H2 e
      have h2 := TA.out.lt
      exact Nat.lt_of_lt_of_le h2 h1
    · have h1 := H1 e
      have h2 := IG.out.resolve_left e
      have h3 := SZ.out
      show _ < _
      omega
  have HW : Hid (R = [] ∨ gW ≠ gH) := by
    by_cases e : R = []
    · exact Or.inl e
    · have h1 := H1 e
      have h2 := IG.out.resolve_left e
      have h3 := IW.out.resolve_left e
      have h4 := SZ.out
      exact Or.inr (by omega)
  clear H1 H2 MG
  replace MH := hide MH
  go_wp2_with fail
  refine (markIntS 1 R gH _ _ MH.out (by omega) (by omega) (by have := SR.out; omega)).mono ?_
  rintro e m6 ⟨rfl, MM, ht⟩
  rw [EKM.out]
  have hk := Keep.of_turn ht
  clear ht MH
  replace MM := hide MM
  replace TA := hide (TA.out.keep hk (fun (hS : _ = _) => by have := HT.out; omega))
  replace MW := hide (row_keep2 MW.out hk (HW.out.imp id (fun h => fun (hS : _ = _) => h hS)))
  replace BW := hide (BW.out.trans (hk.below BW.out.size (fun k hl (hS : _ = _) => by have := HT.out; omega)))
  clear hk
  go_wp2_with fail
  refine (heldIntS 1 R.length gH _ _ MM.out.row (by omega) (by omega) (by have := SR.out; omega)).mono ?_
  rintro e m7 ⟨rfl, hb⟩
  rw [EKM.out]
  replace TA := hide (TA.out.below hb)
  replace MW := hide (MW.out.below hb)
  replace MM := hide (MM.out.below hb)
  replace BW := hide (BW.out.trans (hb.mono BW.out.size))
  clear hb
  have ta0 := TA.out.cell 0 _ rfl
  go_wp2_with fail
  refine (toTabTab ts B _ _ (RM.out.below BW.out) HS.out).mono ?_
  rintro e n1 ⟨g9, rfl, M9, hb⟩
  obtain ⟨B9, R9⟩ := M9.read
  replace R9 := hide R9
  clear ta0 M9
  replace TA := hide (TA.out.below hb)
  replace MW := hide (MW.out.below hb)
  replace MM := hide (MM.out.below hb)
  replace BW := hide (BW.out.trans (hb.mono BW.out.size))
  clear hb
  go_wp2_with fail
  refine (toIntS rs BR _ _ (AR.out.below BW.out) L1.out).mono ?_
  rintro e ue1 ⟨gs1, rfl, S1, -, -, hb⟩
  replace S1 := hide S1.row
  replace TA := hide (TA.out.below hb)
  replace MW := hide (MW.out.below hb)
  replace MM := hide (MM.out.below hb)
  replace R9 := hide (R9.out.below hb)
  replace BW := hide (BW.out.trans (hb.mono BW.out.size))
  clear hb
  go_wp2_with fail
  refine (toIntS ls BL _ _ (AL.out.below BW.out) L2.out).mono ?_
  rintro e ue2 ⟨gs2, rfl, S2, -, -, hb⟩
  replace S2 := hide S2.row
  replace TA := hide (TA.out.below hb)
  replace MW := hide (MW.out.below hb)
  replace MM := hide (MM.out.below hb)
  replace R9 := hide (R9.out.below hb)
  replace S1 := hide (S1.out.below hb)
  replace BW := hide (BW.out.trans (hb.mono BW.out.size))
  clear hb
  go_wp2_with fail
  refine (toIntS is BI _ _ (AI.out.below BW.out) L3.out).mono ?_
  rintro e ue3 ⟨gs3, rfl, S3, -, -, hb⟩
  replace S3 := hide S3.row
  replace TA := hide (TA.out.below hb)
  replace MW := hide (MW.out.below hb)
  replace MM := hide (MM.out.below hb)
  replace R9 := hide (R9.out.below hb)
  replace S1 := hide (S1.out.below hb)
  replace S2 := hide (S2.out.below hb)
  replace BW := hide (BW.out.trans (hb.mono BW.out.size))
  clear hb
  go_wp2_with fail
  refine (implVals ts rs ls is B9 _ _ _ _ _ _ _ _ R9.out S1.out S2.out S3.out).mono ?_
  rintro e n5 ⟨vH, rfl, OW, hb⟩
  rw [ER.out] at OW
  obtain ⟨gL, ML, _⟩ := own_w OW
  replace ML := hide ML
  clear R9 S1 S2 S3 OW
  replace TA := hide (TA.out.below hb)
  replace MW := hide (MW.out.below hb)
  replace MM := hide (MM.out.below hb)
  replace BW := hide (BW.out.trans (hb.mono BW.out.size))
  clear hb
  go_wp2_with fail
  refine (eqIntS R R gL gW _ _ _ ML.out.row MW.out.row).mono ?_
  rintro e n6 ⟨rfl, hb⟩
  rw [show decide (R = R) = true by simp]
  replace TA := hide (TA.out.below hb)
  replace MW := hide (MW.out.below hb)
  replace MM := hide (MM.out.below hb)
  replace ML := hide (ML.out.below hb)
  replace BW := hide (BW.out.trans (hb.mono BW.out.size))
  clear hb
  go_wp2_with fail
  refine (heldIntS 1 R.length gH _ _ MM.out.row (by omega) (by omega) (by have := SR.out; omega)).mono ?_
  rintro e n7 ⟨rfl, hb⟩
  rw [EKM.out]
  replace TA := hide (TA.out.below hb)
  replace MW := hide (MW.out.below hb)
  replace MM := hide (MM.out.below hb)
  replace ML := hide (ML.out.below hb)
  replace BW := hide (BW.out.trans (hb.mono BW.out.size))
  clear hb
  go_wp2
  go_ret
  exact ⟨rfl, BW.out⟩

set_option maxRecDepth 100000 in
theorem lifted (os : Os) (started : os.Started) (H : Type) (enc : TypeId × Value → H) :
    ReturnsInHanded {} Try.checked os 4 .any (Rows.fnExactTabValsSpec.pre6 enc Try.prog Try.f4 Rows.fnExactTabValsRow.domain false) (Rows.fnExactTabValsSpec.post enc Try.prog Try.f4 false true false false) := by
  refine returnsInHanded_of_change (C := Try.checked) own started (by kernel_rfl) Try.func4
    (ChangeSpec.witness6 (enc := enc) (C := Try.checked) false ⟨#[], #[.agg #[.slice none 0 0], .slice none 0 0, .slice none 0 0, .slice none 0 0], []⟩ 8 (by kernel_rfl) (by kernel_rfl) (by kernel_rfl) (by kernel_rfl)) ?_
  intro W base args ds gs before hval0 hW hcnd hsz0
  have hval : ∀ (j : Nat) t v, Try.f4.params[j]? = some t → args[j]? = some v → Value.okWide Try.prog W .any base t v := hval0
  have hW' := hW
  obtain ⟨p, q, hA0, hV, rfl, hfz, hnd⟩ := hW
  have hA : DataW.TrodAll enc Try.prog W 0 (fun _ => true) true Try.f4.params.toList args.toList ds p := hA0
  rw [Try.params4] at hA hval
  obtain ⟨v0, vs0, d0, ds0, p0, q0, hargs, rfl, rfl, h0, r0⟩ := trodAll_cons hA
  obtain ⟨v1, vs1, d1, ds1, p1, q1, rfl, rfl, rfl, h1, r1⟩ := trodAll_cons r0
  obtain ⟨v2, vs2, d2, ds2, p2, q2, rfl, rfl, rfl, h2, r2⟩ := trodAll_cons r1
  obtain ⟨v3, vs3, d3, ds3, p3, q3, rfl, rfl, rfl, h3, r3⟩ := trodAll_cons r2
  obtain ⟨rfl, rfl, rfl⟩ := trodAll_nil r3
  obtain rfl : args = #[v0, v1, v2, v3] := by cases args; simp_all
  obtain ⟨rfl, rfl⟩ := trodVars_none hV
  have k0 := h0
  have lt0 : ∀ x ∈ p0, x.block < W.heap.size := by obtain ⟨m, hm⟩ := k0; exact DataW.trod_lt m _ _ _ hm
  obtain ⟨a0, rfl, _⟩ := okWide_struct Try.underlying24 (hval 0 24 v0 rfl rfl)
  have w0 : Shape.Holds Try.prog W 9 24 a0.toList := Shape.opened 9 h0
  have k1 := h1
  have lt1 : ∀ x ∈ p1, x.block < W.heap.size := by obtain ⟨m, hm⟩ := k1; exact DataW.trod_lt m _ _ _ hm
  obtain ⟨a1, len1, cap1, rfl⟩ := okWide_slice Try.underlying49 (hval 1 49 v1 rfl rfl)
  have w1 : Shape.Holds Try.prog W 9 49 [.slice a1 len1 cap1] := Shape.opened 9 h1
  have k2 := h2
  have lt2 : ∀ x ∈ p2, x.block < W.heap.size := by obtain ⟨m, hm⟩ := k2; exact DataW.trod_lt m _ _ _ hm
  obtain ⟨a2, len2, cap2, rfl⟩ := okWide_slice Try.underlying49 (hval 2 49 v2 rfl rfl)
  have w2 : Shape.Holds Try.prog W 9 49 [.slice a2 len2 cap2] := Shape.opened 9 h2
  have k3 := h3
  have lt3 : ∀ x ∈ p3, x.block < W.heap.size := by obtain ⟨m, hm⟩ := k3; exact DataW.trod_lt m _ _ _ hm
  obtain ⟨a3, len3, cap3, rfl⟩ := okWide_slice Try.underlying49 (hval 3 49 v3 rfl rfl)
  have w3 : Shape.Holds Try.prog W 9 49 [.slice a3 len3 cap3] := Shape.opened 9 h3
  clear hA0 hval0
  refine (walk a0 a1 len1 cap1 a2 len2 cap2 a3 len3 cap3 W w0 w1 w2 w3).mono fun e W' ⟨he, hnx⟩ => ?_
  subst he
  exact ⟨_, rfl, _, _, _, [], _, [], hW', trodAll_cons_mk (shut_bool Try.underlying4 _) trodAll_mk0, (trodAll_cons_mk (Below.trod laidOut (by kernel_rfl) (of_decide_eq_true (by kernel_rfl)) k0 hnx lt0) (trodAll_cons_mk (Below.trod laidOut (by kernel_rfl) (of_decide_eq_true (by kernel_rfl)) k1 hnx lt1) (trodAll_cons_mk (Below.trod laidOut (by kernel_rfl) (of_decide_eq_true (by kernel_rfl)) k2 hnx lt2) (trodAll_cons_mk (Below.trod laidOut (by kernel_rfl) (of_decide_eq_true (by kernel_rfl)) k3 hnx lt3) trodAll_mk0)))), rfl, hnx.frame _, fun h => by cases h⟩

theorem over : Rows.fnExactTabValsRow.holds Try.pinned (OpenSpec.ofChange Rows.fnExactTabValsSpec) :=
  OpenClaim.holds_of_wide 4 Try.f4 rfl rfl rfl rfl rfl rfl rfl ⟨rfl, rfl, rfl, rfl, rfl⟩ rfl rfl rfl rfl rfl (by kernel_rfl) Try.func4 (by kernel_rfl)
    (of_decide_eq_true (by kernel_rfl)) (by unfold Func.isWrapper; first | (rw [if_pos (by decide +kernel)]; kernel_rfl) | (rw [if_neg (by decide +kernel)]; exact ⟨rfl, rfl⟩))
    (fun os started H enc _ => lifted os started H enc)

theorem proved : Rows.FnExactTabValsSaid := over
#print axioms proved
end Go.Proofs.Ytagfgbkclopoeaa.fnExactTabVals
