/-
  At every list of instructions the program's BlkWords answers as the specification's BlkWords does; it writes into no argument, and its answer owns its memory (the law FnExactBlkWords returns true); no condition.
  The frame (lifted, over, proved) is written by my own program after the guide's worked texts; the walk and the lemmas ahead of it are mine.
-/
import Derived.Test.YtfjlnocikldhjaaRows
import Derived.Test.YtfjlnocikldhjaaShape
import Derived.Test.YtfjlnocikldhjaaBlkB
import Derived.WalkKit
import Derived.ProofKit
import Derived.OpenShut
import Derived.ShutString
import Derived.ChangeOld
import Derived.Below
import Derived.SizedLaws
namespace Go.Proofs.Ytfjlnocikldhjaa.fnExactBlkWords
open Go.ChangeShapes Go.WideShapes Go.ChangeAt Go.RowKit
open Go.ChangeMaps (open_string shut_string)
set_option linter.unusedVariables false

theorem own : ownKnob Try.prog.godebug = none := by kernel_rfl
theorem laidOut : laidOutB Try.prog = true := by kernel_rfl

open IntS Flat InsS Blk

set_option maxRecDepth 8000 in
set_option maxHeartbeats 8000000 in
theorem walk (a0 : Option Addr) (len0 cap0 : Nat) (w : World) (w0 : Shape.Holds Try.prog w 9 35 [.slice a0 len0 cap0])  :
    Calls Try.prog 6 #[.slice a0 len0 cap0] w fun e w' => e = .returned (.bool true) ∧ Below w.heap.size w w' := by
  obtain ⟨v, is, B, hv, hP⟩ := InsS.ins_hold (n := 6) w0
  obtain rfl : Value.slice a0 len0 cap0 = v := by simpa using hv
  have RM := hide hP
  obtain ⟨a, cap, off, e, h2, h3, -, -, -⟩ := hP
  obtain ⟨rfl, rfl, rfl⟩ : a0 = a ∧ len0 = is.length ∧ cap0 = cap := by cases e; exact ⟨rfl, rfl, rfl⟩
  have H3 := hide h3
  clear w0 hv e h3
  go_enter Try.func6, Try.ntmps6
  go_wp2_with fail
  refine (szInsInsS is.length cap0 a0 1048576 _ h2 H3.out (by omega) (by omega)).mono ?_
  rintro e u0 ⟨rfl, hw⟩
  rw [hw]
  clear hw u0 h2 H3
  by_cases hn : (1048576 : Int) < is.length
  · rw [if_pos hn]
    go_wp2
    go_ret
    exact ⟨rfl, Below.refl _ _⟩
  rw [if_neg hn]
  have hnn : ¬ 1048576 - (is.length : Int) < 0 := by omega
  have HS : Hid (is.length ≤ 1048576) := by show _ ≤ _; omega
  clear hn
  have BW : Hid (Below w.heap.size w w) := Below.refl _ _
  obtain ⟨R, eR⟩ : ∃ R, wordsL is = R := ⟨_, rfl⟩
  have ER := hide eR
  have RL : Hid (R.length = is.length) := show _ = _ by rw [← eR, wordsL, List.length_map]
  clear eR
  have rb : R.length ≤ 1048576 := by rw [RL.out]; exact HS.out
  go_wp2_with fail
  refine (toInsInsS is B _ _ (RM.out.below BW.out) HS.out).mono ?_
  rintro e u1 ⟨g1, rfl, M1, -, -, hb⟩
  replace M1 := hide M1
  replace BW := hide (BW.out.trans (hb.mono BW.out.size))
  clear hb
  go_wp2_with fail
  refine (specWords is g1 _ _ M1.out.row HS.out).mono ?_
  rintro e u2 ⟨qw, cw, rfl, OW, hb⟩
  rw [ER.out] at OW ⊢
  have SS : Hid (w.heap.size ≤ u1.heap.size ∧ u1.heap.size ≤ u2.heap.size ∧ (∀ G, qw = some ⟨G, 0, none⟩ → G < u2.heap.size)) := ⟨BW.out.size, hb.size, fun G e => (OW.q_lt e).2⟩
  have OWN := hide OW
  clear M1 OW
  replace BW := hide (BW.out.trans (hb.mono BW.out.size))
  clear hb
  go_wp2_with fail
  refine (toInsInsS is B _ _ (RM.out.below BW.out) HS.out).mono ?_
  rintro e u3 ⟨gx, rfl, MX, x1, x2, hb⟩
  replace MX := hide MX
  have XX : Hid (u2.heap.size ≤ gx ∧ gx < u3.heap.size) := ⟨x1, x2⟩
  clear x1 x2
  replace OWN := hide (OWN.out.below hb)
  replace BW := hide (BW.out.trans (hb.mono BW.out.size))
  clear hb
  go_wp2_with fail
  refine (implWords is gx _ _ MX.out.row HS.out).mono ?_
  rintro e u4 ⟨gg, rfl, MG, y1, y2, hb⟩
  rw [ER.out] at MG ⊢
  replace MG := hide MG
  have YY : Hid (u3.heap.size ≤ gg ∧ gg < u4.heap.size) := ⟨y1, y2⟩
  clear y1 y2
  replace OWN := hide (OWN.out.below hb)
  replace MX := hide (MX.out.below hb)
  replace BW := hide (BW.out.trans (hb.mono BW.out.size))
  clear hb
  obtain ⟨BWR, hWR, -, -⟩ := OWN.out.wrow u1.heap.size (Nat.le_refl _)
  have WR := hide (row_of_flat hWR).row
  clear hWR
  go_wp2_with fail
  refine (eqIntS R R _ BWR _ _ _ MG.out.row WR.out).mono ?_
  rintro e u5 ⟨rfl, hb⟩
  rw [show decide (R = R) = true from decide_eq_true rfl]
  clear WR BWR
  replace OWN := hide (OWN.out.below hb)
  replace MX := hide (MX.out.below hb)
  replace MG := hide (MG.out.below hb)
  replace BW := hide (BW.out.trans (hb.mono BW.out.size))
  clear hb
  go_wp2_with fail
  refine (toInsInsS is B _ _ (RM.out.below BW.out) HS.out).mono ?_
  rintro e u6 ⟨g6, rfl, M6, -, -, hb⟩
  replace M6 := hide M6
  replace OWN := hide (OWN.out.below hb)
  replace MX := hide (MX.out.below hb)
  replace MG := hide (MG.out.below hb)
  replace BW := hide (BW.out.trans (hb.mono BW.out.size))
  clear hb
  go_wp2_with fail
  refine (eqInsInsS is gx g6 _ _ _ MX.out.row M6.out.row).mono ?_
  rintro e u7 ⟨rfl, hb⟩
  clear M6
  replace OWN := hide (OWN.out.below hb)
  replace MX := hide (MX.out.below hb)
  replace MG := hide (MG.out.below hb)
  replace BW := hide (BW.out.trans (hb.mono BW.out.size))
  clear hb
  have S2 : Hid (w.heap.size ≤ u1.heap.size ∧ u1.heap.size ≤ u2.heap.size ∧ (∀ G, qw = some ⟨G, 0, none⟩ → G < u2.heap.size)) := SS.out
  go_wp2_with fail
  refine (markInsInsS 1 is.length _ gx _ _ MX.out (by omega) (by omega) (by have := HS.out; omega)).mono ?_
  rintro e u8 ⟨rfl, -, ht⟩
  clear MX
  replace OWN := hide (OWN.out.apart ht (fun G e => by have := S2.out.2.2 G e; have := XX.out; omega))
  replace MG := hide (MG.out.turn ht (by have := XX.out; have := YY.out; omega))
  replace BW := hide (BW.out.trans (ht.below (by have := XX.out; have := YY.out; have := S2.out; omega) BW.out.size))
  clear ht
  have kk0 : ¬ (1 : Int) + (is.length : Int) * 4 < 0 := by omega
  have kk1 : (1 : Int) + (is.length : Int) * 4 ≤ 10000000 := by have := HS.out; omega
  obtain ⟨BWR, hWR, -, -⟩ := OWN.out.wrow u1.heap.size (Nat.le_refl _)
  have WR := hide (row_of_flat hWR).row
  clear hWR
  go_wp2_with fail
  refine (eqIntS R R _ BWR _ _ _ MG.out.row WR.out).mono ?_
  rintro e u9 ⟨rfl, hb⟩
  rw [show decide (R = R) = true from decide_eq_true rfl]
  clear WR BWR
  replace OWN := hide (OWN.out.below hb)
  replace MG := hide (MG.out.below hb)
  replace BW := hide (BW.out.trans (hb.mono BW.out.size))
  clear hb
  clear kk0 kk1
  go_wp2_with fail
  refine (markIntS 1 R gg _ _ MG.out (by omega) (by omega) (by omega)).mono ?_
  rintro e u10 ⟨rfl, MM, ht⟩
  clear MG
  replace MM := hide MM
  replace OWN := hide (OWN.out.apart ht (fun G e => by have := S2.out.2.2 G e; have := XX.out; have := YY.out; omega))
  replace BW := hide (BW.out.trans (ht.below (by have := XX.out; have := YY.out; have := S2.out; omega) BW.out.size))
  clear ht
  go_wp2_with fail
  refine (heldIntS 1 R.length gg _ _ MM.out.row (by omega) (by omega) (by omega)).mono ?_
  rintro e u11 ⟨rfl, hb⟩
  replace OWN := hide (OWN.out.below hb)
  replace MM := hide (MM.out.below hb)
  replace BW := hide (BW.out.trans (hb.mono BW.out.size))
  clear hb
  have nn : ¬ (1 : Int) + (R.length : Int) < 0 := by omega
  have ne : ((1 : Int) + (R.length : Int) != 1 + (R.length : Int)) = false := by simp
  go_wp2_with fail
  refine (toInsInsS is B _ _ (RM.out.below BW.out) HS.out).mono ?_
  rintro e u12 ⟨g9, rfl, M9, -, -, hb⟩
  replace M9 := hide M9
  replace OWN := hide (OWN.out.below hb)
  replace MM := hide (MM.out.below hb)
  replace BW := hide (BW.out.trans (hb.mono BW.out.size))
  clear hb
  go_wp2_with fail
  refine (implWords is g9 _ _ M9.out.row HS.out).mono ?_
  rintro e u13 ⟨gh, rfl, MH, -, -, hb⟩
  rw [ER.out] at MH ⊢
  replace MH := hide MH
  clear M9
  replace OWN := hide (OWN.out.below hb)
  replace MM := hide (MM.out.below hb)
  replace BW := hide (BW.out.trans (hb.mono BW.out.size))
  clear hb
  obtain ⟨BWR, hWR, -, -⟩ := OWN.out.wrow u1.heap.size (Nat.le_refl _)
  have WR := hide (row_of_flat hWR).row
  clear hWR
  go_wp2_with fail
  refine (eqIntS R R _ BWR _ _ _ MH.out.row WR.out).mono ?_
  rintro e u14 ⟨rfl, hb⟩
  rw [show decide (R = R) = true from decide_eq_true rfl]
  clear WR BWR
  replace MM := hide (MM.out.below hb)
  replace BW := hide (BW.out.trans (hb.mono BW.out.size))
  clear hb
  clear MH OWN
  go_wp2_with fail
  refine (heldIntS 1 R.length gg _ _ MM.out.row (by omega) (by omega) (by omega)).mono ?_
  rintro e u15 ⟨rfl, hb⟩
  replace BW := hide (BW.out.trans (hb.mono BW.out.size))
  clear hb
  clear MM
  go_wp2
  go_ret
  exact ⟨rfl, BW.out⟩

set_option maxRecDepth 100000 in
theorem lifted (os : Os) (started : os.Started) (H : Type) (enc : TypeId × Value → H) :
    ReturnsInHanded {} Try.checked os 6 .any (Rows.fnExactBlkWordsSpec.pre6 enc Try.prog Try.f6 Rows.fnExactBlkWordsRow.domain false) (Rows.fnExactBlkWordsSpec.post enc Try.prog Try.f6 false true false false) := by
  refine returnsInHanded_of_change (C := Try.checked) own started (by kernel_rfl) Try.func6
    (ChangeSpec.witness6 (enc := enc) (C := Try.checked) false ⟨#[], #[.slice none 0 0], []⟩ 8 (by kernel_rfl) (by kernel_rfl) (by kernel_rfl) (by kernel_rfl)) ?_
  intro W base args ds gs before hval0 hW hcnd hsz0
  have hval : ∀ (j : Nat) t v, Try.f6.params[j]? = some t → args[j]? = some v → Value.okWide Try.prog W .any base t v := hval0
  have hW' := hW
  obtain ⟨p, q, hA0, hV, rfl, hfz, hnd⟩ := hW
  have hA : DataW.TrodAll enc Try.prog W 0 (fun _ => true) true Try.f6.params.toList args.toList ds p := hA0
  rw [Try.params6] at hA hval
  obtain ⟨v0, vs0, d0, ds0, p0, q0, hargs, rfl, rfl, h0, r0⟩ := trodAll_cons hA
  obtain ⟨rfl, rfl, rfl⟩ := trodAll_nil r0
  obtain rfl : args = #[v0] := by cases args; simp_all
  obtain ⟨rfl, rfl⟩ := trodVars_none hV
  have k0 := h0
  have lt0 : ∀ x ∈ p0, x.block < W.heap.size := by obtain ⟨m, hm⟩ := k0; exact DataW.trod_lt m _ _ _ hm
  obtain ⟨a0, len0, cap0, rfl⟩ := okWide_slice Try.underlying35 (hval 0 35 v0 rfl rfl)
  have w0 : Shape.Holds Try.prog W 9 35 [.slice a0 len0 cap0] := Shape.opened 9 h0
  clear hA0 hval0
  refine (walk a0 len0 cap0 W w0).mono fun e W' ⟨he, hnx⟩ => ?_
  subst he
  exact ⟨_, rfl, _, _, _, [], _, [], hW', trodAll_cons_mk (shut_bool Try.underlying4 _) trodAll_mk0, (trodAll_cons_mk (Below.trod laidOut (by kernel_rfl) (of_decide_eq_true (by kernel_rfl)) k0 hnx lt0) trodAll_mk0), rfl, hnx.frame _, fun h => by cases h⟩

theorem over : Rows.fnExactBlkWordsRow.holds Try.pinned (OpenSpec.ofChange Rows.fnExactBlkWordsSpec) :=
  OpenClaim.holds_of_wide 6 Try.f6 rfl rfl rfl rfl rfl rfl rfl ⟨rfl, rfl, rfl, rfl, rfl⟩ rfl rfl rfl rfl rfl (by kernel_rfl) Try.func6 (by kernel_rfl)
    (of_decide_eq_true (by kernel_rfl)) (by unfold Func.isWrapper; first | (rw [if_pos (by decide +kernel)]; kernel_rfl) | (rw [if_neg (by decide +kernel)]; exact ⟨rfl, rfl⟩))
    (fun os started H enc _ => lifted os started H enc)

theorem proved : Rows.FnExactBlkWordsSaid := over
#print axioms proved
end Go.Proofs.Ytfjlnocikldhjaa.fnExactBlkWords
