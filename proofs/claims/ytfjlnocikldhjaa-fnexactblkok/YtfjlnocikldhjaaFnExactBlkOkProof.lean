/-
  At every place and list of instructions the program's BlkOk answers as the specification's BlkOk does; it writes into no argument (the law FnExactBlkOk returns true); no condition.
  The frame (lifted, over, proved) is written by my own program after the guide's worked texts; the walk and the lemmas ahead of it are mine.
-/
import Derived.Test.YtfjlnocikldhjaaRows
import Derived.Test.YtfjlnocikldhjaaShape
import Derived.Test.YtfjlnocikldhjaaBlkA
import Derived.WalkKit
import Derived.ProofKit
import Derived.OpenShut
import Derived.ShutString
import Derived.ChangeOld
import Derived.Below
import Derived.SizedLaws
namespace Go.Proofs.Ytfjlnocikldhjaa.fnExactBlkOk
open Go.ChangeShapes Go.WideShapes Go.ChangeAt Go.RowKit
open Go.ChangeMaps (open_string shut_string)
set_option linter.unusedVariables false

theorem own : ownKnob Try.prog.godebug = none := by kernel_rfl
theorem laidOut : laidOutB Try.prog = true := by kernel_rfl

open IntS Flat InsS Blk

set_option maxRecDepth 8000 in
set_option maxHeartbeats 8000000 in
theorem walk (a0 : Int) (w0 : (Lit.int .i64 a0).wf = true) (a1 : Option Addr) (len1 cap1 : Nat) (w : World) (w1 : Shape.Holds Try.prog w 9 35 [.slice a1 len1 cap1])  :
    Calls Try.prog 4 #[.int .i64 a0, .slice a1 len1 cap1] w fun e w' => e = .returned (.bool true) ∧ Below w.heap.size w w' := by
  obtain ⟨v, is, B, hv, hP⟩ := InsS.ins_hold (n := 6) w1
  obtain rfl : Value.slice a1 len1 cap1 = v := by simpa using hv
  have RM := hide hP
  obtain ⟨a, cap, off, e, h2, h3, -, -, -⟩ := hP
  obtain ⟨rfl, rfl, rfl⟩ : a1 = a ∧ len1 = is.length ∧ cap1 = cap := by cases e; exact ⟨rfl, rfl, rfl⟩
  have H3 := hide h3
  clear w1 hv e h3
  obtain ⟨R, eR⟩ : ∃ R, okL a0 is = R := ⟨_, rfl⟩
  have ER := hide eR
  clear eR
  have pn : (R != R) = false := by simp
  go_enter Try.func4, Try.ntmps4
  go_wp2_with fail
  refine (szInsInsS is.length cap1 a1 1048576 _ h2 H3.out (by omega) (by omega)).mono ?_
  rintro e u0 ⟨rfl, hw⟩
  rw [hw]
  clear hw u0 h2 H3
  by_cases hn : (1048576 : Int) < is.length
  · rw [if_pos hn]
    go_wp2
    go_ret
    exact ⟨rfl, Below.refl _ _⟩
  rw [if_neg hn]
  have hnn : ¬ 1048576 - (is.length : Int) < 0 := by omega
  have HS : Hid (is.length ≤ 1048576) := by show _ ≤ _; omega
  clear hn
  have BW : Hid (Below w.heap.size w w) := Below.refl _ _
  go_wp2_with fail
  refine (toInsInsS is B _ _ (RM.out.below BW.out) HS.out).mono ?_
  rintro e u1 ⟨g1, rfl, M1, -, -, hb⟩
  replace M1 := hide M1
  replace BW := hide (BW.out.trans (hb.mono BW.out.size))
  clear hb
  go_wp2_with fail
  refine (Blk.specOk a0 is g1 _ _ M1.out.row HS.out).mono ?_
  rintro e u2 ⟨rfl, hb⟩
  rw [ER.out]
  clear M1
  replace BW := hide (BW.out.trans (hb.mono BW.out.size))
  clear hb
  go_wp2_with fail
  refine (toInsInsS is B _ _ (RM.out.below BW.out) HS.out).mono ?_
  rintro e u3 ⟨gx, rfl, MX, -, -, hb⟩
  replace MX := hide MX
  replace BW := hide (BW.out.trans (hb.mono BW.out.size))
  clear hb
  go_wp2_with fail
  refine (Blk.implOk a0 is gx _ _ MX.out.row HS.out).mono ?_
  rintro e u4 ⟨rfl, hb⟩
  rw [ER.out]
  replace MX := hide (MX.out.below hb)
  replace BW := hide (BW.out.trans (hb.mono BW.out.size))
  clear hb
  go_wp2_with fail
  refine (toInsInsS is B _ _ (RM.out.below BW.out) HS.out).mono ?_
  rintro e u5 ⟨g6, rfl, M6, -, -, hb⟩
  replace M6 := hide M6
  replace MX := hide (MX.out.below hb)
  replace BW := hide (BW.out.trans (hb.mono BW.out.size))
  clear hb
  go_wp2_with fail
  refine (eqInsInsS is gx g6 _ _ _ MX.out.row M6.out.row).mono ?_
  rintro e u6 ⟨rfl, hb⟩
  replace BW := hide (BW.out.trans (hb.mono BW.out.size))
  clear hb
  clear MX M6
  go_wp2
  go_ret
  exact ⟨rfl, BW.out⟩

set_option maxRecDepth 100000 in
theorem lifted (os : Os) (started : os.Started) (H : Type) (enc : TypeId × Value → H) :
    ReturnsInHanded {} Try.checked os 4 .any (Rows.fnExactBlkOkSpec.pre6 enc Try.prog Try.f4 Rows.fnExactBlkOkRow.domain false) (Rows.fnExactBlkOkSpec.post enc Try.prog Try.f4 false true false false) := by
  refine returnsInHanded_of_change (C := Try.checked) own started (by kernel_rfl) Try.func4
    (ChangeSpec.witness6 (enc := enc) (C := Try.checked) false ⟨#[], #[.int .i64 0, .slice none 0 0], []⟩ 8 (by kernel_rfl) (by kernel_rfl) (by kernel_rfl) (by kernel_rfl)) ?_
  intro W base args ds gs before hval0 hW hcnd hsz0
  have hval : ∀ (j : Nat) t v, Try.f4.params[j]? = some t → args[j]? = some v → Value.okWide Try.prog W .any base t v := hval0
  have hW' := hW
  obtain ⟨p, q, hA0, hV, rfl, hfz, hnd⟩ := hW
  have hA : DataW.TrodAll enc Try.prog W 0 (fun _ => true) true Try.f4.params.toList args.toList ds p := hA0
  rw [Try.params4] at hA hval
  obtain ⟨v0, vs0, d0, ds0, p0, q0, hargs, rfl, rfl, h0, r0⟩ := trodAll_cons hA
  obtain ⟨v1, vs1, d1, ds1, p1, q1, rfl, rfl, rfl, h1, r1⟩ := trodAll_cons r0
  obtain ⟨rfl, rfl, rfl⟩ := trodAll_nil r1
  obtain rfl : args = #[v0, v1] := by cases args; simp_all
  obtain ⟨rfl, rfl⟩ := trodVars_none hV
  have k0 := h0
  have lt0 : ∀ x ∈ p0, x.block < W.heap.size := by obtain ⟨m, hm⟩ := k0; exact DataW.trod_lt m _ _ _ hm
  obtain ⟨a0, rfl, rfl, rfl, w0⟩ := open_int Try.underlying3 (hval 0 3 v0 rfl rfl) h0
  have k1 := h1
  have lt1 : ∀ x ∈ p1, x.block < W.heap.size := by obtain ⟨m, hm⟩ := k1; exact DataW.trod_lt m _ _ _ hm
  obtain ⟨a1, len1, cap1, rfl⟩ := okWide_slice Try.underlying35 (hval 1 35 v1 rfl rfl)
  have w1 : Shape.Holds Try.prog W 9 35 [.slice a1 len1 cap1] := Shape.opened 9 h1
  clear hA0 hval0
  refine (walk a0 w0 a1 len1 cap1 W w1).mono fun e W' ⟨he, hnx⟩ => ?_
  subst he
  exact ⟨_, rfl, _, _, _, [], _, [], hW', trodAll_cons_mk (shut_bool Try.underlying4 _) trodAll_mk0, (trodAll_cons_mk (Below.trod laidOut (by kernel_rfl) (of_decide_eq_true (by kernel_rfl)) k0 hnx lt0) (trodAll_cons_mk (Below.trod laidOut (by kernel_rfl) (of_decide_eq_true (by kernel_rfl)) k1 hnx lt1) trodAll_mk0)), rfl, hnx.frame _, fun h => by cases h⟩

theorem over : Rows.fnExactBlkOkRow.holds Try.pinned (OpenSpec.ofChange Rows.fnExactBlkOkSpec) :=
  OpenClaim.holds_of_wide 4 Try.f4 rfl rfl rfl rfl rfl rfl rfl ⟨rfl, rfl, rfl, rfl, rfl⟩ rfl rfl rfl rfl rfl (by kernel_rfl) Try.func4 (by kernel_rfl)
    (of_decide_eq_true (by kernel_rfl)) (by unfold Func.isWrapper; first | (rw [if_pos (by decide +kernel)]; kernel_rfl) | (rw [if_neg (by decide +kernel)]; exact ⟨rfl, rfl⟩))
    (fun os started H enc _ => lifted os started H enc)

theorem proved : Rows.FnExactBlkOkSaid := over
#print axioms proved
end Go.Proofs.Ytfjlnocikldhjaa.fnExactBlkOk
