/-
  At every list of what is kept and every place the program's CacFind answers as the specification's CacFind does, and writes into no argument (the law FnExactCacFind returns true); no condition.
  The frame (lifted, over, proved) is written by my own program after the guide's worked texts; the walk and the lemmas ahead of it are mine.
-/
import Derived.Test.YthlpndligadnjaaRows
import Derived.Test.YthlpndligadnjaaShape
import Derived.Test.YthlpndligadnjaaDtCa
import Derived.Test.YthlpndligadnjaaDtCb
import Derived.Test.YthlpndligadnjaaDtCc
import Derived.Test.YthlpndligadnjaaDtCd
import Derived.Test.YthlpndligadnjaaCaN
import Derived.Test.YthlpndligadnjaaCaG
import Derived.WalkKit
import Derived.ProofKit
import Derived.OpenShut
import Derived.ShutString
import Derived.ChangeOld
import Derived.Below
import Derived.SizedLaws
namespace Go.Proofs.Ythlpndligadnjaa.fnExactCacFind
open Go.ChangeShapes Go.WideShapes Go.ChangeAt Go.RowKit
open Go.ChangeMaps (open_string shut_string)
set_option linter.unusedVariables false

theorem own : ownKnob Try.prog.godebug = none := by kernel_rfl
theorem laidOut : laidOutB Try.prog = true := by kernel_rfl

open Go.ChangeShapes Go.WideShapes Go.ChangeAt Go.RowKit IntS Pol Dt Flat Irk
open Ir (Opn)
set_option linter.unusedSimpArgs false
set_option linter.unusedVariables false
theorem same_int (z : Int) : (z != z) = false := by simp
theorem same_bool (z : Bool) : (z != z) = false := by simp
theorem boxL (w : World) (o : Obj) : Below w.heap.size w (w.alloc o) := (Below.refl _ _).alloc (Nat.le_refl _) _

set_option maxRecDepth 8000 in
set_option maxHeartbeats 16000000 in
theorem walk (a0 : Option Addr) (len0 cap0 : Nat) (a1 : Int) (w1 : (Lit.int .i64 a1).wf = true) (w : World) (w0 : Shape.Holds Try.prog w 11 22 [.slice a0 len0 cap0])  :
    Calls Try.prog 3 #[.slice a0 len0 cap0, .int .i64 a1] w fun e w' => e = .returned (.bool true) ∧ Below w.heap.size w w' := by
  obtain ⟨vv0, l0, ee0, r0⟩ := cacK_hold w0
  obtain rfl : vv0 = .slice a0 len0 cap0 := by cases ee0; rfl
  have hl0 : len0 = l0.length := by obtain ⟨_, _, e, _⟩ := LRd.form (r0); injection e
  subst hl0
  have RM0 : Hid (cacK.rd w (.slice a0 l0.length cap0) l0) := r0
  clear w0 ee0 r0
  obtain ⟨OUT, eO⟩ : ∃ z, idx (fun x : CT => x.2.1 == a1) l0 0 = z := ⟨_, rfl⟩
  have NX0 : Hid (cacK.sz l0 ≤ 1048576 → cacK.nx l0 ≤ 20000000) := cacK_nx l0
  have EO := hide eO
  clear eO
  have BW : Hid (Below w.heap.size w w) := Below.refl _ _
  go_enter Try.func3, Try.ntmps3
  go_wp2_with fail
  refine (szCacEntryS l0 _ 1048576 _ (cacK.rb RM0.out BW.out) (by omega) (by omega)).mono ?_
  rintro e u1 ⟨n0, rfl, nn0, hs0, hb⟩
  replace BW := hide (BW.out.trans (hb.mono BW.out.size))
  have L0 : Hid (w.heap.size ≤ u1.heap.size) := hb.size
  clear hb
  by_cases hn0 : n0 < 0
  · clear EO
    go_wp2
    go_ret
    exact ⟨rfl, BW.out⟩
  have hsq := hs0 (by omega)
  have HS0 : Hid (cacK.sz l0 ≤ 1048576) := show _ ≤ _ by omega
  have NL0 : Hid (0 ≤ n0 ∧ n0 ≤ 1048576) := show _ ∧ _ by omega
  clear hsq hs0 nn0
  replace NX0 := hide (NX0.out HS0.out)
  go_wp2_with fail
  refine (toCacEntryS l0 _ _ (cacK.rb RM0.out BW.out) HS0.out).mono ?_
  rintro e u2 ⟨g0_, rfl, M, hb⟩
  have T1 := hide M
  clear M
  replace BW := hide (BW.out.trans (hb.mono BW.out.size))
  have L1 : Hid (u1.heap.size ≤ u2.heap.size) := hb.size
  clear hb
  go_wp2_with fail
  refine (specCacFind l0 a1 _ _ (cacK.od T1.out) HS0.out).mono ?_
  rintro e u3 ⟨rfl, hb⟩
  rw [EO.out]
  clear T1
  replace BW := hide (BW.out.trans (hb.mono BW.out.size))
  have L2 : Hid (u2.heap.size ≤ u3.heap.size) := hb.size
  clear hb
  go_wp2_with fail
  refine (toCacEntryS l0 _ _ (cacK.rb RM0.out BW.out) HS0.out).mono ?_
  rintro e u4 ⟨x0_, rfl, M, hb⟩
  have X0 := hide M
  clear M
  replace BW := hide (BW.out.trans (hb.mono BW.out.size))
  have L3 : Hid (u3.heap.size ≤ u4.heap.size) := hb.size
  clear hb
  go_wp2_with fail
  refine (implCacFind l0 a1 _ _ (cacK.od X0.out) (cacK_small HS0.out)).mono ?_
  rintro e u5 ⟨rfl, hb⟩
  rw [EO.out]
  replace X0 := hide (cacK.ob X0.out hb)
  replace BW := hide (BW.out.trans (hb.mono BW.out.size))
  have L4 : Hid (u4.heap.size ≤ u5.heap.size) := hb.size
  clear hb
  have nb := same_int OUT
  go_wp2_with fail
  refine (toCacEntryS l0 _ _ (cacK.rb RM0.out BW.out) HS0.out).mono ?_
  rintro e u6 ⟨e0_, rfl, M, hb⟩
  have T3 := hide M
  clear M
  replace X0 := hide (cacK.ob X0.out hb)
  replace BW := hide (BW.out.trans (hb.mono BW.out.size))
  have L5 : Hid (u5.heap.size ≤ u6.heap.size) := hb.size
  clear hb
  go_wp2_with fail
  refine (eqCacEntryS l0 _ _ _ (cacK.od X0.out) (cacK.od T3.out)).mono ?_
  rintro e u7 ⟨rfl, hb⟩
  clear T3
  replace X0 := hide (cacK.ob X0.out hb)
  replace BW := hide (BW.out.trans (hb.mono BW.out.size))
  have L6 : Hid (u6.heap.size ≤ u7.heap.size) := hb.size
  clear hb
  clear X0
  go_wp2
  go_ret
  exact ⟨rfl, BW.out⟩

set_option maxRecDepth 100000 in
theorem lifted (os : Os) (started : os.Started) (H : Type) (enc : TypeId × Value → H) :
    ReturnsInHanded {} Try.checked os 3 .any (Rows.fnExactCacFindSpec.pre6 enc Try.prog Try.f3 Rows.fnExactCacFindRow.domain false) (Rows.fnExactCacFindSpec.post enc Try.prog Try.f3 false true false false) := by
  refine returnsInHanded_of_change (C := Try.checked) own started (by kernel_rfl) Try.func3
    (ChangeSpec.witness6 (enc := enc) (C := Try.checked) false ⟨#[], #[.slice none 0 0, .int .i64 0], []⟩ 8 (by kernel_rfl) (by kernel_rfl) (by kernel_rfl) (by kernel_rfl)) ?_
  intro W base args ds gs before hval0 hW hcnd hsz0
  have hval : ∀ (j : Nat) t v, Try.f3.params[j]? = some t → args[j]? = some v → Value.okWide Try.prog W .any base t v := hval0
  have hW' := hW
  obtain ⟨p, q, hA0, hV, rfl, hfz, hnd⟩ := hW
  have hA : DataW.TrodAll enc Try.prog W 0 (fun _ => true) true Try.f3.params.toList args.toList ds p := hA0
  rw [Try.params3] at hA hval
  obtain ⟨v0, vs0, d0, ds0, p0, q0, hargs, rfl, rfl, h0, r0⟩ := trodAll_cons hA
  obtain ⟨v1, vs1, d1, ds1, p1, q1, rfl, rfl, rfl, h1, r1⟩ := trodAll_cons r0
  obtain ⟨rfl, rfl, rfl⟩ := trodAll_nil r1
  obtain rfl : args = #[v0, v1] := by cases args; simp_all
  obtain ⟨rfl, rfl⟩ := trodVars_none hV
  have k0 := h0
  have lt0 : ∀ x ∈ p0, x.block < W.heap.size := by obtain ⟨m, hm⟩ := k0; exact DataW.trod_lt m _ _ _ hm
  obtain ⟨a0, len0, cap0, rfl⟩ := okWide_slice Try.underlying22 (hval 0 22 v0 rfl rfl)
  have w0 : Shape.Holds Try.prog W 11 22 [.slice a0 len0 cap0] := Shape.opened 11 h0
  have k1 := h1
  have lt1 : ∀ x ∈ p1, x.block < W.heap.size := by obtain ⟨m, hm⟩ := k1; exact DataW.trod_lt m _ _ _ hm
  obtain ⟨a1, rfl, rfl, rfl, w1⟩ := open_int Try.underlying3 (hval 1 3 v1 rfl rfl) h1
  clear hA0 hval0
  refine (walk a0 len0 cap0 a1 w1 W w0).mono fun e W' ⟨he, hnx⟩ => ?_
  subst he
  exact ⟨_, rfl, _, _, _, [], _, [], hW', trodAll_cons_mk (shut_bool Try.underlying4 _) trodAll_mk0, (trodAll_cons_mk (Below.trod laidOut (by kernel_rfl) (of_decide_eq_true (by kernel_rfl)) k0 hnx lt0) (trodAll_cons_mk (Below.trod laidOut (by kernel_rfl) (of_decide_eq_true (by kernel_rfl)) k1 hnx lt1) trodAll_mk0)), rfl, hnx.frame _, fun h => by cases h⟩

theorem over : Rows.fnExactCacFindRow.holds Try.pinned (OpenSpec.ofChange Rows.fnExactCacFindSpec) :=
  OpenClaim.holds_of_wide 3 Try.f3 rfl rfl rfl rfl rfl rfl rfl ⟨rfl, rfl, rfl, rfl, rfl⟩ rfl rfl rfl rfl rfl (by kernel_rfl) Try.func3 (by kernel_rfl)
    (of_decide_eq_true (by kernel_rfl)) (by unfold Func.isWrapper; first | (rw [if_pos (by decide +kernel)]; kernel_rfl) | (rw [if_neg (by decide +kernel)]; exact ⟨rfl, rfl⟩))
    (fun os started H enc _ => lifted os started H enc)

theorem proved : Rows.FnExactCacFindSaid := over
#print axioms proved
end Go.Proofs.Ythlpndligadnjaa.fnExactCacFind
