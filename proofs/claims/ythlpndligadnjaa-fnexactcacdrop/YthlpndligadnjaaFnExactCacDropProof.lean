/-
  At every list of what is kept and all words the program's CacDrop answers as the specification's CacDrop does, field by field, writes into no argument, and its answer owns its memory, behind another call too (the law FnExactCacDrop returns true); no condition.
  The frame (lifted, over, proved) is written by my own program after the guide's worked texts; the walk and the lemmas ahead of it are mine.
-/
import Derived.Test.YthlpndligadnjaaRows
import Derived.Test.YthlpndligadnjaaShape
import Derived.Test.YthlpndligadnjaaDtCa
import Derived.Test.YthlpndligadnjaaDtCb
import Derived.Test.YthlpndligadnjaaDtCc
import Derived.Test.YthlpndligadnjaaDtCd
import Derived.Test.YthlpndligadnjaaCaN
import Derived.Test.YthlpndligadnjaaCaJ
import Derived.Test.YthlpndligadnjaaCaK
import Derived.WalkKit
import Derived.ProofKit
import Derived.OpenShut
import Derived.ShutString
import Derived.ChangeOld
import Derived.Below
import Derived.SizedLaws
namespace Go.Proofs.Ythlpndligadnjaa.fnExactCacDrop
open Go.ChangeShapes Go.WideShapes Go.ChangeAt Go.RowKit
open Go.ChangeMaps (open_string shut_string)
set_option linter.unusedVariables false

theorem own : ownKnob Try.prog.godebug = none := by kernel_rfl
theorem laidOut : laidOutB Try.prog = true := by kernel_rfl

open Go.ChangeShapes Go.WideShapes Go.ChangeAt Go.RowKit IntS Pol Dt Flat Irk
open Ir (Opn)
set_option linter.unusedSimpArgs false
set_option linter.unusedVariables false
theorem same_int (z : Int) : (z != z) = false := by simp
theorem same_bool (z : Bool) : (z != z) = false := by simp
theorem boxL (w : World) (o : Obj) : Below w.heap.size w (w.alloc o) := (Below.refl _ _).alloc (Nat.le_refl _) _

set_option maxRecDepth 8000 in
set_option maxHeartbeats 16000000 in
theorem walk (a0 : Option Addr) (len0 cap0 : Nat) (a1 : Option Addr) (len1 cap1 : Nat) (w : World) (w0 : Shape.Holds Try.prog w 11 22 [.slice a0 len0 cap0]) (w1 : Shape.Holds Try.prog w 11 29 [.slice a1 len1 cap1])  :
    Calls Try.prog 5 #[.slice a0 len0 cap0, .slice a1 len1 cap1] w fun e w' => e = .returned (.bool true) ∧ Below w.heap.size w w' := by
  obtain ⟨vv0, l0, ee0, r0⟩ := cacKb_hold w0
  obtain rfl : vv0 = .slice a0 len0 cap0 := by cases ee0; rfl
  have hl0 : len0 = l0.length := by obtain ⟨_, _, e, _⟩ := LRd.form ((bd_rd r0).1); injection e
  subst hl0
  have BD0 := hide ((bd_rd r0).2)
  have RM0 : Hid (cacK.rd w (.slice a0 l0.length cap0) l0) := (bd_rd r0).1
  clear w0 ee0 r0
  obtain ⟨vv1, l1, ee1, r1⟩ := intsK_hold (n := 9) w1
  obtain rfl : vv1 = .slice a1 len1 cap1 := by cases ee1; rfl
  have hl1 : len1 = l1.length := by obtain ⟨_, _, e, _⟩ := LRd.form (r1); injection e
  subst hl1
  have RM1 : Hid (intsK.rd w (.slice a1 l1.length cap1) l1) := r1
  clear w1 ee1 r1
  obtain ⟨OUT, eO⟩ : ∃ z, dropC l0 l1 = z := ⟨_, rfl⟩
  have NX0 : Hid (cacK.sz l0 ≤ 1048576 → cacK.nx l0 ≤ 20000000) := cacK_nx l0
  have NX1 : Hid (intsK.sz l1 ≤ 1048576 → intsK.nx l1 ≤ 20000000) := ints_nx2 l1
  have NXO : Hid (cacK.sz l0 ≤ 1048576 → intsK.sz l1 ≤ 1048576 → cacK.nx OUT ≤ 100000000) := eO ▸ dropC_nx l0 l1
  have EO := hide eO
  clear eO
  have BW : Hid (Below w.heap.size w w) := Below.refl _ _
  go_enter Try.func5, Try.ntmps5
  by_cases hx1 : 1048576 < l1.length
  · have hi1 : (1048576 : Int) < (l1.length : Nat) := by omega
    clear EO
    go_wp2
    go_ret
    exact ⟨rfl, BW.out⟩
  have hi1 : ¬ (1048576 : Int) < (l1.length : Nat) := by omega
  have HS1 : Hid (intsK.sz l1 ≤ 1048576) := show _ ≤ _ by rw [ints_sz]; omega
  go_wp2_with fail
  refine (szCacEntryS l0 _ 1048576 _ (cacK.rb RM0.out BW.out) (by omega) (by omega)).mono ?_
  rintro e u1 ⟨n0, rfl, nn0, hs0, hb⟩
  replace BW := hide (BW.out.trans (hb.mono BW.out.size))
  have L0 : Hid (w.heap.size ≤ u1.heap.size) := hb.size
  clear hb
  by_cases hn0 : n0 < 0
  · clear EO
    go_wp2
    go_ret
    exact ⟨rfl, BW.out⟩
  have hsq := hs0 (by omega)
  have HS0 : Hid (cacK.sz l0 ≤ 1048576) := show _ ≤ _ by omega
  have NL0 : Hid (0 ≤ n0 ∧ n0 ≤ 1048576) := show _ ∧ _ by omega
  clear hsq hs0 nn0
  replace NX0 := hide (NX0.out HS0.out)
  replace NX1 := hide (NX1.out HS1.out)
  replace NXO := hide (NXO.out HS0.out HS1.out)
  go_wp2_with fail
  refine (toCacEntryS l0 _ _ (cacK.rb RM0.out BW.out) HS0.out).mono ?_
  rintro e u2 ⟨g0_, rfl, M, hb⟩
  have T1 := hide M
  clear M
  replace BW := hide (BW.out.trans (hb.mono BW.out.size))
  have L1 : Hid (u1.heap.size ≤ u2.heap.size) := hb.size
  clear hb
  go_wp2_with fail
  refine (Dt.toIntS l1 _ _ (intsK.rb RM1.out BW.out) HS1.out).mono ?_
  rintro e u3 ⟨g1_, rfl, M, hb⟩
  have T2 := hide M
  clear M
  replace T1 := hide (cacK.ob T1.out hb)
  replace BW := hide (BW.out.trans (hb.mono BW.out.size))
  have L2 : Hid (u2.heap.size ≤ u3.heap.size) := hb.size
  clear hb
  go_wp2_with fail
  refine (specCacDrop l0 l1 _ _ _ (cacK.od T1.out) HS0.out (intsK.od T2.out) BD0.out).mono ?_
  rintro e u4 ⟨oq3, oc3, rfl, OW, hb⟩
  rw [EO.out] at OW ⊢
  have W0 := hide OW
  clear OW
  clear T1
  clear T2
  replace BW := hide (BW.out.trans (hb.mono BW.out.size))
  have L3 : Hid (u3.heap.size ≤ u4.heap.size) := hb.size
  clear hb
  go_wp2_with fail
  refine (toCacEntryS l0 _ _ (cacK.rb RM0.out BW.out) HS0.out).mono ?_
  rintro e u5 ⟨x0_, rfl, M, hb⟩
  have X0 := hide M
  clear M
  replace W0 := hide (cacK.ob W0.out hb)
  replace BW := hide (BW.out.trans (hb.mono BW.out.size))
  have L4 : Hid (u4.heap.size ≤ u5.heap.size) := hb.size
  clear hb
  go_wp2_with fail
  refine (Dt.toIntS l1 _ _ (intsK.rb RM1.out BW.out) HS1.out).mono ?_
  rintro e u6 ⟨x1_, rfl, M, hb⟩
  have X1 := hide M
  clear M
  replace W0 := hide (cacK.ob W0.out hb)
  replace X0 := hide (cacK.ob X0.out hb)
  replace BW := hide (BW.out.trans (hb.mono BW.out.size))
  have L5 : Hid (u5.heap.size ≤ u6.heap.size) := hb.size
  clear hb
  go_wp2_with fail
  refine (implCacDrop l0 l1 _ _ _ (cacK.od X0.out) HS0.out (intsK.od X1.out)).mono ?_
  rintro e u7 ⟨gq, gc, rfl, OW, hb⟩
  rw [EO.out] at OW ⊢
  have G0 := hide OW
  clear OW
  replace W0 := hide (cacK.ob W0.out hb)
  replace X0 := hide (cacK.ob X0.out hb)
  replace X1 := hide (intsK.ob X1.out hb)
  replace BW := hide (BW.out.trans (hb.mono BW.out.size))
  have L6 : Hid (u6.heap.size ≤ u7.heap.size) := hb.size
  clear hb
  go_wp2_with fail
  refine (eqCacEntryS OUT _ _ _ (cacK.od G0.out) (cacK.od W0.out)).mono ?_
  rintro e u8 ⟨rfl, hb⟩
  replace W0 := hide (cacK.ob W0.out hb)
  replace X0 := hide (cacK.ob X0.out hb)
  replace X1 := hide (intsK.ob X1.out hb)
  replace G0 := hide (cacK.ob G0.out hb)
  replace BW := hide (BW.out.trans (hb.mono BW.out.size))
  have L7 : Hid (u7.heap.size ≤ u8.heap.size) := hb.size
  clear hb
  go_wp2_with fail
  refine (toCacEntryS l0 _ _ (cacK.rb RM0.out BW.out) HS0.out).mono ?_
  rintro e u9 ⟨e0_, rfl, M, hb⟩
  have T5 := hide M
  clear M
  replace W0 := hide (cacK.ob W0.out hb)
  replace X0 := hide (cacK.ob X0.out hb)
  replace X1 := hide (intsK.ob X1.out hb)
  replace G0 := hide (cacK.ob G0.out hb)
  replace BW := hide (BW.out.trans (hb.mono BW.out.size))
  have L8 : Hid (u8.heap.size ≤ u9.heap.size) := hb.size
  clear hb
  go_wp2_with fail
  refine (eqCacEntryS l0 _ _ _ (cacK.od X0.out) (cacK.od T5.out)).mono ?_
  rintro e u10 ⟨rfl, hb⟩
  clear T5
  replace W0 := hide (cacK.ob W0.out hb)
  replace X0 := hide (cacK.ob X0.out hb)
  replace X1 := hide (intsK.ob X1.out hb)
  replace G0 := hide (cacK.ob G0.out hb)
  replace BW := hide (BW.out.trans (hb.mono BW.out.size))
  have L9 : Hid (u9.heap.size ≤ u10.heap.size) := hb.size
  clear hb
  go_wp2_with fail
  refine (Dt.toIntS l1 _ _ (intsK.rb RM1.out BW.out) HS1.out).mono ?_
  rintro e u11 ⟨e1_, rfl, M, hb⟩
  have T6 := hide M
  clear M
  replace W0 := hide (cacK.ob W0.out hb)
  replace X0 := hide (cacK.ob X0.out hb)
  replace X1 := hide (intsK.ob X1.out hb)
  replace G0 := hide (cacK.ob G0.out hb)
  replace BW := hide (BW.out.trans (hb.mono BW.out.size))
  have L10 : Hid (u10.heap.size ≤ u11.heap.size) := hb.size
  clear hb
  go_wp2_with fail
  refine (Dt.eqIntS l1 _ _ _ (intsK.od X1.out) (intsK.od T6.out)).mono ?_
  rintro e u12 ⟨rfl, hb⟩
  clear T6
  replace W0 := hide (cacK.ob W0.out hb)
  replace X0 := hide (cacK.ob X0.out hb)
  replace X1 := hide (intsK.ob X1.out hb)
  replace G0 := hide (cacK.ob G0.out hb)
  replace BW := hide (BW.out.trans (hb.mono BW.out.size))
  have L11 : Hid (u11.heap.size ≤ u12.heap.size) := hb.size
  clear hb
  have NXo := NXO.out
  have NXi0 := NX0.out
  have NXi1 := NX1.out
  go_wp2_with fail
  refine (markCacEntryS l0 1 _ _ _ X0.out (by omega) (by omega)).mono ?_
  rintro e u13 ⟨rfl, XM, KP⟩
  obtain ⟨k0, ek0⟩ : ∃ z : Int, 1 + ((cacK.nx l0 : Nat) : Int) = z := ⟨_, rfl⟩
  rw [ek0]
  have k00 : 0 ≤ k0 ∧ k0 ≤ 1 + 40000000 * 1 := by omega
  have Ek0 := hide ek0
  clear ek0
  replace W0 := hide (cacK.ok W0.out KP (fun b hx hb => by have := hb.1; have := hb.2; have := hx.1; have := hx.2; have := L0.out; have := L1.out; have := L2.out; have := L3.out; have := L4.out; have := L5.out; have := L6.out; have := L7.out; have := L8.out; have := L9.out; have := L10.out; have := L11.out; omega))
  replace X1 := hide (intsK.ok X1.out KP (fun b hx hb => by have := hb.1; have := hb.2; have := hx.1; have := hx.2; have := L0.out; have := L1.out; have := L2.out; have := L3.out; have := L4.out; have := L5.out; have := L6.out; have := L7.out; have := L8.out; have := L9.out; have := L10.out; have := L11.out; omega))
  replace G0 := hide (cacK.ok G0.out KP (fun b hx hb => by have := hb.1; have := hb.2; have := hx.1; have := hx.2; have := L0.out; have := L1.out; have := L2.out; have := L3.out; have := L4.out; have := L5.out; have := L6.out; have := L7.out; have := L8.out; have := L9.out; have := L10.out; have := L11.out; omega))
  replace BW := hide (BW.out.trans (KP.below BW.out.size (fun k hk hb => by have := hb.1; have := L0.out; have := L1.out; have := L2.out; have := L3.out; have := L4.out; have := L5.out; have := L6.out; have := L7.out; have := L8.out; have := L9.out; have := L10.out; have := L11.out; omega)))
  have L12 : Hid (u12.heap.size ≤ u13.heap.size) := KP.size
  clear KP
  clear X0 XM
  go_wp2_with fail
  refine (Dt.markIntS l1 k0 _ _ _ X1.out (by omega) (by omega)).mono ?_
  rintro e u14 ⟨rfl, XM, KP⟩
  obtain ⟨k1, ek1⟩ : ∃ z : Int, k0 + ((intsK.nx l1 : Nat) : Int) = z := ⟨_, rfl⟩
  rw [ek1]
  have k10 : 0 ≤ k1 ∧ k1 ≤ 1 + 40000000 * 2 := by omega
  have Ek1 := hide ek1
  clear ek1
  replace W0 := hide (cacK.ok W0.out KP (fun b hx hb => by have := hb.1; have := hb.2; have := hx.1; have := hx.2; have := L0.out; have := L1.out; have := L2.out; have := L3.out; have := L4.out; have := L5.out; have := L6.out; have := L7.out; have := L8.out; have := L9.out; have := L10.out; have := L11.out; have := L12.out; omega))
  replace G0 := hide (cacK.ok G0.out KP (fun b hx hb => by have := hb.1; have := hb.2; have := hx.1; have := hx.2; have := L0.out; have := L1.out; have := L2.out; have := L3.out; have := L4.out; have := L5.out; have := L6.out; have := L7.out; have := L8.out; have := L9.out; have := L10.out; have := L11.out; have := L12.out; omega))
  replace BW := hide (BW.out.trans (KP.below BW.out.size (fun k hk hb => by have := hb.1; have := L0.out; have := L1.out; have := L2.out; have := L3.out; have := L4.out; have := L5.out; have := L6.out; have := L7.out; have := L8.out; have := L9.out; have := L10.out; have := L11.out; have := L12.out; omega)))
  have L13 : Hid (u13.heap.size ≤ u14.heap.size) := KP.size
  clear KP
  clear X1 XM
  have kx0 : ¬ k1 < 0 := by omega
  go_wp2_with fail
  refine (eqCacEntryS OUT _ _ _ (cacK.od G0.out) (cacK.od W0.out)).mono ?_
  rintro e u15 ⟨rfl, hb⟩
  replace W0 := hide (cacK.ob W0.out hb)
  replace G0 := hide (cacK.ob G0.out hb)
  replace BW := hide (BW.out.trans (hb.mono BW.out.size))
  have L14 : Hid (u14.heap.size ≤ u15.heap.size) := hb.size
  clear hb
  go_wp2_with fail
  refine (markCacEntryS OUT 1 _ _ _ G0.out (by omega) (by omega)).mono ?_
  rintro e u16 ⟨rfl, GM, KP⟩
  obtain ⟨kg, ekg⟩ : ∃ z : Int, 1 + ((cacK.nx OUT : Nat) : Int) = z := ⟨_, rfl⟩
  rw [ekg]
  have kg0 : ¬ kg < 0 := by omega
  have kg1 := same_int kg
  have EG := hide ekg
  clear ekg
  replace W0 := hide (cacK.ok W0.out KP (fun b hx hb => by have := hb.1; have := hb.2; have := hx.1; have := hx.2; have := L0.out; have := L1.out; have := L2.out; have := L3.out; have := L4.out; have := L5.out; have := L6.out; have := L7.out; have := L8.out; have := L9.out; have := L10.out; have := L11.out; have := L12.out; have := L13.out; have := L14.out; omega))
  replace BW := hide (BW.out.trans (KP.below BW.out.size (fun k hk hb => by have := hb.1; have := L0.out; have := L1.out; have := L2.out; have := L3.out; have := L4.out; have := L5.out; have := L6.out; have := L7.out; have := L8.out; have := L9.out; have := L10.out; have := L11.out; have := L12.out; have := L13.out; have := L14.out; omega)))
  have L15 : Hid (u15.heap.size ≤ u16.heap.size) := KP.size
  clear KP
  have GM2 := hide GM
  clear GM G0
  go_wp2_with fail
  refine (heldCacEntryS OUT 1 _ _ (cacK.od GM2.out) (by omega) (by omega)).mono ?_
  rintro e u17 ⟨rfl, hb⟩
  rw [EG.out]
  replace W0 := hide (cacK.ob W0.out hb)
  replace GM2 := hide (cacK.ob GM2.out hb)
  replace BW := hide (BW.out.trans (hb.mono BW.out.size))
  have L16 : Hid (u16.heap.size ≤ u17.heap.size) := hb.size
  clear hb
  go_wp2_with fail
  refine (toCacEntryS l0 _ _ (cacK.rb RM0.out BW.out) HS0.out).mono ?_
  rintro e u18 ⟨g6_, rfl, M, hb⟩
  have T7 := hide M
  clear M
  replace W0 := hide (cacK.ob W0.out hb)
  replace GM2 := hide (cacK.ob GM2.out hb)
  replace BW := hide (BW.out.trans (hb.mono BW.out.size))
  have L17 : Hid (u17.heap.size ≤ u18.heap.size) := hb.size
  clear hb
  go_wp2_with fail
  refine (Dt.toIntS l1 _ _ (intsK.rb RM1.out BW.out) HS1.out).mono ?_
  rintro e u19 ⟨g7_, rfl, M, hb⟩
  have T8 := hide M
  clear M
  replace W0 := hide (cacK.ob W0.out hb)
  replace GM2 := hide (cacK.ob GM2.out hb)
  replace T7 := hide (cacK.ob T7.out hb)
  replace BW := hide (BW.out.trans (hb.mono BW.out.size))
  have L18 : Hid (u18.heap.size ≤ u19.heap.size) := hb.size
  clear hb
  go_wp2_with fail
  refine (implCacDrop l0 l1 _ _ _ (cacK.od T7.out) HS0.out (intsK.od T8.out)).mono ?_
  rintro e u20 ⟨oq19, oc19, rfl, OW, hb⟩
  rw [EO.out] at OW ⊢
  have H0 := hide OW
  clear OW
  clear T7
  clear T8
  replace W0 := hide (cacK.ob W0.out hb)
  replace GM2 := hide (cacK.ob GM2.out hb)
  replace BW := hide (BW.out.trans (hb.mono BW.out.size))
  have L19 : Hid (u19.heap.size ≤ u20.heap.size) := hb.size
  clear hb
  go_wp2_with fail
  refine (eqCacEntryS OUT _ _ _ (cacK.od H0.out) (cacK.od W0.out)).mono ?_
  rintro e u21 ⟨rfl, hb⟩
  replace W0 := hide (cacK.ob W0.out hb)
  replace GM2 := hide (cacK.ob GM2.out hb)
  replace H0 := hide (cacK.ob H0.out hb)
  replace BW := hide (BW.out.trans (hb.mono BW.out.size))
  have L20 : Hid (u20.heap.size ≤ u21.heap.size) := hb.size
  clear hb
  go_wp2_with fail
  refine (heldCacEntryS OUT 1 _ _ (cacK.od GM2.out) (by omega) (by omega)).mono ?_
  rintro e u22 ⟨rfl, hb⟩
  rw [EG.out]
  replace W0 := hide (cacK.ob W0.out hb)
  replace GM2 := hide (cacK.ob GM2.out hb)
  replace H0 := hide (cacK.ob H0.out hb)
  replace BW := hide (BW.out.trans (hb.mono BW.out.size))
  have L21 : Hid (u21.heap.size ≤ u22.heap.size) := hb.size
  clear hb
  clear W0 GM2 H0
  go_wp2
  go_ret
  exact ⟨rfl, BW.out⟩

set_option maxRecDepth 100000 in
theorem lifted (os : Os) (started : os.Started) (H : Type) (enc : TypeId × Value → H) :
    ReturnsInHanded {} Try.checked os 5 .any (Rows.fnExactCacDropSpec.pre6 enc Try.prog Try.f5 Rows.fnExactCacDropRow.domain false) (Rows.fnExactCacDropSpec.post enc Try.prog Try.f5 false true false false) := by
  refine returnsInHanded_of_change (C := Try.checked) own started (by kernel_rfl) Try.func5
    (ChangeSpec.witness6 (enc := enc) (C := Try.checked) false ⟨#[], #[.slice none 0 0, .slice none 0 0], []⟩ 8 (by kernel_rfl) (by kernel_rfl) (by kernel_rfl) (by kernel_rfl)) ?_
  intro W base args ds gs before hval0 hW hcnd hsz0
  have hval : ∀ (j : Nat) t v, Try.f5.params[j]? = some t → args[j]? = some v → Value.okWide Try.prog W .any base t v := hval0
  have hW' := hW
  obtain ⟨p, q, hA0, hV, rfl, hfz, hnd⟩ := hW
  have hA : DataW.TrodAll enc Try.prog W 0 (fun _ => true) true Try.f5.params.toList args.toList ds p := hA0
  rw [Try.params5] at hA hval
  obtain ⟨v0, vs0, d0, ds0, p0, q0, hargs, rfl, rfl, h0, r0⟩ := trodAll_cons hA
  obtain ⟨v1, vs1, d1, ds1, p1, q1, rfl, rfl, rfl, h1, r1⟩ := trodAll_cons r0
  obtain ⟨rfl, rfl, rfl⟩ := trodAll_nil r1
  obtain rfl : args = #[v0, v1] := by cases args; simp_all
  obtain ⟨rfl, rfl⟩ := trodVars_none hV
  have k0 := h0
  have lt0 : ∀ x ∈ p0, x.block < W.heap.size := by obtain ⟨m, hm⟩ := k0; exact DataW.trod_lt m _ _ _ hm
  obtain ⟨a0, len0, cap0, rfl⟩ := okWide_slice Try.underlying22 (hval 0 22 v0 rfl rfl)
  have w0 : Shape.Holds Try.prog W 11 22 [.slice a0 len0 cap0] := Shape.opened 11 h0
  have k1 := h1
  have lt1 : ∀ x ∈ p1, x.block < W.heap.size := by obtain ⟨m, hm⟩ := k1; exact DataW.trod_lt m _ _ _ hm
  obtain ⟨a1, len1, cap1, rfl⟩ := okWide_slice Try.underlying29 (hval 1 29 v1 rfl rfl)
  have w1 : Shape.Holds Try.prog W 11 29 [.slice a1 len1 cap1] := Shape.opened 11 h1
  clear hA0 hval0
  refine (walk a0 len0 cap0 a1 len1 cap1 W w0 w1).mono fun e W' ⟨he, hnx⟩ => ?_
  subst he
  exact ⟨_, rfl, _, _, _, [], _, [], hW', trodAll_cons_mk (shut_bool Try.underlying4 _) trodAll_mk0, (trodAll_cons_mk (Below.trod laidOut (by kernel_rfl) (of_decide_eq_true (by kernel_rfl)) k0 hnx lt0) (trodAll_cons_mk (Below.trod laidOut (by kernel_rfl) (of_decide_eq_true (by kernel_rfl)) k1 hnx lt1) trodAll_mk0)), rfl, hnx.frame _, fun h => by cases h⟩

theorem over : Rows.fnExactCacDropRow.holds Try.pinned (OpenSpec.ofChange Rows.fnExactCacDropSpec) :=
  OpenClaim.holds_of_wide 5 Try.f5 rfl rfl rfl rfl rfl rfl rfl ⟨rfl, rfl, rfl, rfl, rfl⟩ rfl rfl rfl rfl rfl (by kernel_rfl) Try.func5 (by kernel_rfl)
    (of_decide_eq_true (by kernel_rfl)) (by unfold Func.isWrapper; first | (rw [if_pos (by decide +kernel)]; kernel_rfl) | (rw [if_neg (by decide +kernel)]; exact ⟨rfl, rfl⟩))
    (fun os started H enc _ => lifted os started H enc)

theorem proved : Rows.FnExactCacDropSaid := over
#print axioms proved
end Go.Proofs.Ythlpndligadnjaa.fnExactCacDrop
