/-
  At every int the program's PolConst answers as the specification's PolConst does, every field, and its answer owns its memory (the law FnExactPolConst returns true); no condition.
  The frame (lifted, over, proved) is written by my own program after the guide's worked texts; the walk and the lemmas ahead of it are mine.
-/
import Derived.Test.YtkjfkecbdcjknaaRows
import Derived.Test.YtkjfkecbdcjknaaShape
import Derived.Test.YtkjfkecbdcjknaaPolP
import Derived.Test.YtkjfkecbdcjknaaPolQ
import Derived.WalkKit
import Derived.ProofKit
import Derived.OpenShut
import Derived.ShutString
import Derived.ChangeOld
import Derived.Below
import Derived.SizedLaws
namespace Go.Proofs.Ytkjfkecbdcjknaa.fnExactPolConst
open Go.ChangeShapes Go.WideShapes Go.ChangeAt Go.RowKit
open Go.ChangeMaps (open_string shut_string)
set_option linter.unusedVariables false

theorem own : ownKnob Try.prog.godebug = none := by kernel_rfl
theorem laidOut : laidOutB Try.prog = true := by kernel_rfl

open IntS Pol
theorem small_p (n : Int) : (constP n).length + tot (constP n) ≤ 1000000000 := by unfold constP; split <;> simp [tot]

set_option maxRecDepth 8000 in
set_option maxHeartbeats 8000000 in
theorem walk (a0 : Int) (w0 : (Lit.int .i64 a0).wf = true) (w : World)   :
    Calls Try.prog 4 #[.int .i64 a0] w fun e w' => e = .returned (.bool true) ∧ Below w.heap.size w w' := by
  clear w0
  obtain ⟨ps, ep⟩ : ∃ ps, constP a0 = ps := ⟨_, rfl⟩
  have SM : Hid (ps.length + tot ps ≤ 1000000000) := by rw [← ep]; exact small_p a0
  have EP := hide ep
  clear ep
  obtain ⟨tt, et⟩ : ∃ tt, 1 + offs ps ps.length = tt := ⟨_, rfl⟩
  have tp : 0 ≤ tt := by rw [← et]; unfold offs; omega
  have ET := hide et
  clear et
  have pt : ¬ tt < 0 := by omega
  have pn : (tt != tt) = false := by simp
  have BW := hide (Below.refl w.heap.size w)
  go_enter Try.func4, Try.ntmps4
  go_wp2_with fail
  refine (specConst a0 _).mono ?_
  rintro e u1 ⟨pa, pl, pc, rfl, MW, hb⟩
  rw [EP.out] at MW
  have MW' := hide MW
  clear MW
  replace BW := hide (BW.out.trans (hb.mono BW.out.size))
  have LW : Hid (w.heap.size ≤ u1.heap.size) := BW.out.size
  clear hb
  have bX : Below u1.heap.size u1 (u1.alloc (.cells #[.slice pa pl pc] 29)) := (Below.refl _ _).alloc (Nat.le_refl _) _
  have Y := hide (Rec.new u1 [.slice pa pl pc] 29)
  have szY : Hid ((u1.alloc (.cells #[.slice pa pl pc] 29)).heap.size = u1.heap.size + 1) := show _ = _ by simp
  replace BW := hide (BW.out.trans (bX.mono BW.out.size))
  replace MW' := hide (MW'.out.below bX)
  clear bX
  go_wp2_with fail
  refine (implConst a0 _).mono ?_
  rintro e u2 ⟨ga, gl, gc, rfl, MG, hb⟩
  rw [EP.out, szY.out] at MG
  have MG' := hide MG
  have lo2 : Hid (u1.heap.size + 1 ≤ u2.heap.size) := by have := hb.size; rw [szY.out] at this; exact this
  clear MG
  replace MW' := hide (MW'.out.below hb)
  replace Y := hide (Y.out.below hb)
  replace BW := hide (BW.out.trans (hb.mono BW.out.size))
  clear hb
  have bX : Below u2.heap.size u2 (u2.alloc (.cells #[.slice ga gl gc] 29)) := (Below.refl _ _).alloc (Nat.le_refl _) _
  have G := hide (Rec.new u2 [.slice ga gl gc] 29)
  have szG : Hid ((u2.alloc (.cells #[.slice ga gl gc] 29)).heap.size = u2.heap.size + 1) := show _ = _ by simp
  replace BW := hide (BW.out.trans (bX.mono BW.out.size))
  replace MW' := hide (MW'.out.below bX)
  replace Y := hide (Y.out.below bX)
  replace MG' := hide (MG'.out.below bX)
  clear bX
  obtain ⟨BG, RBG⟩ := MG'.out.read
  replace RBG := hide RBG
  obtain ⟨BY, RBY⟩ := MW'.out.read
  replace RBY := hide RBY
  have x0 := G.out.cell 0 _ rfl
  have y0 := Y.out.cell 0 _ rfl
  go_wp2_with fail
  refine (eqTrmPoly ps BG BY _ _ _ RBG.out RBY.out).mono ?_
  rintro e u3 ⟨rfl, hb⟩
  clear x0 y0 RBG RBY
  replace MW' := hide (MW'.out.below hb)
  replace Y := hide (Y.out.below hb)
  replace MG' := hide (MG'.out.below hb)
  replace G := hide (G.out.below hb)
  replace BW := hide (BW.out.trans (hb.mono BW.out.size))
  clear hb
  have x0 := G.out.cell 0 _ rfl
  go_wp2_with fail
  refine (markTrmPoly ps 1 _ _ _ _ MG'.out SM.out (by omega) (by omega)).mono ?_
  rintro e u4 ⟨rfl, MM, hk⟩
  rw [ET.out]
  clear x0 MG'
  have WW : Hid (w.heap.size ≤ u1.heap.size) := LW.out
  replace MW' := hide (MW'.out.keep hk (fun b h1 h2 h3 => by omega))
  replace Y := hide (Y.out.keep hk (by omega))
  replace G := hide (G.out.keep hk (by omega))
  replace BW := hide (BW.out.trans (hk.below BW.out.size (fun k h1 h2 => by have := WW.out; omega)))
  have MM' := hide MM
  clear hk MM
  obtain ⟨BM, RBM⟩ := MM'.out.read
  replace RBM := hide RBM
  have x0 := G.out.cell 0 _ rfl
  go_wp2_with fail
  refine (heldTrmPoly ps 1 BM _ _ RBM.out SM.out (by omega) (by omega)).mono ?_
  rintro e u5 ⟨rfl, hb⟩
  rw [ET.out]
  clear x0 RBM BM
  replace MW' := hide (MW'.out.below hb)
  replace Y := hide (Y.out.below hb)
  replace MM' := hide (MM'.out.below hb)
  replace G := hide (G.out.below hb)
  replace BW := hide (BW.out.trans (hb.mono BW.out.size))
  clear hb
  go_wp2_with fail
  refine (implConst a0 _).mono ?_
  rintro e u6 ⟨ha, hl, hc, rfl, MH, hb⟩
  rw [EP.out] at MH
  have MH' := hide MH
  clear MH
  replace MW' := hide (MW'.out.below hb)
  replace Y := hide (Y.out.below hb)
  replace MM' := hide (MM'.out.below hb)
  replace G := hide (G.out.below hb)
  replace BW := hide (BW.out.trans (hb.mono BW.out.size))
  clear hb
  have bX : Below u6.heap.size u6 (u6.alloc (.cells #[.slice ha hl hc] 29)) := (Below.refl _ _).alloc (Nat.le_refl _) _
  have H := hide (Rec.new u6 [.slice ha hl hc] 29)
  have szH : Hid ((u6.alloc (.cells #[.slice ha hl hc] 29)).heap.size = u6.heap.size + 1) := show _ = _ by simp
  replace BW := hide (BW.out.trans (bX.mono BW.out.size))
  replace MW' := hide (MW'.out.below bX)
  replace Y := hide (Y.out.below bX)
  replace MM' := hide (MM'.out.below bX)
  replace G := hide (G.out.below bX)
  replace MH' := hide (MH'.out.below bX)
  clear bX
  obtain ⟨BH, RBH⟩ := MH'.out.read
  replace RBH := hide RBH
  obtain ⟨BY, RBY⟩ := MW'.out.read
  replace RBY := hide RBY
  have x0 := H.out.cell 0 _ rfl
  have y0 := Y.out.cell 0 _ rfl
  go_wp2_with fail
  refine (eqTrmPoly ps BH BY _ _ _ RBH.out RBY.out).mono ?_
  rintro e u7 ⟨rfl, hb⟩
  clear x0 y0 RBH RBY MH' H MW' Y
  replace MM' := hide (MM'.out.below hb)
  replace G := hide (G.out.below hb)
  replace BW := hide (BW.out.trans (hb.mono BW.out.size))
  clear hb
  obtain ⟨BM, RBM⟩ := MM'.out.read
  replace RBM := hide RBM
  have x0 := G.out.cell 0 _ rfl
  go_wp2_with fail
  refine (heldTrmPoly ps 1 BM _ _ RBM.out SM.out (by omega) (by omega)).mono ?_
  rintro e u8 ⟨rfl, hb⟩
  rw [ET.out]
  clear x0 RBM BM
  clear MM' G
  replace BW := hide (BW.out.trans (hb.mono BW.out.size))
  clear hb
  go_wp2
  go_ret
  exact ⟨rfl, BW.out⟩

set_option maxRecDepth 100000 in
theorem lifted (os : Os) (started : os.Started) (H : Type) (enc : TypeId × Value → H) :
    ReturnsInHanded {} Try.checked os 4 .any (Rows.fnExactPolConstSpec.pre6 enc Try.prog Try.f4 Rows.fnExactPolConstRow.domain false) (Rows.fnExactPolConstSpec.post enc Try.prog Try.f4 false true false false) := by
  refine returnsInHanded_of_change (C := Try.checked) own started (by kernel_rfl) Try.func4
    (ChangeSpec.witness6 (enc := enc) (C := Try.checked) false ⟨#[], #[.int .i64 0], []⟩ 8 (by kernel_rfl) (by kernel_rfl) (by kernel_rfl) (by kernel_rfl)) ?_
  intro W base args ds gs before hval0 hW hcnd hsz0
  have hval : ∀ (j : Nat) t v, Try.f4.params[j]? = some t → args[j]? = some v → Value.okWide Try.prog W .any base t v := hval0
  have hW' := hW
  obtain ⟨p, q, hA0, hV, rfl, hfz, hnd⟩ := hW
  have hA : DataW.TrodAll enc Try.prog W 0 (fun _ => true) true Try.f4.params.toList args.toList ds p := hA0
  rw [Try.params4] at hA hval
  obtain ⟨v0, vs0, d0, ds0, p0, q0, hargs, rfl, rfl, h0, r0⟩ := trodAll_cons hA
  obtain ⟨rfl, rfl, rfl⟩ := trodAll_nil r0
  obtain rfl : args = #[v0] := by cases args; simp_all
  obtain ⟨rfl, rfl⟩ := trodVars_none hV
  have k0 := h0
  have lt0 : ∀ x ∈ p0, x.block < W.heap.size := by obtain ⟨m, hm⟩ := k0; exact DataW.trod_lt m _ _ _ hm
  obtain ⟨a0, rfl, rfl, rfl, w0⟩ := open_int Try.underlying3 (hval 0 3 v0 rfl rfl) h0
  clear hA0 hval0
  refine (walk a0 w0 W ).mono fun e W' ⟨he, hnx⟩ => ?_
  subst he
  exact ⟨_, rfl, _, _, _, [], _, [], hW', trodAll_cons_mk (shut_bool Try.underlying4 _) trodAll_mk0, (trodAll_cons_mk (Below.trod laidOut (by kernel_rfl) (of_decide_eq_true (by kernel_rfl)) k0 hnx lt0) trodAll_mk0), rfl, hnx.frame _, fun h => by cases h⟩

theorem over : Rows.fnExactPolConstRow.holds Try.pinned (OpenSpec.ofChange Rows.fnExactPolConstSpec) :=
  OpenClaim.holds_of_wide 4 Try.f4 rfl rfl rfl rfl rfl rfl rfl ⟨rfl, rfl, rfl, rfl, rfl⟩ rfl rfl rfl rfl rfl (by kernel_rfl) Try.func4 (by kernel_rfl)
    (of_decide_eq_true (by kernel_rfl)) (by unfold Func.isWrapper; first | (rw [if_pos (by decide +kernel)]; kernel_rfl) | (rw [if_neg (by decide +kernel)]; exact ⟨rfl, rfl⟩))
    (fun os started H enc _ => lifted os started H enc)

theorem proved : Rows.FnExactPolConstSaid := over
#print axioms proved
end Go.Proofs.Ytkjfkecbdcjknaa.fnExactPolConst
