/-
  At every list of words the program's BlkTake answers as the specification's BlkTake does; it writes into no argument, and its answer owns its memory (the law FnExactBlkTake returns true); no condition.
  The frame (lifted, over, proved) is written by my own program after the guide's worked texts; the walk and the lemmas ahead of it are mine.
-/
import Derived.Test.YtfjlnocikldhjaaRows
import Derived.Test.YtfjlnocikldhjaaShape
import Derived.Test.YtfjlnocikldhjaaBlkB
import Derived.WalkKit
import Derived.ProofKit
import Derived.OpenShut
import Derived.ShutString
import Derived.ChangeOld
import Derived.Below
import Derived.SizedLaws
namespace Go.Proofs.Ytfjlnocikldhjaa.fnExactBlkTake
open Go.ChangeShapes Go.WideShapes Go.ChangeAt Go.RowKit
open Go.ChangeMaps (open_string shut_string)
set_option linter.unusedVariables false

theorem own : ownKnob Try.prog.godebug = none := by kernel_rfl
theorem laidOut : laidOutB Try.prog = true := by kernel_rfl

open IntS Flat InsS Blk

set_option maxRecDepth 8000 in
set_option maxHeartbeats 8000000 in
theorem walk (a0 : Option Addr) (len0 cap0 : Nat) (w : World) (w0 : Shape.Holds Try.prog w 9 22 [.slice a0 len0 cap0])  :
    Calls Try.prog 7 #[.slice a0 len0 cap0] w fun e w' => e = .returned (.bool true) ∧ Below w.heap.size w w' := by
  obtain ⟨v, ws, B, hv, hP⟩ := Blk.ints_hold (n := 7) w0
  obtain rfl : Value.slice a0 len0 cap0 = v := by simpa using hv
  have RM := hide hP
  obtain ⟨a, cap, off, e, h2, h3, -, -⟩ := hP
  obtain ⟨rfl, rfl, rfl⟩ : a0 = a ∧ len0 = ws.length ∧ cap0 = cap := by cases e; exact ⟨rfl, rfl, rfl⟩
  unfold maxLen at h3
  clear w0 hv e
  by_cases hn : (1048576 : Int) < ws.length
  · go_enter Try.func7, Try.ntmps7
    go_wp2
    go_ret
    exact ⟨rfl, Below.refl _ _⟩
  have HS : Hid (ws.length ≤ 1048576) := by show _ ≤ _; omega
  have BW : Hid (Below w.heap.size w w) := Below.refl _ _
  obtain ⟨R, eR⟩ : ∃ R, takeL ws = R := ⟨_, rfl⟩
  have ER := hide eR
  have rb : R.length ≤ 1048576 := by rw [← eR]; exact Nat.le_trans (takeL_len ws) HS.out
  clear eR
  go_enter Try.func7, Try.ntmps7
  go_wp2_with fail
  refine (toIntS ws B _ _ (RM.out.below BW.out) HS.out).mono ?_
  rintro e u1 ⟨g1, rfl, M1, -, -, hb⟩
  clear hn h2 h3
  replace M1 := hide M1
  replace BW := hide (BW.out.trans (hb.mono BW.out.size))
  clear hb
  go_wp2_with fail
  refine (specTake ws g1 _ _ M1.out.row HS.out).mono ?_
  rintro e u2 ⟨qw, cw, rfl, OW, hb⟩
  rw [ER.out] at OW ⊢
  have SS : Hid (w.heap.size ≤ u1.heap.size ∧ u1.heap.size ≤ u2.heap.size ∧ (∀ G, qw = some ⟨G, 0, none⟩ → G < u2.heap.size)) := ⟨BW.out.size, hb.size, fun G e => (OW.q_lt e).2⟩
  have OWN := hide OW
  clear M1 OW
  replace BW := hide (BW.out.trans (hb.mono BW.out.size))
  clear hb
  go_wp2_with fail
  refine (toIntS ws B _ _ (RM.out.below BW.out) HS.out).mono ?_
  rintro e u3 ⟨gx, rfl, MX, x1, x2, hb⟩
  replace MX := hide MX
  have XX : Hid (u2.heap.size ≤ gx ∧ gx < u3.heap.size) := ⟨x1, x2⟩
  have S3 : Hid (u2.heap.size ≤ u3.heap.size) := hb.size
  clear x1 x2
  replace OWN := hide (OWN.out.below hb)
  replace BW := hide (BW.out.trans (hb.mono BW.out.size))
  clear hb
  go_wp2_with fail
  refine (implTake ws gx _ _ MX.out.row HS.out).mono ?_
  rintro e u4 ⟨qg, cg, rfl, OG, hb⟩
  rw [ER.out] at OG ⊢
  have YY : Hid (u3.heap.size ≤ u4.heap.size ∧ (∀ G, qg = some ⟨G, 0, none⟩ → u3.heap.size ≤ G ∧ G < u4.heap.size)) := ⟨hb.size, fun G e => OG.q_lt e⟩
  have S9 : Hid (u3.heap.size ≤ u4.heap.size) := hb.size
  have OGN := hide OG
  clear OG
  replace OWN := hide (OWN.out.below hb)
  replace MX := hide (MX.out.below hb)
  replace BW := hide (BW.out.trans (hb.mono BW.out.size))
  clear hb
  obtain ⟨BG, RG⟩ := OGN.out.frow
  replace RG := hide RG
  obtain ⟨BWW, RW⟩ := OWN.out.frow
  replace RW := hide RW
  go_wp2_with fail
  refine (eqInsInsS R BG BWW _ _ _ RG.out RW.out).mono ?_
  rintro e u5 ⟨rfl, hb⟩
  clear RG BG RW BWW
  replace OWN := hide (OWN.out.below hb)
  replace MX := hide (MX.out.below hb)
  replace OGN := hide (OGN.out.below hb)
  replace S9 := hide (Nat.le_trans S9.out hb.size)
  replace BW := hide (BW.out.trans (hb.mono BW.out.size))
  clear hb
  go_wp2_with fail
  refine (toIntS ws B _ _ (RM.out.below BW.out) HS.out).mono ?_
  rintro e u6 ⟨g6, rfl, M6, -, -, hb⟩
  replace M6 := hide M6
  replace OWN := hide (OWN.out.below hb)
  replace MX := hide (MX.out.below hb)
  replace OGN := hide (OGN.out.below hb)
  replace S9 := hide (Nat.le_trans S9.out hb.size)
  replace BW := hide (BW.out.trans (hb.mono BW.out.size))
  clear hb
  go_wp2_with fail
  refine (eqIntS ws ws gx g6 _ _ _ MX.out.row M6.out.row).mono ?_
  rintro e u7 ⟨rfl, hb⟩
  rw [show decide (ws = ws) = true from decide_eq_true rfl]
  clear M6
  replace OWN := hide (OWN.out.below hb)
  replace MX := hide (MX.out.below hb)
  replace OGN := hide (OGN.out.below hb)
  replace S9 := hide (Nat.le_trans S9.out hb.size)
  replace BW := hide (BW.out.trans (hb.mono BW.out.size))
  clear hb
  go_wp2_with fail
  refine (markIntS 1 ws gx _ _ MX.out (by omega) (by omega) (by have := HS.out; omega)).mono ?_
  rintro e u8 ⟨rfl, -, ht⟩
  clear MX
  replace OWN := hide (OWN.out.apart ht (fun G e => by have := SS.out.2.2 G e; have := XX.out; omega))
  replace OGN := hide (OGN.out.apart ht (fun G e => by have := YY.out.2 G e; have := XX.out; omega))
  replace S9 := hide (Nat.le_trans S9.out ht.size)
  replace BW := hide (BW.out.trans (ht.below (by have := XX.out; have := SS.out; omega) BW.out.size))
  clear ht
  have kk0 : ¬ (1 : Int) + (ws.length : Int) < 0 := by omega
  obtain ⟨BG, RG⟩ := OGN.out.frow
  replace RG := hide RG
  obtain ⟨BWW, RW⟩ := OWN.out.frow
  replace RW := hide RW
  go_wp2_with fail
  refine (eqInsInsS R BG BWW _ _ _ RG.out RW.out).mono ?_
  rintro e u9 ⟨rfl, hb⟩
  clear RG BG RW BWW
  replace OWN := hide (OWN.out.below hb)
  replace OGN := hide (OGN.out.below hb)
  replace S9 := hide (Nat.le_trans S9.out hb.size)
  replace BW := hide (BW.out.trans (hb.mono BW.out.size))
  clear hb
  clear kk0
  have LO : Hid (u3.heap.size ≤ u9.heap.size ∧ w.heap.size ≤ u3.heap.size ∧ u2.heap.size ≤ u3.heap.size) := ⟨S9.out, by have := SS.out; have := S3.out; omega, S3.out⟩
  obtain ⟨gg, hMG, gl, gz⟩ := OGN.out.wrow u9.heap.size LO.out.1
  have MG := hide hMG
  have GG : Hid (u3.heap.size ≤ gg) := gl
  clear OGN hMG gl gz
  go_wp2_with fail
  refine (markInsInsS 1 R.length _ gg _ _ MG.out (by omega) (by omega) (by omega)).mono ?_
  rintro e u10 ⟨rfl, MM, ht⟩
  clear MG
  replace MM := hide MM
  replace OWN := hide (OWN.out.apart ht (fun G e => by have := SS.out.2.2 G e; have := LO.out; have := GG.out; omega))
  replace BW := hide (BW.out.trans (ht.below (by have := LO.out; have := GG.out; omega) BW.out.size))
  clear ht
  go_wp2_with fail
  refine (heldInsInsS 1 R.length gg _ _ MM.out.row (by omega) (by omega) (by omega)).mono ?_
  rintro e u11 ⟨rfl, hb⟩
  replace OWN := hide (OWN.out.below hb)
  replace MM := hide (MM.out.below hb)
  replace BW := hide (BW.out.trans (hb.mono BW.out.size))
  clear hb
  have nn : ¬ (1 : Int) + (R.length : Int) * 4 < 0 := by omega
  have ne : ((1 : Int) + (R.length : Int) * 4 != 1 + (R.length : Int) * 4) = false := by simp
  go_wp2_with fail
  refine (toIntS ws B _ _ (RM.out.below BW.out) HS.out).mono ?_
  rintro e u12 ⟨g9, rfl, M9, -, -, hb⟩
  replace M9 := hide M9
  replace OWN := hide (OWN.out.below hb)
  replace MM := hide (MM.out.below hb)
  replace BW := hide (BW.out.trans (hb.mono BW.out.size))
  clear hb
  go_wp2_with fail
  refine (implTake ws g9 _ _ M9.out.row HS.out).mono ?_
  rintro e u13 ⟨qh, ch, rfl, OH, hb⟩
  rw [ER.out] at OH ⊢
  have OHN := hide OH
  clear M9 OH
  replace OWN := hide (OWN.out.below hb)
  replace MM := hide (MM.out.below hb)
  replace BW := hide (BW.out.trans (hb.mono BW.out.size))
  clear hb
  obtain ⟨BG, RG⟩ := OHN.out.frow
  replace RG := hide RG
  obtain ⟨BWW, RW⟩ := OWN.out.frow
  replace RW := hide RW
  go_wp2_with fail
  refine (eqInsInsS R BG BWW _ _ _ RG.out RW.out).mono ?_
  rintro e u14 ⟨rfl, hb⟩
  clear RG BG RW BWW
  replace MM := hide (MM.out.below hb)
  replace BW := hide (BW.out.trans (hb.mono BW.out.size))
  clear hb
  clear OHN OWN
  go_wp2_with fail
  refine (heldInsInsS 1 R.length gg _ _ MM.out.row (by omega) (by omega) (by omega)).mono ?_
  rintro e u15 ⟨rfl, hb⟩
  replace BW := hide (BW.out.trans (hb.mono BW.out.size))
  clear hb
  clear MM
  go_wp2
  go_ret
  exact ⟨rfl, BW.out⟩

set_option maxRecDepth 100000 in
theorem lifted (os : Os) (started : os.Started) (H : Type) (enc : TypeId × Value → H) :
    ReturnsInHanded {} Try.checked os 7 .any (Rows.fnExactBlkTakeSpec.pre6 enc Try.prog Try.f7 Rows.fnExactBlkTakeRow.domain false) (Rows.fnExactBlkTakeSpec.post enc Try.prog Try.f7 false true false false) := by
  refine returnsInHanded_of_change (C := Try.checked) own started (by kernel_rfl) Try.func7
    (ChangeSpec.witness6 (enc := enc) (C := Try.checked) false ⟨#[], #[.slice none 0 0], []⟩ 8 (by kernel_rfl) (by kernel_rfl) (by kernel_rfl) (by kernel_rfl)) ?_
  intro W base args ds gs before hval0 hW hcnd hsz0
  have hval : ∀ (j : Nat) t v, Try.f7.params[j]? = some t → args[j]? = some v → Value.okWide Try.prog W .any base t v := hval0
  have hW' := hW
  obtain ⟨p, q, hA0, hV, rfl, hfz, hnd⟩ := hW
  have hA : DataW.TrodAll enc Try.prog W 0 (fun _ => true) true Try.f7.params.toList args.toList ds p := hA0
  rw [Try.params7] at hA hval
  obtain ⟨v0, vs0, d0, ds0, p0, q0, hargs, rfl, rfl, h0, r0⟩ := trodAll_cons hA
  obtain ⟨rfl, rfl, rfl⟩ := trodAll_nil r0
  obtain rfl : args = #[v0] := by cases args; simp_all
  obtain ⟨rfl, rfl⟩ := trodVars_none hV
  have k0 := h0
  have lt0 : ∀ x ∈ p0, x.block < W.heap.size := by obtain ⟨m, hm⟩ := k0; exact DataW.trod_lt m _ _ _ hm
  obtain ⟨a0, len0, cap0, rfl⟩ := okWide_slice Try.underlying22 (hval 0 22 v0 rfl rfl)
  have w0 : Shape.Holds Try.prog W 9 22 [.slice a0 len0 cap0] := Shape.opened 9 h0
  clear hA0 hval0
  refine (walk a0 len0 cap0 W w0).mono fun e W' ⟨he, hnx⟩ => ?_
  subst he
  exact ⟨_, rfl, _, _, _, [], _, [], hW', trodAll_cons_mk (shut_bool Try.underlying4 _) trodAll_mk0, (trodAll_cons_mk (Below.trod laidOut (by kernel_rfl) (of_decide_eq_true (by kernel_rfl)) k0 hnx lt0) trodAll_mk0), rfl, hnx.frame _, fun h => by cases h⟩

theorem over : Rows.fnExactBlkTakeRow.holds Try.pinned (OpenSpec.ofChange Rows.fnExactBlkTakeSpec) :=
  OpenClaim.holds_of_wide 7 Try.f7 rfl rfl rfl rfl rfl rfl rfl ⟨rfl, rfl, rfl, rfl, rfl⟩ rfl rfl rfl rfl rfl (by kernel_rfl) Try.func7 (by kernel_rfl)
    (of_decide_eq_true (by kernel_rfl)) (by unfold Func.isWrapper; first | (rw [if_pos (by decide +kernel)]; kernel_rfl) | (rw [if_neg (by decide +kernel)]; exact ⟨rfl, rfl⟩))
    (fun os started H enc _ => lifted os started H enc)

theorem proved : Rows.FnExactBlkTakeSaid := over
#print axioms proved
end Go.Proofs.Ytfjlnocikldhjaa.fnExactBlkTake
