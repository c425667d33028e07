/-
  The program's SymNew answers as the specification's SymNew does, every atom and every sum; its answer owns its memory, behind another call too (the law FnExactSymNew returns true); no condition.
  The frame (lifted, over, proved) is written by my own program after the guide's worked texts; the walk and the lemmas ahead of it are mine.
-/
import Derived.Test.YtnlfcocejkaieaaRows
import Derived.Test.YtnlfcocejkaieaaJ01
import Derived.Test.YtnlfcocejkaieaaJ24
import Derived.Test.YtnlfcocejkaieaaJ25
import Derived.WalkKit
import Derived.ProofKit
import Derived.OpenShut
import Derived.ShutString
import Derived.ChangeOld
import Derived.Below
import Derived.SizedLaws
namespace Go.Proofs.Ytnlfcocejkaieaa.fnExactSymNew
open Go.ChangeShapes Go.WideShapes Go.ChangeAt Go.RowKit
open Go.ChangeMaps (open_string shut_string)
set_option linter.unusedVariables false

theorem own : ownKnob Try.prog.godebug = none := by kernel_rfl
theorem laidOut : laidOutB Try.prog = true := by kernel_rfl

open IntS Pol Tab Sym
set_option linter.unusedSimpArgs false
theorem regs_row {w : World} {lo cap : Nat} {q : Option Addr} (h : OwnT w lo (.slice q 4 cap) (regC 4)) (hl : lo ≤ w.heap.size) : ∃ B, TRow w B (.slice q 4 cap) (regsA 4) := by
  have H : OTab w lo q cap (regC 4) (fun _ => lo) (fun _ => lo) (fun _ => lo) (regsA 4) := by
    refine ⟨by rw [regsA_len]; exact h, by rw [regC_len, regsA_len], fun i t ht => ?_, fun i j _ _ => Nat.le_refl _⟩
    have hi : i < 4 := by have := (List.getElem?_eq_some_iff.1 ht).1; rw [regsA_len] at this; exact this
    have et : t = regA i := by
      have : (regsA 4)[i]? = some (regA i) := by simp [regsA, hi]
      rw [this] at ht
      exact (Option.some.inj ht).symm
    subst et
    refine ⟨.slice none 0 0, .slice none 0 0, by simp [regC, regA, hi], WPoly.nil _ _ _, WPoly.nil _ _ _, Nat.le_refl _, Nat.le_refl _, Nat.le_refl _, hl, fun G e => ?_⟩
    subst e
    exact Or.inr (Push.owns_lt h).1
  have := H.read
  rw [regsA_len] at this
  exact this
theorem row_keepT {w w' : World} {B n : Nat} {v : Value} {ts : List At} (h : TRow w B v ts) (hb : Below w.heap.size w w') : TRow w' B v ts := h.below hb
theorem same_nei (b : Int) : (b != b) = false := by simp

set_option maxRecDepth 8000 in
set_option maxHeartbeats 8000000 in
theorem walk  (w : World)   :
    Calls Try.prog 3 #[] w fun e w' => e = .returned (.bool true) ∧ Below w.heap.size w w' := by
  go_enter Try.func3, Try.ntmps3
  go_wp2_with fail
  refine (specSymNew _).mono ?_
  rintro e u1 ⟨qs, cs, qr, cr, ss, l, h, rfl, RG, hb⟩
  obtain ⟨B1, t1⟩ := regs_row RG.a hb.size
  have ws := RG.s.whole
  rw [regsS_len] at ws
  obtain ⟨B2, t2⟩ := ws.read
  have bo := Sym.alloc_below u1 (.cells #[.slice qs 4 cs] 24)
  have TS := hide (t1.below bo)
  have QS := hide (t2.below bo)
  have Y := hide (Rec.new u1 [.slice qs 4 cs] 24)
  have BW := hide (hb.trans (bo.mono hb.size))
  clear RG hb t1 t2 ws bo
  go_wp2_with fail
  refine (implSymNew _).mono ?_
  rintro e u2 ⟨q, cap, q2, cap2, lo, mid, rfl, h1, WT0, WS0, h2, h3, hb⟩
  generalize u1.alloc (.cells #[.slice qs 4 cs] 24) = v1 at TS QS Y BW h1 h3 hb
  have LO : Hid (v1.heap.size ≤ lo) := h1
  have WT := hide WT0
  obtain ⟨qa, G, cp, ll, hh, s, es, WQ0⟩ := WS0
  obtain ⟨rfl, rfl⟩ : q2 = qa ∧ cap2 = cp := by
    simp only [Value.slice.injEq] at es
    exact ⟨es.1, es.2.2⟩
  have WQ1 := hide WQ0
  have BS := hide hb
  have MID : Hid (mid ≤ u2.heap.size) := h2
  have LMID : Hid (v1.heap.size ≤ mid) := h3
  have YL : Hid (u1.heap.size < v1.heap.size) := Y.out.lt
  clear WT0 WQ0 es hb h1 h2 h3
  have hb : Below u2.heap.size u2 (u2.alloc (.cells #[.slice q 4 cap] 24)) := (Below.refl _ _).alloc (Nat.le_refl _) _
  have GB := hide (Rec.new u2 [.slice q 4 cap] 24)
  replace WQ1 := hide (WQ1.out.keep (Keep.of_below (S := fun _ => False) hb) (fun _ _ _ h => h))
  replace WT := hide (WT.out.below hb)
  replace BS := hide (BS.out.trans (hb.mono BS.out.size))
  clear hb
  have y0 := (Y.out.below BS.out).cell 0 _ rfl
  have g0 := GB.out.cell 0 _ rfl
  obtain ⟨Bg, rg⟩ := WT.out.read
  have RGh := hide rg
  clear rg
  go_wp2_with fail
  refine (eqTabTab (regsA 4) _ _ _ _ _ RGh.out (TS.out.below BS.out)).mono ?_
  rintro e u3 ⟨rfl, hb⟩
  clear y0 g0 RGh
  replace WQ1 := hide (WQ1.out.keep (Keep.of_below (S := fun _ => False) hb) (fun _ _ _ h => h))
  replace WT := hide (WT.out.below hb)
  replace GB := hide (GB.out.below hb)
  replace BS := hide (BS.out.trans (hb.mono BS.out.size))
  clear hb
  obtain ⟨Bq, rq⟩ := (show WSums _ _ _ _ (regsS 4) from ⟨q2, G, cap2, ll, hh, s, by rw [regsS_len], WQ1.out⟩).read
  have RQh := hide rq
  clear rq
  go_wp2_with fail
  refine (eqTrmPolyS (regsS 4) _ _ _ _ _ RQh.out (QS.out.below BS.out)).mono ?_
  rintro e u4 ⟨rfl, hb⟩
  clear RQh
  replace WQ1 := hide (WQ1.out.keep (Keep.of_below (S := fun _ => False) hb) (fun _ _ _ h => h))
  replace WT := hide (WT.out.below hb)
  replace GB := hide (GB.out.below hb)
  replace BS := hide (BS.out.trans (hb.mono BS.out.size))
  clear hb
  obtain ⟨k1, ek1⟩ : ∃ k1, (1 : Int) + offT (regsA 4) (regsA 4).length = k1 := ⟨_, rfl⟩
  have K1 : k1 = 9 := by rw [← ek1]; kernel_rfl
  obtain ⟨k2, ek2⟩ : ∃ k2, k1 + (totQ (regsS 4) : Int) = k2 := ⟨_, rfl⟩
  have K2 : k2 = 17 := by rw [← ek2, K1]; kernel_rfl
  have EK1 := hide ek1
  have EK2 := hide ek2
  have TT : (regsA 4).length + totT (regsA 4) ≤ 1000000000 := by decide +kernel
  have TQ : totQ (regsS 4) ≤ 1000000000 := by decide +kernel
  have k10 : 0 ≤ k1 := by omega
  have k1b : k1 ≤ 1000 := by omega
  have k2n : ¬ k2 < 0 := by omega
  have k1n : ¬ k1 < 0 := by omega
  have kne := same_nei k2
  clear ek1 ek2 K1 K2
  have g0 := GB.out.cell 0 _ rfl
  go_wp2_with fail
  refine (markTabTab (regsA 4) 1 lo mid _ _ WT.out TT (by omega) (by omega)).mono ?_
  rintro e u5 ⟨rfl, WTm, hk⟩
  rw [EK1.out]
  clear g0 WT
  have GL : Hid (mid ≤ u2.heap.size) := MID.out
  replace GB := hide (GB.out.keep hk (by have := MID.out; omega))
  replace WQ1 := hide (WQ1.out.keep hk (fun b h1 h2 h3 => by omega))
  replace BS := hide (BS.out.trans (hk.below BS.out.size (fun b h1 h2 => by have := LO.out; omega)))
  have WT := hide WTm
  clear hk WTm
  have el := regsS_len 4
  have CM := markTrmPolyS (regsS 4) k1 mid u2.heap.size q2 G cap2 ll hh s _ WQ1.out TQ k10 (by omega)
  rw [EK2.out, el] at CM
  have CMh := hide CM
  clear CM
  go_wp2_with fail
  refine (CMh.out).mono ?_
  rintro e u6 ⟨rfl, WQm, hk⟩
  have HB : ∀ i, i < 4 → mid ≤ ll i ∧ hh i ≤ u2.heap.size := fun i hi => by
    obtain ⟨p, hp⟩ : ∃ p, (regsS 4)[i]? = some p := ⟨_, List.getElem?_eq_getElem (by rw [el]; exact hi)⟩
    obtain ⟨_, _, e1, _, e3, _⟩ := WQ1.out.cells i p hp
    exact ⟨e1, e3⟩
  replace GB := hide (GB.out.keep hk (fun ⟨i, hi, h1, h2⟩ => by have := HB i hi; omega))
  replace WT := hide (WT.out.keep hk (fun b h1 h2 ⟨i, hi, h3, h4⟩ => by have := HB i hi; omega))
  replace BS := hide (BS.out.trans (hk.below BS.out.size (fun b h1 ⟨i, hi, h3, h4⟩ => by have := HB i hi; have := LMID.out; omega)))
  replace WQ1 := hide WQm
  clear hk WQm HB CMh
  have g0 := GB.out.cell 0 _ rfl
  obtain ⟨Bg, rg⟩ := WT.out.read
  have RGh := hide rg
  clear rg
  have CH := heldTabTab (regsA 4) 1 Bg _ _ RGh.out TT (by omega) (by omega)
  rw [EK1.out] at CH
  have CHh := hide CH
  clear CH
  go_wp2_with fail
  refine (CHh.out).mono ?_
  rintro e u7 ⟨rfl, hb⟩
  clear g0 RGh CHh
  replace WQ1 := hide (WQ1.out.keep (Keep.of_below (S := fun _ => False) hb) (fun _ _ _ h => h))
  replace WT := hide (WT.out.below hb)
  replace GB := hide (GB.out.below hb)
  replace BS := hide (BS.out.trans (hb.mono BS.out.size))
  clear hb
  obtain ⟨Bq, rq⟩ := (show WSums _ mid u2.heap.size (.slice q2 4 cap2) (markQ (regsS 4) k1) from ⟨q2, G, cap2, ll, hh, s, by rw [markQ_len, regsS_len], WQ1.out⟩).read
  have RQh := hide rq
  clear rq
  have CH := heldTrmPolyS (regsS 4) k1 Bq _ _ RQh.out TQ k10 (by omega)
  rw [EK2.out] at CH
  have CHh := hide CH
  clear CH
  go_wp2_with fail
  refine (CHh.out).mono ?_
  rintro e u8 ⟨rfl, hb⟩
  clear RQh CHh
  replace WQ1 := hide (WQ1.out.keep (Keep.of_below (S := fun _ => False) hb) (fun _ _ _ h => h))
  replace WT := hide (WT.out.below hb)
  replace GB := hide (GB.out.below hb)
  replace BS := hide (BS.out.trans (hb.mono BS.out.size))
  clear hb
  go_wp2_with fail
  refine (implSymNew _).mono ?_
  rintro e u9 ⟨hq, hcap, hq2, hcap2, hlo, hmid, rfl, h1, HT0, HS0, h2, h3, hb⟩
  have HT := hide HT0
  have HSh := hide HS0
  clear HT0 HS0 h1 h2 h3
  replace WQ1 := hide (WQ1.out.keep (Keep.of_below (S := fun _ => False) hb) (fun _ _ _ h => h))
  replace WT := hide (WT.out.below hb)
  replace GB := hide (GB.out.below hb)
  replace BS := hide (BS.out.trans (hb.mono BS.out.size))
  clear hb
  have hb : Below u9.heap.size u9 (u9.alloc (.cells #[.slice hq 4 hcap] 24)) := (Below.refl _ _).alloc (Nat.le_refl _) _
  have HB2 := hide (Rec.new u9 [.slice hq 4 hcap] 24)
  replace WQ1 := hide (WQ1.out.keep (Keep.of_below (S := fun _ => False) hb) (fun _ _ _ h => h))
  replace WT := hide (WT.out.below hb)
  replace GB := hide (GB.out.below hb)
  replace HT := hide (HT.out.below hb)
  replace HSh := hide (HSh.out.below hb)
  replace BS := hide (BS.out.trans (hb.mono BS.out.size))
  clear hb
  have y0 := (Y.out.below BS.out).cell 0 _ rfl
  have g0 := HB2.out.cell 0 _ rfl
  obtain ⟨Bg, rg⟩ := HT.out.read
  have RGh := hide rg
  clear rg
  go_wp2_with fail
  refine (eqTabTab (regsA 4) _ _ _ _ _ RGh.out (TS.out.below BS.out)).mono ?_
  rintro e u10 ⟨rfl, hb⟩
  clear y0 g0 RGh
  replace WQ1 := hide (WQ1.out.keep (Keep.of_below (S := fun _ => False) hb) (fun _ _ _ h => h))
  replace WT := hide (WT.out.below hb)
  replace GB := hide (GB.out.below hb)
  replace HT := hide (HT.out.below hb)
  replace HSh := hide (HSh.out.below hb)
  replace HB2 := hide (HB2.out.below hb)
  replace BS := hide (BS.out.trans (hb.mono BS.out.size))
  clear hb
  obtain ⟨Bq, rq⟩ := (show WSums _ _ _ _ (regsS 4) from HSh.out).read
  have RQh := hide rq
  clear rq
  go_wp2_with fail
  refine (eqTrmPolyS (regsS 4) _ _ _ _ _ RQh.out (QS.out.below BS.out)).mono ?_
  rintro e u11 ⟨rfl, hb⟩
  clear RQh
  replace WQ1 := hide (WQ1.out.keep (Keep.of_below (S := fun _ => False) hb) (fun _ _ _ h => h))
  replace WT := hide (WT.out.below hb)
  replace GB := hide (GB.out.below hb)
  replace HT := hide (HT.out.below hb)
  replace HSh := hide (HSh.out.below hb)
  replace HB2 := hide (HB2.out.below hb)
  replace BS := hide (BS.out.trans (hb.mono BS.out.size))
  clear hb
  clear HT HSh HB2
  have g0 := GB.out.cell 0 _ rfl
  obtain ⟨Bg, rg⟩ := WT.out.read
  have RGh := hide rg
  clear rg
  have CH := heldTabTab (regsA 4) 1 Bg _ _ RGh.out TT (by omega) (by omega)
  rw [EK1.out] at CH
  have CHh := hide CH
  clear CH
  go_wp2_with fail
  refine (CHh.out).mono ?_
  rintro e u12 ⟨rfl, hb⟩
  clear g0 RGh CHh
  replace WQ1 := hide (WQ1.out.keep (Keep.of_below (S := fun _ => False) hb) (fun _ _ _ h => h))
  replace WT := hide (WT.out.below hb)
  replace GB := hide (GB.out.below hb)
  replace BS := hide (BS.out.trans (hb.mono BS.out.size))
  clear hb
  obtain ⟨Bq, rq⟩ := (show WSums _ mid u2.heap.size (.slice q2 4 cap2) (markQ (regsS 4) k1) from ⟨q2, G, cap2, ll, hh, s, by rw [markQ_len, regsS_len], WQ1.out⟩).read
  have RQh := hide rq
  clear rq
  have CH := heldTrmPolyS (regsS 4) k1 Bq _ _ RQh.out TQ k10 (by omega)
  rw [EK2.out] at CH
  have CHh := hide CH
  clear CH
  go_wp2_with fail
  refine (CHh.out).mono ?_
  rintro e u13 ⟨rfl, hb⟩
  clear RQh CHh
  replace WQ1 := hide (WQ1.out.keep (Keep.of_below (S := fun _ => False) hb) (fun _ _ _ h => h))
  replace WT := hide (WT.out.below hb)
  replace GB := hide (GB.out.below hb)
  replace BS := hide (BS.out.trans (hb.mono BS.out.size))
  clear hb
  have FB := hide (BW.out.trans (BS.out.mono BW.out.size))
  clear WT GB WQ1 BS
  go_wp2
  go_ret
  exact ⟨rfl, FB.out⟩

set_option maxRecDepth 100000 in
theorem lifted (os : Os) (started : os.Started) (H : Type) (enc : TypeId × Value → H) :
    ReturnsInHanded {} Try.checked os 3 .any (Rows.fnExactSymNewSpec.pre6 enc Try.prog Try.f3 Rows.fnExactSymNewRow.domain false) (Rows.fnExactSymNewSpec.post enc Try.prog Try.f3 false true false false) := by
  refine returnsInHanded_of_change (C := Try.checked) own started (by kernel_rfl) Try.func3
    (ChangeSpec.witness6 (enc := enc) (C := Try.checked) false ⟨#[], #[], []⟩ 8 (by kernel_rfl) (by kernel_rfl) (by kernel_rfl) (by kernel_rfl)) ?_
  intro W base args ds gs before hval0 hW hcnd hsz0
  have hval : ∀ (j : Nat) t v, Try.f3.params[j]? = some t → args[j]? = some v → Value.okWide Try.prog W .any base t v := hval0
  have hW' := hW
  obtain ⟨p, q, hA0, hV, rfl, hfz, hnd⟩ := hW
  have hA : DataW.TrodAll enc Try.prog W 0 (fun _ => true) true Try.f3.params.toList args.toList ds p := hA0
  rw [Try.params3] at hA hval
  obtain ⟨hargs, rfl, rfl⟩ := trodAll_nil hA
  obtain rfl : args = #[] := by cases args; simp_all
  obtain ⟨rfl, rfl⟩ := trodVars_none hV
  clear hA0 hval0
  refine (walk  W ).mono fun e W' ⟨he, hnx⟩ => ?_
  subst he
  exact ⟨_, rfl, _, _, _, [], _, [], hW', trodAll_cons_mk (shut_bool Try.underlying4 _) trodAll_mk0, trodAll_mk0, rfl, hnx.frame _, fun h => by cases h⟩

theorem over : Rows.fnExactSymNewRow.holds Try.pinned (OpenSpec.ofChange Rows.fnExactSymNewSpec) :=
  OpenClaim.holds_of_wide 3 Try.f3 rfl rfl rfl rfl rfl rfl rfl ⟨rfl, rfl, rfl, rfl, rfl⟩ rfl rfl rfl rfl rfl (by kernel_rfl) Try.func3 (by kernel_rfl)
    (of_decide_eq_true (by kernel_rfl)) (by unfold Func.isWrapper; first | (rw [if_pos (by decide +kernel)]; kernel_rfl) | (rw [if_neg (by decide +kernel)]; exact ⟨rfl, rfl⟩))
    (fun os started H enc _ => lifted os started H enc)

theorem proved : Rows.FnExactSymNewSaid := over
#print axioms proved
end Go.Proofs.Ytnlfcocejkaieaa.fnExactSymNew
