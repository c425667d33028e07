/-
  At every two codes of bytes the law FnPolNum returns true (P25: PolNum of PolConst is the word; of what has atoms it is false; what it tells is what the sum comes to, whatever the atoms are); no condition.
  The frame (the steps lifted, over, proved) is the guide's shell, written by its program; the walk and the lemmas ahead of it are mine.
-/
import Derived.Test.YtckhfpaicnjknaaRows
import Derived.WalkKit
import Derived.ProofKit
import Derived.OpenShut
import Derived.Test.YtckhfpaicnjknaaPolSi
import Derived.Test.YtckhfpaicnjknaaPolN
import Derived.Test.YtckhfpaicnjknaaPolV
import Derived.Test.YtckhfpaicnjknaaPolQ
import Derived.ShutString
import Derived.ChangeOld
import Derived.Below
namespace Go.Proofs.Ytckhfpaicnjknaa.fnPolNum
open Go.ChangeShapes Go.WideShapes Go.ChangeAt Go.RowKit
open Go.ChangeMaps (open_string shut_string)
set_option linter.unusedVariables false

theorem own : ownKnob Try.prog.godebug = none := by kernel_rfl
theorem laidOut : laidOutB Try.prog = true := by kernel_rfl

def IsRow (k : IntKind) (w : World) (a : Option Addr) (len cap : Nat) (zs : List Int) : Prop :=
  (a = none ∧ len = 0 ∧ cap = 0 ∧ zs = []) ∨
  ∃ x, a = some x ∧ len ≤ cap ∧ cap ≤ maxLen ∧ zs.length = cap ∧ (∀ i, i < zs.length → w.cell? (x.add i) = some (.int k (zs.getD i 0))) ∧ ∀ n ∈ zs, (Lit.int k n).wf = true

open IntS Pol
set_option linter.unusedVariables false
set_option linter.unusedSimpArgs false
theorem wordsB_of {ws : List Int} (h : ∀ x ∈ ws, 0 ≤ x ∧ x < 65536) : wordsB ws = true := by
  unfold wordsB
  rw [List.all_eq_true]
  exact fun x hx => Wrd.wok_t (h x hx).1 (h x hx).2
theorem num_eval {ps : List Mono} {n : Int} (h : numP ps = (n, true)) (vals : List Int) (hv : wordsB vals = true) : evalP ps vals = n := by
  obtain ⟨h1, h2⟩ := num_val vals (ps := ps) (by rw [h])
  rw [eval_yes h1 hv, h2, h]
theorem const_none {n : Int} (h : Wrd.wok n = false) : constP n = [] := by
  unfold constP
  refine if_neg (fun h2 => ?_)
  rw [Wrd.wok_t (by omega) (by omega)] at h
  cases h
theorem fieldP (a : Option Addr) (n c : Nat) (w : World) : (Instr.field 25 (.agg #[.slice a n c]) 0).run Try.prog w = .ok (.slice a n c) w := by kernel_rfl
theorem row_none (w : World) : Row (w.alloc (.cells #[] 3)) w.heap.size (.slice (some ⟨w.heap.size, 0, none⟩) 0 0) [] := ⟨some ⟨w.heap.size, 0, none⟩, 0, 0, rfl, Nat.le_refl _, by unfold maxLen; omega, (fun e => by cases e), Or.inl rfl⟩

set_option maxRecDepth 8000 in
set_option maxHeartbeats 16000000 in
theorem walk (a0 : Option Addr) (len0 cap0 : Nat) (z0 : List Int) (a1 : Option Addr) (len1 cap1 : Nat) (z1 : List Int) (w : World) (w0 : IsRow .u8 w a0 len0 cap0 z0) (w1 : IsRow .u8 w a1 len1 cap1 z1) :
    Calls Try.prog 4 #[.slice a0 len0 cap0, .slice a1 len1 cap1] w fun e w' => e = .returned (.bool true) ∧ Below w.heap.size w w' := by
  obtain ⟨hlc, hm, hc⟩ := Draw.code_row w a0 len0 cap0 z0 w0
  obtain ⟨hlc1, hm1, hc1⟩ := Draw.code_row w a1 len1 cap1 z1 w1
  by_cases hl : 1048576 < len0
  · unfold maxLen at hm hm1
    go_enter Try.func4, Try.ntmps4
    go_wp2
    go_ret
    exact ⟨rfl, Below.refl _ _⟩
  by_cases hl1 : 1048576 < len1
  · unfold maxLen at hm hm1
    go_enter Try.func4, Try.ntmps4
    go_wp2
    go_ret
    exact ⟨rfl, Below.refl _ _⟩
  clear w0 w1
  go_enter Try.func4, Try.ntmps4
  go_wp2_with fail
  refine (Draw.drawNum a0 len0 cap0 _ hlc hm hc).mono ?_
  rintro e va ⟨u1, k1, ps, B1, rfl, r1, hb⟩
  have S := hide (Pit.new hb)
  replace hc1 := hide ((hc1.below hb).below (Draw.alloc_below va (.cells #[.slice u1 ps.length k1] 25)))
  clear hb hc hm hlc
  have S2 := hide (Pit.add S.out r1)
  clear S r1
  have S := S2
  clear S2
  go_wp2_with fail
  generalize hZ0 : va.heap.size = X1 at S ⊢
  clear hZ0
  generalize (va.alloc (.cells #[.slice u1 ps.length k1] 25)) = wv1 at S hc1 ⊢
  refine (Draw.drawConst a1 len1 cap1 _ hlc1 hm1 hc1.out).mono ?_
  rintro e vb ⟨cc, rfl, c0, c1, hb⟩
  have CB := hide (And.intro c0 c1)
  clear hc1 hm1 hlc1 c0 c1
  have S2 := hide (S.out.below hb)
  clear S hb
  have S := S2
  clear S2
  obtain ⟨nn, enn⟩ : ∃ nn, (numP ps).1 = nn := ⟨_, rfl⟩
  obtain ⟨ok, eok⟩ : ∃ ok, (numP ps).2 = ok := ⟨_, rfl⟩
  have EN := hide enn
  have EK := hide eok
  have n1 : (nn != nn) = false := by simp
  have n2 : (ok != ok) = false := by cases ok <;> rfl
  clear enn eok
  have zP := (S.out.box (X1, .slice u1 ps.length k1, ps) List.mem_cons_self).1.cell 0 _ rfl
  go_wp2_with fail
  clear zP
  obtain ⟨D0, d0⟩ := (S.out.box (X1, .slice u1 ps.length k1, ps) List.mem_cons_self).2
  refine (implNum ps   D0  _ _ d0 ).mono ?_
  rintro e wv2 ⟨he, hb⟩
  clear d0 
  rw [EN.out, EK.out] at he
  subst he
  have S2 := hide (S.out.below hb)
  clear S hb
  have S := S2
  clear S2
  have zP := (S.out.box (X1, .slice u1 ps.length k1, ps) List.mem_cons_self).1.cell 0 _ rfl
  go_wp2_with fail
  clear zP
  obtain ⟨D0, d0⟩ := (S.out.box (X1, .slice u1 ps.length k1, ps) List.mem_cons_self).2
  refine (specNum ps   D0  _ _ d0 ).mono ?_
  rintro e wv3 ⟨he, hb⟩
  clear d0 
  rw [EN.out, EK.out] at he
  subst he
  have S2 := hide (S.out.below hb)
  clear S hb
  have S := S2
  clear S2
  go_wp2_with fail
  have CL := implConst cc wv3
  refine CL.mono ?_
  clear CL
  rintro e wv4 ⟨xa, xl, xc, rfl, xw, hb⟩
  obtain rfl := Draw.wp_len xw
  obtain ⟨xB, xr⟩ := xw.read
  clear xw
  have S2 := hide (S.out.below hb)
  clear S hb
  have S := S2
  clear S2
  go_wp2_with fail
  have xr0 := hide xr
  clear xr
  have CL := specConst cc wv4
  refine CL.mono ?_
  clear CL
  rintro e wv5 ⟨ya, yl, yc, rfl, yw, hb⟩
  obtain rfl := Draw.wp_len yw
  obtain ⟨yB, yr⟩ := yw.read
  have xr := xr0.out.below hb
  clear yw xr0
  have S2 := hide (S.out.below hb)
  clear S hb
  have S := S2
  clear S2
  have xr0 := hide xr
  have yr0 := hide yr
  clear xr yr
  go_wp2_with fail
  refine (La.laPoly (constP cc) (constP cc) xB yB _ _ wv5 xr0.out yr0.out).mono ?_
  rintro e wv6 ⟨he, hb⟩
  rw [show decide (constP cc = constP cc) = true from decide_eq_true rfl] at he
  subst he
  clear xr0 yr0
  have S2 := hide (S.out.below hb)
  clear S hb
  have S := S2
  clear S2
  clear n1 n2
  cases ok with
  | false =>
    go_wp2_with fail
    obtain ⟨wk, ewk⟩ : ∃ wk, Wrd.wok cc = wk := ⟨_, rfl⟩
    refine (Wrd.specOk cc wv6).mono ?_
    rintro e wz ⟨rfl, hw⟩
    rw [hw, ewk]
    clear hw wz
    have EW := hide ewk
    clear ewk
    cases wk with
    | false =>
      go_wp2_with fail
      have CL := implConst cc wv6
      refine CL.mono ?_
      clear CL
      rintro e wv7 ⟨pa, pl, pc, rfl, pw, hb⟩
      obtain rfl := Draw.wp_len pw
      obtain ⟨pB, pr⟩ := pw.read
      clear pw
      have S2 := hide (S.out.below hb)
      clear S hb
      have S := S2
      clear S2
      clear pr
      have e0 := const_none EW.out
      rw [e0, List.length_nil]
      clear e0
      have fp := fieldP pa 0 pc wv7
      go_wp2_with fail
      clear fp
      refine (La.laOk wv7).mono ?_
      rintro e wz ⟨rfl, rfl⟩
      have FIN := hide S.out.bw
      clear S
      go_wp2
      go_ret
      exact ⟨rfl, FIN.out⟩
    | true =>
      have cw : 0 ≤ cc ∧ cc < 65536 := by have := EW.out; unfold Wrd.wok at this; exact of_decide_eq_true this
      have NC := hide (num_const cw.1 cw.2)
      clear EW cw
      go_wp2_with fail
      have CL := implConst cc wv6
      refine CL.mono ?_
      clear CL
      rintro e wv8 ⟨pa, pl, pc, rfl, pw, hb⟩
      obtain rfl := Draw.wp_len pw
      obtain ⟨pB, pr⟩ := pw.read
      clear pw
      have S2 := hide (S.out.below hb)
      clear S hb
      have S := S2
      clear S2
      have pr0 := hide pr
      clear pr
      go_wp2_with fail
      refine (implNum (constP cc) pB _ wv8 pr0.out).mono ?_
      rintro e wv9 ⟨he, hb⟩
      rw [NC.out] at he
      subst he
      clear pr0 NC
      have S2 := hide (S.out.below hb)
      clear S hb
      have S := S2
      clear S2
      go_wp2_with fail
      have CL := implAtom 3 wv9
      refine CL.mono ?_
      clear CL
      rintro e wv10 ⟨qa, ql, qc, rfl, qw, hb⟩
      obtain rfl := Draw.wp_len qw
      obtain ⟨qB, qr⟩ := qw.read
      clear qw
      have S2 := hide (S.out.below hb)
      clear S hb
      have S := S2
      clear S2
      have qr0 := hide qr
      clear qr
      go_wp2_with fail
      refine (implNum (atomP 3) qB _ wv10 qr0.out).mono ?_
      rintro e wv11 ⟨he, hb⟩
      rw [show numP (atomP 3) = (0, false) by decide] at he
      subst he
      clear qr0
      have S2 := hide (S.out.below hb)
      clear S hb
      have S := S2
      clear S2
      have n3 : (cc == cc) = true := by simp
      go_wp2_with fail
      have CL := implAtom 1 wv11
      refine CL.mono ?_
      clear CL
      rintro e wv12 ⟨ra, rl, rc, rfl, rw, hb⟩
      obtain rfl := Draw.wp_len rw
      obtain ⟨rB, rr⟩ := rw.read
      clear rw
      have S2 := hide (S.out.below hb)
      clear S hb
      have S := S2
      clear S2
      have rr0 := hide rr
      clear rr
      go_wp2_with fail
      have b1 := Draw.alloc_below wv12 (.cells #[.int .i64 4, .int .i64 5] 3)
      have S2 := hide (S.out.below b1)
      clear S b1
      have S := S2
      clear S2
      have ER := hide ((Draw.lit_row (w := wv12) (xs := [4, 5]) (by simp)).1)
      generalize hg : wv12.heap.size = GG at ER ⊢
      clear hg
      have ER2 := hide (show Row (wv12.alloc (.cells #[.int .i64 4, .int .i64 5] 3)) GG (.slice (some ⟨GG, 0, none⟩) 2 2) [4, 5] from ER.out)
      clear ER
      have ER := ER2
      clear ER2
      have rr1 := hide (rr0.out.below (Draw.alloc_below wv12 (.cells #[.int .i64 4, .int .i64 5] 3)))
      clear rr0
      generalize (wv12.alloc (.cells #[.int .i64 4, .int .i64 5] 3)) = wv13 at S ER rr1 ⊢
      refine (implEval (atomP 1) [4, 5] rB GG _ _ wv13 rr1.out ER.out).mono ?_
      rintro e wv14 ⟨he, hb⟩
      rw [show evalP (atomP 1) [4, 5] = 5 by decide] at he
      subst he
      clear rr1 ER
      have S2 := hide (S.out.below hb)
      clear S hb
      have S := S2
      clear S2
      have FIN := hide S.out.bw
      clear S
      go_wp2
      go_ret
      exact ⟨rfl, FIN.out⟩
  | true =>
    have n4 : (nn != nn) = false := by simp
    have NP := hide (show numP ps = (nn, true) from Prod.ext EN.out EK.out)
    clear EN EK
    have zP := (S.out.box (X1, .slice u1 ps.length k1, ps) List.mem_cons_self).1.cell 0 _ rfl
    go_wp2_with fail
    clear zP
    have b1 := Draw.alloc_below wv6 (.cells #[.int .i64 7, .int .i64 8, .int .i64 9] 3)
    have S2 := hide (S.out.below b1)
    clear S b1
    have S := S2
    clear S2
    have ER := hide ((Draw.lit_row (w := wv6) (xs := [7, 8, 9]) (by simp)).1)
    generalize hg : wv6.heap.size = GG at ER ⊢
    clear hg
    have ER2 := hide (show Row (wv6.alloc (.cells #[.int .i64 7, .int .i64 8, .int .i64 9] 3)) GG (.slice (some ⟨GG, 0, none⟩) 3 3) [7, 8, 9] from ER.out)
    clear ER
    have ER := ER2
    clear ER2
    generalize (wv6.alloc (.cells #[.int .i64 7, .int .i64 8, .int .i64 9] 3)) = wv15 at S ER ⊢
    obtain ⟨D0, d0⟩ := (S.out.box (X1, .slice u1 ps.length k1, ps) List.mem_cons_self).2
    refine (implEval ps ([7, 8, 9] : List Int) D0 GG _ _ wv15 d0 ER.out).mono ?_
    rintro e wv16 ⟨he, hb⟩
    rw [num_eval NP.out [7, 8, 9] (by decide)] at he
    subst he
    clear d0 ER
    have S2 := hide (S.out.below hb)
    clear S hb
    have S := S2
    clear S2
    have zP := (S.out.box (X1, .slice u1 ps.length k1, ps) List.mem_cons_self).1.cell 0 _ rfl
    go_wp2_with fail
    clear zP
    have b1 := Draw.alloc_below wv16 (.cells #[] 3)
    have S2 := hide (S.out.below b1)
    clear S b1
    have S := S2
    clear S2
    have ER := hide (row_none wv16)
    generalize hg : wv16.heap.size = GG at ER ⊢
    clear hg
    generalize (wv16.alloc (.cells #[] 3)) = wv17 at S ER ⊢
    obtain ⟨D0, d0⟩ := (S.out.box (X1, .slice u1 ps.length k1, ps) List.mem_cons_self).2
    refine (implEval ps ([] : List Int) D0 GG _ _ wv17 d0 ER.out).mono ?_
    rintro e wv18 ⟨he, hb⟩
    rw [num_eval NP.out [] (by decide)] at he
    subst he
    clear d0 ER
    have S2 := hide (S.out.below hb)
    clear S hb
    have S := S2
    clear S2
    clear n4 NP
    go_wp2_with fail
    obtain ⟨wk, ewk⟩ : ∃ wk, Wrd.wok cc = wk := ⟨_, rfl⟩
    refine (Wrd.specOk cc wv18).mono ?_
    rintro e wz ⟨rfl, hw⟩
    rw [hw, ewk]
    clear hw wz
    have EW := hide ewk
    clear ewk
    cases wk with
    | false =>
      go_wp2_with fail
      have CL := implConst cc wv18
      refine CL.mono ?_
      clear CL
      rintro e wv19 ⟨pa, pl, pc, rfl, pw, hb⟩
      obtain rfl := Draw.wp_len pw
      obtain ⟨pB, pr⟩ := pw.read
      clear pw
      have S2 := hide (S.out.below hb)
      clear S hb
      have S := S2
      clear S2
      clear pr
      have e0 := const_none EW.out
      rw [e0, List.length_nil]
      clear e0
      have fp := fieldP pa 0 pc wv19
      go_wp2_with fail
      clear fp
      refine (La.laOk wv19).mono ?_
      rintro e wz ⟨rfl, rfl⟩
      have FIN := hide S.out.bw
      clear S
      go_wp2
      go_ret
      exact ⟨rfl, FIN.out⟩
    | true =>
      have cw : 0 ≤ cc ∧ cc < 65536 := by have := EW.out; unfold Wrd.wok at this; exact of_decide_eq_true this
      have NC := hide (num_const cw.1 cw.2)
      clear EW cw
      go_wp2_with fail
      have CL := implConst cc wv18
      refine CL.mono ?_
      clear CL
      rintro e wv20 ⟨pa, pl, pc, rfl, pw, hb⟩
      obtain rfl := Draw.wp_len pw
      obtain ⟨pB, pr⟩ := pw.read
      clear pw
      have S2 := hide (S.out.below hb)
      clear S hb
      have S := S2
      clear S2
      have pr0 := hide pr
      clear pr
      go_wp2_with fail
      refine (implNum (constP cc) pB _ wv20 pr0.out).mono ?_
      rintro e wv21 ⟨he, hb⟩
      rw [NC.out] at he
      subst he
      clear pr0 NC
      have S2 := hide (S.out.below hb)
      clear S hb
      have S := S2
      clear S2
      go_wp2_with fail
      have CL := implAtom 3 wv21
      refine CL.mono ?_
      clear CL
      rintro e wv22 ⟨qa, ql, qc, rfl, qw, hb⟩
      obtain rfl := Draw.wp_len qw
      obtain ⟨qB, qr⟩ := qw.read
      clear qw
      have S2 := hide (S.out.below hb)
      clear S hb
      have S := S2
      clear S2
      have qr0 := hide qr
      clear qr
      go_wp2_with fail
      refine (implNum (atomP 3) qB _ wv22 qr0.out).mono ?_
      rintro e wv23 ⟨he, hb⟩
      rw [show numP (atomP 3) = (0, false) by decide] at he
      subst he
      clear qr0
      have S2 := hide (S.out.below hb)
      clear S hb
      have S := S2
      clear S2
      have n3 : (cc == cc) = true := by simp
      go_wp2_with fail
      have CL := implAtom 1 wv23
      refine CL.mono ?_
      clear CL
      rintro e wv24 ⟨ra, rl, rc, rfl, rw, hb⟩
      obtain rfl := Draw.wp_len rw
      obtain ⟨rB, rr⟩ := rw.read
      clear rw
      have S2 := hide (S.out.below hb)
      clear S hb
      have S := S2
      clear S2
      have rr0 := hide rr
      clear rr
      go_wp2_with fail
      have b1 := Draw.alloc_below wv24 (.cells #[.int .i64 4, .int .i64 5] 3)
      have S2 := hide (S.out.below b1)
      clear S b1
      have S := S2
      clear S2
      have ER := hide ((Draw.lit_row (w := wv24) (xs := [4, 5]) (by simp)).1)
      generalize hg : wv24.heap.size = GG at ER ⊢
      clear hg
      have ER2 := hide (show Row (wv24.alloc (.cells #[.int .i64 4, .int .i64 5] 3)) GG (.slice (some ⟨GG, 0, none⟩) 2 2) [4, 5] from ER.out)
      clear ER
      have ER := ER2
      clear ER2
      have rr1 := hide (rr0.out.below (Draw.alloc_below wv24 (.cells #[.int .i64 4, .int .i64 5] 3)))
      clear rr0
      generalize (wv24.alloc (.cells #[.int .i64 4, .int .i64 5] 3)) = wv25 at S ER rr1 ⊢
      refine (implEval (atomP 1) [4, 5] rB GG _ _ wv25 rr1.out ER.out).mono ?_
      rintro e wv26 ⟨he, hb⟩
      rw [show evalP (atomP 1) [4, 5] = 5 by decide] at he
      subst he
      clear rr1 ER
      have S2 := hide (S.out.below hb)
      clear S hb
      have S := S2
      clear S2
      have FIN := hide S.out.bw
      clear S
      go_wp2
      go_ret
      exact ⟨rfl, FIN.out⟩

set_option maxRecDepth 100000 in
theorem lifted (os : Os) (started : os.Started) (H : Type) (enc : TypeId × Value → H) :
    ReturnsInHanded {} Try.checked os 4 .any (Rows.fnPolNumSpec.pre6 enc Try.prog Try.f4 Rows.fnPolNumRow.domain false) (Rows.fnPolNumSpec.post enc Try.prog Try.f4 false true false false) := by
  refine returnsInHanded_of_change (C := Try.checked) own started (by kernel_rfl) Try.func4
    (ChangeSpec.witness6 (enc := enc) (C := Try.checked) false ⟨#[], #[.slice none 0 0, .slice none 0 0], []⟩ 8 (by kernel_rfl) (by kernel_rfl) (by kernel_rfl) (by kernel_rfl)) ?_
  intro W base args ds gs before hval0 hW hcnd _
  have hval : ∀ (j : Nat) t v, Try.f4.params[j]? = some t → args[j]? = some v → Value.okWide Try.prog W .any base t v := hval0
  have hW' := hW
  obtain ⟨p, q, hA0, hV, rfl, hfz, hnd⟩ := hW
  have hA : DataW.TrodAll enc Try.prog W 0 (fun _ => true) true Try.f4.params.toList args.toList ds p := hA0
  rw [Try.params4] at hA hval
  obtain ⟨v0, vs0, d0, ds0, p0, q0, hargs, rfl, rfl, h0, r0⟩ := trodAll_cons hA
  obtain ⟨v1, vs1, d1, ds1, p1, q1, rfl, rfl, rfl, h1, r1⟩ := trodAll_cons r0
  obtain ⟨rfl, rfl, rfl⟩ := trodAll_nil r1
  obtain rfl : args = #[v0, v1] := by cases args; simp_all
  obtain ⟨rfl, rfl⟩ := trodVars_none hV
  obtain ⟨a0, len0, cap0, rfl⟩ := okWide_slice Try.underlying22 (hval 0 22 v0 rfl rfl)
  have k0 := h0
  have lt0 : ∀ x ∈ p0, x.block < W.heap.size := by obtain ⟨m, hm⟩ := k0; exact DataW.trod_lt m _ _ _ hm
  obtain ⟨z0, w0⟩ : ∃ zs, IsRow .u8 W a0 len0 cap0 zs := by
    obtain ⟨fuel, hf⟩ := h0
    rcases open_ints Try.underlying22 Try.underlying5 (by kernel_rfl) hf with ⟨hcs, _⟩ | ⟨x, l, c, zs, hcs, _, hl, hm, hz, _, hcell, hwz⟩
    · simp [Value.cells] at hcs
      obtain ⟨rfl, rfl, rfl⟩ := hcs
      exact ⟨[], .inl ⟨rfl, rfl, rfl, rfl⟩⟩
    · simp [Value.cells] at hcs
      obtain ⟨rfl, rfl, rfl⟩ := hcs
      exact ⟨zs, .inr ⟨_, rfl, hl, hm, by simpa using hz, hcell, hwz⟩⟩
  obtain ⟨a1, len1, cap1, rfl⟩ := okWide_slice Try.underlying22 (hval 1 22 v1 rfl rfl)
  have k1 := h1
  have lt1 : ∀ x ∈ p1, x.block < W.heap.size := by obtain ⟨m, hm⟩ := k1; exact DataW.trod_lt m _ _ _ hm
  obtain ⟨z1, w1⟩ : ∃ zs, IsRow .u8 W a1 len1 cap1 zs := by
    obtain ⟨fuel, hf⟩ := h1
    rcases open_ints Try.underlying22 Try.underlying5 (by kernel_rfl) hf with ⟨hcs, _⟩ | ⟨x, l, c, zs, hcs, _, hl, hm, hz, _, hcell, hwz⟩
    · simp [Value.cells] at hcs
      obtain ⟨rfl, rfl, rfl⟩ := hcs
      exact ⟨[], .inl ⟨rfl, rfl, rfl, rfl⟩⟩
    · simp [Value.cells] at hcs
      obtain ⟨rfl, rfl, rfl⟩ := hcs
      exact ⟨zs, .inr ⟨_, rfl, hl, hm, by simpa using hz, hcell, hwz⟩⟩
  clear hA0 hval0
  refine (walk a0 len0 cap0 z0 a1 len1 cap1 z1 W w0 w1).mono fun e W' ⟨he, bel⟩ => ?_
  subst he
  exact ⟨_, rfl, _, _, _, [], _, [], hW', trodAll_mk1 (shut_bool Try.underlying4 _), (trodAll_cons_mk (Below.trod laidOut (by kernel_rfl) (of_decide_eq_true (by kernel_rfl)) k0 bel lt0) (trodAll_cons_mk (Below.trod laidOut (by kernel_rfl) (of_decide_eq_true (by kernel_rfl)) k1 bel lt1) trodAll_mk0)), rfl, bel.frame _, fun h => by cases h⟩

theorem over : Rows.fnPolNumRow.holds Try.pinned (OpenSpec.ofChange Rows.fnPolNumSpec) :=
  OpenClaim.holds_of_wide 4 Try.f4 rfl rfl rfl rfl rfl rfl rfl ⟨rfl, rfl, rfl, rfl, rfl⟩ rfl rfl rfl rfl rfl (by kernel_rfl) Try.func4 (by kernel_rfl)
    (of_decide_eq_true (by kernel_rfl)) (by unfold Func.isWrapper; first | (rw [if_pos (by decide +kernel)]; kernel_rfl) | (rw [if_neg (by decide +kernel)]; exact ⟨rfl, rfl⟩))
    (fun os started H enc _ => lifted os started H enc)

theorem proved : Rows.FnPolNumSaid := over
#print axioms proved
end Go.Proofs.Ytckhfpaicnjknaa.fnPolNum
