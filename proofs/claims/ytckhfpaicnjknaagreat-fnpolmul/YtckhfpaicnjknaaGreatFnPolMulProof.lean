/-
  At every two codes of bytes the law FnPolMul returns true (P22: PolMul, where it is true, is ok, the same in either order, and its PolEval is the product of both, whatever the atoms are); no condition.
  The frame (the steps lifted, over, proved) is the guide's shell, written by its program; the walk and the lemmas ahead of it are mine.
-/
import Derived.Test.YtckhfpaicnjknaaGreatRows
import Derived.WalkKit
import Derived.ProofKit
import Derived.OpenShut
import Derived.Test.YtckhfpaicnjknaaGreatJoH
import Derived.Test.YtckhfpaicnjknaaGreatDrawPf
import Derived.Test.YtckhfpaicnjknaaGreatPolMl
import Derived.Test.YtckhfpaicnjknaaGreatPolV
import Derived.ShutString
import Derived.ChangeOld
import Derived.Below
namespace Go.Proofs.YtckhfpaicnjknaaGreat.fnPolMul
open Go.ChangeShapes Go.WideShapes Go.ChangeAt Go.RowKit
open Go.ChangeMaps (open_string shut_string)
set_option linter.unusedVariables false

theorem own : ownKnob Tryz.prog.godebug = none := by kernel_rfl
theorem laidOut : laidOutB Tryz.prog = true := by kernel_rfl

def IsRow (k : IntKind) (w : World) (a : Option Addr) (len cap : Nat) (zs : List Int) : Prop :=
  (a = none ∧ len = 0 ∧ cap = 0 ∧ zs = []) ∨
  ∃ x, a = some x ∧ len ≤ cap ∧ cap ≤ maxLen ∧ zs.length = cap ∧ (∀ i, i < zs.length → w.cell? (x.add i) = some (.int k (zs.getD i 0))) ∧ ∀ n ∈ zs, (Lit.int k n).wf = true

open IntS Pol
set_option linter.unusedVariables false
set_option linter.unusedSimpArgs false
theorem wordsB_of {ws : List Int} (h : ∀ x ∈ ws, 0 ≤ x ∧ x < 65536) : wordsB ws = true := by
  unfold wordsB
  rw [List.all_eq_true]
  exact fun x hx => Wrd.wok_t (h x hx).1 (h x hx).2
theorem eval_word {ps : List Mono} {ws : List Int} (h1 : okP ps = true) (h2 : wordsB ws = true) : 0 ≤ evalP ps ws ∧ evalP ps ws < 65536 := by
  rw [eval_yes h1 h2]
  exact sum_word ws ps 0 (by omega)
theorem wdo_mul {a b : Int} (ha : 0 ≤ a ∧ a < 65536) (hb : 0 ≤ b ∧ b < 65536) : Wrd.wdo 3 a b = a * b % 65536 := by
  unfold Wrd.wdo
  rw [if_pos ⟨ha.1, ha.2, hb.1, hb.2⟩]
  rfl
theorem wdo_add {a b : Int} (ha : 0 ≤ a ∧ a < 65536) (hb : 0 ≤ b ∧ b < 65536) : Wrd.wdo 1 a b = (a + b) % 65536 := by
  unfold Wrd.wdo
  rw [if_pos ⟨ha.1, ha.2, hb.1, hb.2⟩]
  rfl

set_option maxRecDepth 8000 in
set_option maxHeartbeats 16000000 in
theorem walk (a0 : Option Addr) (len0 cap0 : Nat) (z0 : List Int) (a1 : Option Addr) (len1 cap1 : Nat) (z1 : List Int) (w : World) (w0 : IsRow .u8 w a0 len0 cap0 z0) (w1 : IsRow .u8 w a1 len1 cap1 z1) :
    Calls Tryz.prog 4 #[.slice a0 len0 cap0, .slice a1 len1 cap1] w fun e w' => e = .returned (.bool true) ∧ Below w.heap.size w w' := by
  obtain ⟨hlc, hm, hc⟩ := Draw.code_row w a0 len0 cap0 z0 w0
  obtain ⟨hlc1, hm1, hc1⟩ := Draw.code_row w a1 len1 cap1 z1 w1
  by_cases hl : 1048576 < len0
  · unfold maxLen at hm hm1
    go_enter Tryz.func4, Tryz.ntmps4
    go_wp2
    go_ret
    exact ⟨rfl, Below.refl _ _⟩
  by_cases hl1 : 1048576 < len1
  · unfold maxLen at hm hm1
    go_enter Tryz.func4, Tryz.ntmps4
    go_wp2
    go_ret
    exact ⟨rfl, Below.refl _ _⟩
  clear w0 w1
  go_enter Tryz.func4, Tryz.ntmps4
  go_wp2_with fail
  refine (Draw.drawMul a0 len0 cap0 _ hlc hm hc).mono ?_
  rintro e va ⟨u1, k1, pa, u2, k2, pb, B1, B2, rfl, r1, r2, hb⟩
  have r3 := r2.below (Draw.alloc_below va (.cells #[.slice u1 pa.length k1] 25))
  have S := hide (Pit.new hb)
  replace hc1 := hide (hc1.below hb)
  clear hb hc hm hlc r2
  have S2 := hide (Pit.add S.out r1)
  clear S r1
  have S := S2
  clear S2
  have S2 := hide (Pit.add S.out r3)
  clear S r3
  have S := S2
  clear S2
  replace hc1 := hide (hc1.out.below (((Below.refl va.heap.size va).alloc (Nat.le_refl _) (.cells #[.slice u1 pa.length k1] 25)).alloc (by simp) (.cells #[.slice u2 pb.length k2] 25) |>.mono (Nat.le_refl _)))
  rw [show (va.alloc (.cells #[.slice u1 pa.length k1] 25)).heap.size = va.heap.size + 1 by simp] at S
  go_wp2_with fail
  generalize hZ1 : va.heap.size + 1 = X2 at S ⊢
  clear hZ1
  generalize hZ0 : va.heap.size = X1 at S ⊢
  clear hZ0
  generalize ((va.alloc (.cells #[.slice u1 pa.length k1] 25)).alloc (.cells #[.slice u2 pb.length k2] 25)) = wv1 at S hc1 ⊢
  refine (Draw.drawEval a1 len1 cap1 _ hlc1 hm1 hc1.out).mono ?_
  rintro e vb ⟨u3, k3, pe, g1, nx, c2, xs, B1, B2, rfl, lx, n7, r2, rr, hb⟩
  have HX := hide (And.intro lx n7)
  clear hc1 hm1 hlc1 lx n7
  have S2 := hide (S.out.below hb)
  clear S hb
  have S := S2
  clear S2
  have S2 := hide (S.out.addRow rr)
  clear S rr
  have S := S2
  clear S2
  have S2 := hide (Pit.add S.out r2)
  clear S r2
  have S := S2
  clear S2
  have zA := (S.out.box (X1, .slice u1 pa.length k1, pa) (List.mem_cons_of_mem _ (List.mem_cons_of_mem _ List.mem_cons_self))).1.cell 0 _ rfl
  have zB := (S.out.box (X2, .slice u2 pb.length k2, pb) (List.mem_cons_of_mem _ List.mem_cons_self)).1.cell 0 _ rfl
  go_wp2_with fail
  clear zA zB
  generalize hZ0 : vb.heap.size = X3 at S ⊢
  clear hZ0
  generalize (vb.alloc (.cells #[.slice u3 pe.length k3] 25)) = wv2 at S ⊢
  obtain ⟨m, em⟩ : ∃ m, mulP pa pb = m := ⟨_, rfl⟩
  obtain ⟨om, eom⟩ : ∃ om, mulB pa pb = om := ⟨_, rfl⟩
  obtain ⟨oka, eka⟩ : ∃ oka, okP pa = oka := ⟨_, rfl⟩
  obtain ⟨okb, ekb⟩ : ∃ okb, okP pb = okb := ⟨_, rfl⟩
  have EM := hide (And.intro em eom)
  have EQ := hide (And.intro ((mul_comm' (ps := pa) (qs := pb)).2.symm.trans em) ((mul_comm' (ps := pa) (qs := pb)).1.symm.trans eom))
  have EA := hide eka
  have EB := hide ekb
  have FN : Hid (oka = false ∨ okb = false → om = false) := fun h => by
    rw [← eom]
    refine (mul_no (fun h2 => ?_)).1
    rcases h with h | h
    · rw [eka, h] at h2; exact absurd h2.1 (by decide)
    · rw [ekb, h] at h2; exact absurd h2.2 (by decide)
  have nb : (om != om) = false := by cases om <;> rfl
  clear em eom eka ekb
  obtain ⟨D0, d0⟩ := (S.out.box (X1, .slice u1 pa.length k1, pa) (List.mem_cons_of_mem _ (List.mem_cons_of_mem _ List.mem_cons_self))).2
  obtain ⟨D1, d1⟩ := (S.out.box (X2, .slice u2 pb.length k2, pb) (List.mem_cons_of_mem _ List.mem_cons_self)).2
  refine (implMul pa pb   D0 D1  _ _ _ d0 d1 ).mono ?_
  rintro e wv3 ⟨y1, l1, j1, he, W3, hb⟩
  clear d0 d1 
  rw [EM.out.1] at W3
  obtain rfl := Draw.wp_len W3
  rw [EM.out.2] at he
  obtain ⟨D9, r9⟩ := W3.read
  subst he
  clear W3
  have S2 := hide (S.out.below hb)
  clear S hb
  have S := S2
  clear S2
  have S2 := hide (Pit.add S.out r9)
  clear S r9
  have S := S2
  clear S2
  have zA := (S.out.box (X1, .slice u1 pa.length k1, pa) (List.mem_cons_of_mem _ (List.mem_cons_of_mem _ (List.mem_cons_of_mem _ List.mem_cons_self)))).1.cell 0 _ rfl
  have zB := (S.out.box (X2, .slice u2 pb.length k2, pb) (List.mem_cons_of_mem _ (List.mem_cons_of_mem _ List.mem_cons_self))).1.cell 0 _ rfl
  go_wp2_with fail
  clear zA zB
  generalize hZ0 : wv3.heap.size = X4 at S ⊢
  clear hZ0
  generalize (wv3.alloc (.cells #[.slice y1 m.length j1] 25)) = wv4 at S ⊢
  obtain ⟨D0, d0⟩ := (S.out.box (X1, .slice u1 pa.length k1, pa) (List.mem_cons_of_mem _ (List.mem_cons_of_mem _ (List.mem_cons_of_mem _ List.mem_cons_self)))).2
  obtain ⟨D1, d1⟩ := (S.out.box (X2, .slice u2 pb.length k2, pb) (List.mem_cons_of_mem _ (List.mem_cons_of_mem _ List.mem_cons_self))).2
  refine (specMul pa pb   D0 D1  _ _ _ d0 d1 ).mono ?_
  rintro e wv5 ⟨y2, l2, j2, he, W3, hb⟩
  clear d0 d1 
  rw [EM.out.1] at W3
  obtain rfl := Draw.wp_len W3
  rw [EM.out.2] at he
  obtain ⟨D9, r9⟩ := W3.read
  subst he
  clear W3
  have S2 := hide (S.out.below hb)
  clear S hb
  have S := S2
  clear S2
  have S2 := hide (Pit.add S.out r9)
  clear S r9
  have S := S2
  clear S2
  have zP := (S.out.box (X4, .slice y1 m.length j1, m) (List.mem_cons_of_mem _ List.mem_cons_self)).1.cell 0 _ rfl
  have zW := (S.out.box (wv5.heap.size, .slice y2 m.length j2, m) List.mem_cons_self).1.cell 0 _ rfl
  go_wp2_with fail
  clear zP zW
  generalize hZ0 : wv5.heap.size = X5 at S ⊢
  clear hZ0
  generalize (wv5.alloc (.cells #[.slice y2 m.length j2] 25)) = wv6 at S ⊢
  obtain ⟨D0, d0⟩ := (S.out.box (X4, .slice y1 m.length j1, m) (List.mem_cons_of_mem _ List.mem_cons_self)).2
  obtain ⟨D1, d1⟩ := (S.out.box (X5, .slice y2 m.length j2, m) List.mem_cons_self).2
  refine (La.laPoly m m   D0 D1  _ _ _ d0 d1 ).mono ?_
  rintro e wv7 ⟨he, hb⟩
  clear d0 d1 
  rw [show decide (m = m) = true from decide_eq_true rfl] at he
  subst he
  have S2 := hide (S.out.below hb)
  clear S hb
  have S := S2
  clear S2
  have zA := (S.out.box (X1, .slice u1 pa.length k1, pa) (List.mem_cons_of_mem _ (List.mem_cons_of_mem _ (List.mem_cons_of_mem _ (List.mem_cons_of_mem _ List.mem_cons_self))))).1.cell 0 _ rfl
  go_wp2_with fail
  clear zA
  obtain ⟨D0, d0⟩ := (S.out.box (X1, .slice u1 pa.length k1, pa) (List.mem_cons_of_mem _ (List.mem_cons_of_mem _ (List.mem_cons_of_mem _ (List.mem_cons_of_mem _ List.mem_cons_self))))).2
  refine (specOk pa   D0  _ _ d0 ).mono ?_
  rintro e wv8 ⟨he, hb⟩
  clear d0 
  rw [EA.out] at he
  subst he
  have S2 := hide (S.out.below hb)
  clear S hb
  have S := S2
  clear S2
  cases oka with
  | false =>
    obtain rfl := FN.out (Or.inl rfl)
    go_wp2_with fail
    refine (La.laOk wv8).mono ?_
    rintro e wz ⟨rfl, rfl⟩
    have FIN := hide S.out.bw
    clear S
    go_wp2
    go_ret
    exact ⟨rfl, FIN.out⟩
  | true =>
    have zB := (S.out.box (X2, .slice u2 pb.length k2, pb) (List.mem_cons_of_mem _ (List.mem_cons_of_mem _ (List.mem_cons_of_mem _ List.mem_cons_self)))).1.cell 0 _ rfl
    go_wp2_with fail
    clear zB
    obtain ⟨D0, d0⟩ := (S.out.box (X2, .slice u2 pb.length k2, pb) (List.mem_cons_of_mem _ (List.mem_cons_of_mem _ (List.mem_cons_of_mem _ List.mem_cons_self)))).2
    refine (specOk pb   D0  _ _ d0 ).mono ?_
    rintro e wv9 ⟨he, hb⟩
    clear d0 
    rw [EB.out] at he
    subst he
    have S2 := hide (S.out.below hb)
    clear S hb
    have S := S2
    clear S2
    cases okb with
    | false =>
      obtain rfl := FN.out (Or.inr rfl)
      go_wp2_with fail
      refine (La.laOk wv9).mono ?_
      rintro e wz ⟨rfl, rfl⟩
      have FIN := hide S.out.bw
      clear S
      go_wp2
      go_ret
      exact ⟨rfl, FIN.out⟩
    | true =>
      have zB := (S.out.box (X2, .slice u2 pb.length k2, pb) (List.mem_cons_of_mem _ (List.mem_cons_of_mem _ (List.mem_cons_of_mem _ List.mem_cons_self)))).1.cell 0 _ rfl
      have zA := (S.out.box (X1, .slice u1 pa.length k1, pa) (List.mem_cons_of_mem _ (List.mem_cons_of_mem _ (List.mem_cons_of_mem _ (List.mem_cons_of_mem _ List.mem_cons_self))))).1.cell 0 _ rfl
      go_wp2_with fail
      clear zB zA
      obtain ⟨D0, d0⟩ := (S.out.box (X2, .slice u2 pb.length k2, pb) (List.mem_cons_of_mem _ (List.mem_cons_of_mem _ (List.mem_cons_of_mem _ List.mem_cons_self)))).2
      obtain ⟨D1, d1⟩ := (S.out.box (X1, .slice u1 pa.length k1, pa) (List.mem_cons_of_mem _ (List.mem_cons_of_mem _ (List.mem_cons_of_mem _ (List.mem_cons_of_mem _ List.mem_cons_self))))).2
      refine (implMul pb pa   D0 D1  _ _ _ d0 d1 ).mono ?_
      rintro e wv10 ⟨y3, l3, j3, he, W3, hb⟩
      clear d0 d1 
      rw [EQ.out.1] at W3
      obtain rfl := Draw.wp_len W3
      rw [EQ.out.2] at he
      obtain ⟨D9, r9⟩ := W3.read
      subst he
      clear W3
      have S2 := hide (S.out.below hb)
      clear S hb
      have S := S2
      clear S2
      have S2 := hide (Pit.add S.out r9)
      clear S r9
      have S := S2
      clear S2
      have zP := (S.out.box (X4, .slice y1 m.length j1, m) (List.mem_cons_of_mem _ (List.mem_cons_of_mem _ List.mem_cons_self))).1.cell 0 _ rfl
      have zQ := (S.out.box (wv10.heap.size, .slice y3 m.length j3, m) List.mem_cons_self).1.cell 0 _ rfl
      go_wp2_with fail
      clear zP zQ
      generalize hZ0 : wv10.heap.size = X6 at S ⊢
      clear hZ0
      generalize (wv10.alloc (.cells #[.slice y3 m.length j3] 25)) = wv11 at S ⊢
      obtain ⟨D0, d0⟩ := (S.out.box (X4, .slice y1 m.length j1, m) (List.mem_cons_of_mem _ (List.mem_cons_of_mem _ List.mem_cons_self))).2
      obtain ⟨D1, d1⟩ := (S.out.box (X6, .slice y3 m.length j3, m) List.mem_cons_self).2
      refine (La.laPoly m m   D0 D1  _ _ _ d0 d1 ).mono ?_
      rintro e wv12 ⟨he, hb⟩
      clear d0 d1 
      rw [show decide (m = m) = true from decide_eq_true rfl] at he
      subst he
      have S2 := hide (S.out.below hb)
      clear S hb
      have S := S2
      clear S2
      clear nb FN EQ
      cases om with
      | false =>
        go_wp2_with fail
        refine (La.laOk wv12).mono ?_
        rintro e wz ⟨rfl, rfl⟩
        have FIN := hide S.out.bw
        clear S
        go_wp2
        go_ret
        exact ⟨rfl, FIN.out⟩
      | true =>
        go_wp2_with fail
        obtain ⟨E0, e0⟩ := (S.out.row ((.slice (some ⟨g1, 0, none⟩) nx c2), xs) List.mem_cons_self)
        refine (La.laWords xs E0 _ _ e0 (by have := HX.out; omega)).mono ?_
        rintro e ww ⟨g2, c3, B3, rfl, rw0, hb⟩
        clear e0
        have S2 := hide (S.out.below hb)
        clear S hb
        have S := S2
        clear S2
        obtain ⟨ws, ews⟩ : ∃ ws, La.wordsOf xs = ws := ⟨_, rfl⟩
        have WW := wordsB_of (La.words_ok xs)
        rw [ews] at WW rw0 ⊢
        clear ews HX
        have S2 := hide (S.out.addRow rw0)
        clear S rw0
        have S := S2
        clear S2
        obtain ⟨va1, eva⟩ : ∃ v, evalP pa ws = v := ⟨_, rfl⟩
        obtain ⟨vb1, evb⟩ : ∃ v, evalP pb ws = v := ⟨_, rfl⟩
        obtain ⟨vm1, evm⟩ : ∃ v, evalP m ws = v := ⟨_, rfl⟩
        have HM : okP m = true := by have := mul_ok EM.out.2; rw [EM.out.1] at this; exact this
        have HV : Hid (Wrd.wdo 3 va1 vb1 = vm1) := show _ = _ by
          have h1 := eval_word EA.out WW
          have h2 := eval_word EB.out WW
          rw [← evm, ← eva, ← evb, wdo_mul h1 h2, eval_yes HM WW, eval_yes EA.out WW, eval_yes EB.out WW, ← mul_val ws EM.out.2, EM.out.1]
        have VA := hide eva
        have VB := hide evb
        have VM := hide evm
        have HK := hide HM
        clear eva evb evm HM WW EA EB EM
        go_wp2_with fail
        refine (wpIn_wide (n := 0)).1 ?_
        have S2 := hide S.out.drew
        clear S
        refine PhaseIn.region (S := fun v => Pit w [(X6, .slice y3 m.length j3, m), (X5, .slice y2 m.length j2, m), (X4, .slice y1 m.length j1, m), (X3, .slice u3 pe.length k3, pe), (X2, .slice u2 pb.length k2, pb), (X1, .slice u1 pa.length k1, pa)] [((.slice (some ⟨g2, 0, none⟩) ws.length c3), ws), ((.slice (some ⟨g1, 0, none⟩) nx c2), xs)] v) 16 (by kernel_rfl) ?_
        generalize ww.drew = wv13 at *
        have hHeld := S2.out
        clear S2
        refine PhaseIn.takeD (i := 0) (v := ?_) [0, 1, 2, 3, 4, 5, 6, 7, 8, 9, 10, 11, 12, 13, 14, 15] 87 rfl (by rfl) (by kernel_rfl) (by kernel_rfl) (by kernel_rfl) (by kernel_rfl) (by kernel_rfl) (fun _ _ _ h => h) (Or.inl ⟨by kernel_rfl, ?_⟩) hHeld ?_
        rotate_left
        · intro w' hSw
          (try dsimp only at hSw)
          have z0 := (hSw.box (X4, .slice y1 m.length j1, m) (List.mem_cons_of_mem _ (List.mem_cons_of_mem _ List.mem_cons_self))).1.cell 0 _ rfl
          go_simp
          first | done | with_reducible rfl
        try simp only [Act.put, List.setIfInBounds_toArray, List.set]
        obtain ⟨D0, d0⟩ := (hHeld.box (X4, .slice y1 m.length j1, m) (List.mem_cons_of_mem _ (List.mem_cons_of_mem _ List.mem_cons_self))).2
        refine PhaseIn.one (i := 1) (by kernel_rfl) rfl (by kernel_rfl) (fun K hK => ?_)
        unfold Oper.wpIn
        refine ⟨fun _ _ => trivial, ?_⟩
        go_simp
        refine ⟨rfl, (callsIn_wide.2 (implOk m D0 _ wv13 d0)).mono ?_⟩
        rintro e wv14 ⟨he, hb⟩
        rw [HK.out] at he
        subst he
        clear d0
        replace hHeld := hHeld.below hb
        clear hb
        refine hK _ _ (fun _ => hHeld) ?_
        clear hK K
        try simp only [Act.put, List.setIfInBounds_toArray, List.set]
        refine PhaseIn.takeD (i := 2) (v := ?_) [2, 3, 4, 5, 6, 7, 8, 9, 10, 11, 12, 13, 14, 15] 89 rfl (by rfl) (by kernel_rfl) (by kernel_rfl) (by kernel_rfl) (by kernel_rfl) (by kernel_rfl) (fun _ _ _ h => h) (Or.inl ⟨by kernel_rfl, ?_⟩) hHeld ?_
        rotate_left
        · intro w' hSw
          (try dsimp only at hSw)
          go_simp
          first | done | with_reducible rfl
        try simp only [Act.put, List.setIfInBounds_toArray, List.set]
        refine PhaseIn.takeD (i := 3) (v := ?_) [3, 5, 8, 11, 12, 13, 14, 15] 90 rfl (by rfl) (by kernel_rfl) (by kernel_rfl) (by kernel_rfl) (by kernel_rfl) (by kernel_rfl) (fun _ _ _ h => h) (Or.inl ⟨by kernel_rfl, ?_⟩) hHeld ?_
        rotate_left
        · intro w' hSw
          (try dsimp only at hSw)
          have z0 := (hSw.box (X4, .slice y1 m.length j1, m) (List.mem_cons_of_mem _ (List.mem_cons_of_mem _ List.mem_cons_self))).1.cell 0 _ rfl
          go_simp
          first | done | with_reducible rfl
        try simp only [Act.put, List.setIfInBounds_toArray, List.set]
        refine PhaseIn.takeD (i := 4) (v := ?_) [4, 5, 8, 11, 12, 13, 14, 15] 91 rfl (by rfl) (by kernel_rfl) (by kernel_rfl) (by kernel_rfl) (by kernel_rfl) (by kernel_rfl) (fun _ _ _ h => h) (Or.inl ⟨by kernel_rfl, ?_⟩) hHeld ?_
        rotate_left
        · intro w' hSw
          (try dsimp only at hSw)
          go_simp
          first | done | with_reducible rfl
        try simp only [Act.put, List.setIfInBounds_toArray, List.set]
        refine PhaseIn.takeD (i := 6) (v := ?_) [6, 8, 11, 12, 13, 14, 15] 93 rfl (by rfl) (by kernel_rfl) (by kernel_rfl) (by kernel_rfl) (by kernel_rfl) (by kernel_rfl) (fun _ _ _ h => h) (Or.inl ⟨by kernel_rfl, ?_⟩) hHeld ?_
        rotate_left
        · intro w' hSw
          (try dsimp only at hSw)
          have z0 := (hSw.box (X1, .slice u1 pa.length k1, pa) (List.mem_cons_of_mem _ (List.mem_cons_of_mem _ (List.mem_cons_of_mem _ (List.mem_cons_of_mem _ (List.mem_cons_of_mem _ List.mem_cons_self)))))).1.cell 0 _ rfl
          go_simp
          first | done | with_reducible rfl
        try simp only [Act.put, List.setIfInBounds_toArray, List.set]
        refine PhaseIn.takeD (i := 7) (v := ?_) [7, 8, 11, 12, 13, 14, 15] 94 rfl (by rfl) (by kernel_rfl) (by kernel_rfl) (by kernel_rfl) (by kernel_rfl) (by kernel_rfl) (fun _ _ _ h => h) (Or.inl ⟨by kernel_rfl, ?_⟩) hHeld ?_
        rotate_left
        · intro w' hSw
          (try dsimp only at hSw)
          go_simp
          first | done | with_reducible rfl
        try simp only [Act.put, List.setIfInBounds_toArray, List.set]
        refine PhaseIn.takeD (i := 9) (v := ?_) [9, 11, 12, 13, 14, 15] 96 rfl (by rfl) (by kernel_rfl) (by kernel_rfl) (by kernel_rfl) (by kernel_rfl) (by kernel_rfl) (fun _ _ _ h => h) (Or.inl ⟨by kernel_rfl, ?_⟩) hHeld ?_
        rotate_left
        · intro w' hSw
          (try dsimp only at hSw)
          have z0 := (hSw.box (X2, .slice u2 pb.length k2, pb) (List.mem_cons_of_mem _ (List.mem_cons_of_mem _ (List.mem_cons_of_mem _ (List.mem_cons_of_mem _ List.mem_cons_self))))).1.cell 0 _ rfl
          go_simp
          first | done | with_reducible rfl
        try simp only [Act.put, List.setIfInBounds_toArray, List.set]
        refine PhaseIn.takeD (i := 10) (v := ?_) [10, 11, 12, 13, 14, 15] 97 rfl (by rfl) (by kernel_rfl) (by kernel_rfl) (by kernel_rfl) (by kernel_rfl) (by kernel_rfl) (fun _ _ _ h => h) (Or.inl ⟨by kernel_rfl, ?_⟩) hHeld ?_
        rotate_left
        · intro w' hSw
          (try dsimp only at hSw)
          go_simp
          first | done | with_reducible rfl
        try simp only [Act.put, List.setIfInBounds_toArray, List.set]
        obtain ⟨GG1, gg1⟩ := (hHeld.box (X4, .slice y1 m.length j1, m) (List.mem_cons_of_mem _ (List.mem_cons_of_mem _ List.mem_cons_self))).2
        obtain ⟨FF1, ff1⟩ := (hHeld.row ((.slice (some ⟨g2, 0, none⟩) ws.length c3), ws) List.mem_cons_self)
        refine PhaseIn.one (i := 5) (by kernel_rfl) rfl (by kernel_rfl) (fun K hK => ?_)
        unfold Oper.wpIn
        refine ⟨fun _ _ => trivial, ?_⟩
        go_simp
        refine ⟨rfl, (callsIn_wide.2 (implEval m ws GG1 FF1 _ _ wv14 gg1 ff1)).mono ?_⟩
        rintro e wv15 ⟨he, hb⟩
        rw [VM.out] at he
        subst he
        clear gg1 ff1
        replace hHeld := hHeld.below hb
        clear hb
        refine hK _ _ (fun _ => hHeld) ?_
        clear hK K
        try simp only [Act.put, List.setIfInBounds_toArray, List.set]
        obtain ⟨GG2, gg2⟩ := (hHeld.box (X1, .slice u1 pa.length k1, pa) (List.mem_cons_of_mem _ (List.mem_cons_of_mem _ (List.mem_cons_of_mem _ (List.mem_cons_of_mem _ (List.mem_cons_of_mem _ List.mem_cons_self)))))).2
        obtain ⟨FF2, ff2⟩ := (hHeld.row ((.slice (some ⟨g2, 0, none⟩) ws.length c3), ws) List.mem_cons_self)
        refine PhaseIn.one (i := 8) (by kernel_rfl) rfl (by kernel_rfl) (fun K hK => ?_)
        unfold Oper.wpIn
        refine ⟨fun _ _ => trivial, ?_⟩
        go_simp
        refine ⟨rfl, (callsIn_wide.2 (implEval pa ws GG2 FF2 _ _ wv15 gg2 ff2)).mono ?_⟩
        rintro e wv16 ⟨he, hb⟩
        rw [VA.out] at he
        subst he
        clear gg2 ff2
        replace hHeld := hHeld.below hb
        clear hb
        refine hK _ _ (fun _ => hHeld) ?_
        clear hK K
        try simp only [Act.put, List.setIfInBounds_toArray, List.set]
        obtain ⟨GG3, gg3⟩ := (hHeld.box (X2, .slice u2 pb.length k2, pb) (List.mem_cons_of_mem _ (List.mem_cons_of_mem _ (List.mem_cons_of_mem _ (List.mem_cons_of_mem _ List.mem_cons_self))))).2
        obtain ⟨FF3, ff3⟩ := (hHeld.row ((.slice (some ⟨g2, 0, none⟩) ws.length c3), ws) List.mem_cons_self)
        refine PhaseIn.one (i := 11) (by kernel_rfl) rfl (by kernel_rfl) (fun K hK => ?_)
        unfold Oper.wpIn
        refine ⟨fun _ _ => trivial, ?_⟩
        go_simp
        refine ⟨rfl, (callsIn_wide.2 (implEval pb ws GG3 FF3 _ _ wv16 gg3 ff3)).mono ?_⟩
        rintro e wv17 ⟨he, hb⟩
        rw [VB.out] at he
        subst he
        clear gg3 ff3
        replace hHeld := hHeld.below hb
        clear hb
        refine hK _ _ (fun _ => hHeld) ?_
        clear hK K
        try simp only [Act.put, List.setIfInBounds_toArray, List.set]
        refine PhaseIn.one (i := 12) (by kernel_rfl) rfl (by kernel_rfl) (fun K hK => ?_)
        unfold Oper.wpIn
        refine ⟨fun _ _ => trivial, ?_⟩
        go_simp
        refine ⟨rfl, (callsIn_wide.2 (Wrd.specDo 3 va1 vb1 wv17)).mono ?_⟩
        rintro e wv18 ⟨he, hw⟩
        rw [HV.out] at he
        subst he
        have hb : Below wv17.heap.size wv17 wv18 := by rw [hw]; exact Below.refl _ _
        clear hw
        replace hHeld := hHeld.below hb
        clear hb
        refine hK _ _ (fun _ => hHeld) ?_
        clear hK K
        try simp only [Act.put, List.setIfInBounds_toArray, List.set]
        refine PhaseIn.takeD (i := 13) (v := ?_) [13, 14, 15] 100 rfl (by rfl) (by kernel_rfl) (by kernel_rfl) (by kernel_rfl) (by kernel_rfl) (by kernel_rfl) (fun _ _ _ h => h) (Or.inl ⟨by kernel_rfl, ?_⟩) hHeld ?_
        rotate_left
        · intro w' hSw
          (try dsimp only at hSw)
          go_simp
          first | done | with_reducible rfl
        try simp only [Act.put, List.setIfInBounds_toArray, List.set]
        refine PhaseIn.takeD (i := 14) (v := ?_) [14, 15] 101 rfl (by rfl) (by kernel_rfl) (by kernel_rfl) (by kernel_rfl) (by kernel_rfl) (by kernel_rfl) (fun _ _ _ h => h) (Or.inl ⟨by kernel_rfl, ?_⟩) hHeld ?_
        rotate_left
        · intro w' hSw
          (try dsimp only at hSw)
          go_simp
          first | done | with_reducible rfl
        try simp only [Act.put, List.setIfInBounds_toArray, List.set]
        refine PhaseIn.takeD (i := 15) (v := ?_) [15] 4 rfl (by rfl) (by kernel_rfl) (by kernel_rfl) (by kernel_rfl) (by kernel_rfl) (by kernel_rfl) (fun _ _ _ h => h) (Or.inl ⟨by kernel_rfl, ?_⟩) hHeld ?_
        rotate_left
        · intro w' hSw
          (try dsimp only at hSw)
          go_simp
          first | done | with_reducible rfl
        try simp only [Act.put, List.setIfInBounds_toArray, List.set]
        refine PhaseIn.done (by kernel_rfl) ?_ _
        have S := hide hHeld
        clear hHeld
        have FIN := hide S.out.bw
        clear S
        go_wp2
        go_ret
        exact ⟨rfl, FIN.out⟩

set_option maxRecDepth 100000 in
theorem lifted (os : Os) (started : os.Started) (H : Type) (enc : TypeId × Value → H) :
    ReturnsInHanded {} Tryz.checked os 4 .any (Rows.fnPolMulSpec.pre6 enc Tryz.prog Tryz.f4 Rows.fnPolMulRow.domain false) (Rows.fnPolMulSpec.post enc Tryz.prog Tryz.f4 false true false false) := by
  refine returnsInHanded_of_change (C := Tryz.checked) own started (by kernel_rfl) Tryz.func4
    (ChangeSpec.witness6 (enc := enc) (C := Tryz.checked) false ⟨#[], #[.slice none 0 0, .slice none 0 0], []⟩ 8 (by kernel_rfl) (by kernel_rfl) (by kernel_rfl) (by kernel_rfl)) ?_
  intro W base args ds gs before hval0 hW hcnd _
  have hval : ∀ (j : Nat) t v, Tryz.f4.params[j]? = some t → args[j]? = some v → Value.okWide Tryz.prog W .any base t v := hval0
  have hW' := hW
  obtain ⟨p, q, hA0, hV, rfl, hfz, hnd⟩ := hW
  have hA : DataW.TrodAll enc Tryz.prog W 0 (fun _ => true) true Tryz.f4.params.toList args.toList ds p := hA0
  rw [Tryz.params4] at hA hval
  obtain ⟨v0, vs0, d0, ds0, p0, q0, hargs, rfl, rfl, h0, r0⟩ := trodAll_cons hA
  obtain ⟨v1, vs1, d1, ds1, p1, q1, rfl, rfl, rfl, h1, r1⟩ := trodAll_cons r0
  obtain ⟨rfl, rfl, rfl⟩ := trodAll_nil r1
  obtain rfl : args = #[v0, v1] := by cases args; simp_all
  obtain ⟨rfl, rfl⟩ := trodVars_none hV
  obtain ⟨a0, len0, cap0, rfl⟩ := okWide_slice Tryz.underlying22 (hval 0 22 v0 rfl rfl)
  have k0 := h0
  have lt0 : ∀ x ∈ p0, x.block < W.heap.size := by obtain ⟨m, hm⟩ := k0; exact DataW.trod_lt m _ _ _ hm
  obtain ⟨z0, w0⟩ : ∃ zs, IsRow .u8 W a0 len0 cap0 zs := by
    obtain ⟨fuel, hf⟩ := h0
    rcases open_ints Tryz.underlying22 Tryz.underlying5 (by kernel_rfl) hf with ⟨hcs, _⟩ | ⟨x, l, c, zs, hcs, _, hl, hm, hz, _, hcell, hwz⟩
    · simp [Value.cells] at hcs
      obtain ⟨rfl, rfl, rfl⟩ := hcs
      exact ⟨[], .inl ⟨rfl, rfl, rfl, rfl⟩⟩
    · simp [Value.cells] at hcs
      obtain ⟨rfl, rfl, rfl⟩ := hcs
      exact ⟨zs, .inr ⟨_, rfl, hl, hm, by simpa using hz, hcell, hwz⟩⟩
  obtain ⟨a1, len1, cap1, rfl⟩ := okWide_slice Tryz.underlying22 (hval 1 22 v1 rfl rfl)
  have k1 := h1
  have lt1 : ∀ x ∈ p1, x.block < W.heap.size := by obtain ⟨m, hm⟩ := k1; exact DataW.trod_lt m _ _ _ hm
  obtain ⟨z1, w1⟩ : ∃ zs, IsRow .u8 W a1 len1 cap1 zs := by
    obtain ⟨fuel, hf⟩ := h1
    rcases open_ints Tryz.underlying22 Tryz.underlying5 (by kernel_rfl) hf with ⟨hcs, _⟩ | ⟨x, l, c, zs, hcs, _, hl, hm, hz, _, hcell, hwz⟩
    · simp [Value.cells] at hcs
      obtain ⟨rfl, rfl, rfl⟩ := hcs
      exact ⟨[], .inl ⟨rfl, rfl, rfl, rfl⟩⟩
    · simp [Value.cells] at hcs
      obtain ⟨rfl, rfl, rfl⟩ := hcs
      exact ⟨zs, .inr ⟨_, rfl, hl, hm, by simpa using hz, hcell, hwz⟩⟩
  clear hA0 hval0
  refine (walk a0 len0 cap0 z0 a1 len1 cap1 z1 W w0 w1).mono fun e W' ⟨he, bel⟩ => ?_
  subst he
  exact ⟨_, rfl, _, _, _, [], _, [], hW', trodAll_mk1 (shut_bool Tryz.underlying4 _), (trodAll_cons_mk (Below.trod laidOut (by kernel_rfl) (of_decide_eq_true (by kernel_rfl)) k0 bel lt0) (trodAll_cons_mk (Below.trod laidOut (by kernel_rfl) (of_decide_eq_true (by kernel_rfl)) k1 bel lt1) trodAll_mk0)), rfl, bel.frame _, fun h => by cases h⟩

theorem over : Rows.fnPolMulRow.holds Tryz.pinned (OpenSpec.ofChange Rows.fnPolMulSpec) :=
  OpenClaim.holds_of_wide 4 Tryz.f4 rfl rfl rfl rfl rfl rfl rfl ⟨rfl, rfl, rfl, rfl, rfl⟩ rfl rfl rfl rfl rfl (by kernel_rfl) Tryz.func4 (by kernel_rfl)
    (of_decide_eq_true (by kernel_rfl)) (by unfold Func.isWrapper; first | (rw [if_pos (by decide +kernel)]; kernel_rfl) | (rw [if_neg (by decide +kernel)]; exact ⟨rfl, rfl⟩))
    (fun os started H enc _ => lifted os started H enc)

theorem proved : Rows.FnPolMulSaid := over
#print axioms proved
end Go.Proofs.YtckhfpaicnjknaaGreat.fnPolMul
