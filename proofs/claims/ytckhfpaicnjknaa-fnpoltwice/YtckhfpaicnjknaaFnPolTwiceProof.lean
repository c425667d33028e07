/-
  At every code of bytes the law FnPolTwice returns true (P81: PolAdd of a sum that is ok and itself is PolScale by 2, and with it once more PolScale by 3); no condition.
  The frame (the steps lifted, over, proved) is the guide's shell, written by its program; the walk and the lemmas ahead of it are mine.
-/
import Derived.Test.YtckhfpaicnjknaaRows
import Derived.WalkKit
import Derived.ProofKit
import Derived.OpenShut
import Derived.Test.YtckhfpaicnjknaaPolSi
import Derived.Test.YtckhfpaicnjknaaPolAd
import Derived.Test.YtckhfpaicnjknaaPolSc
import Derived.ShutString
import Derived.ChangeOld
import Derived.Below
namespace Go.Proofs.Ytckhfpaicnjknaa.fnPolTwice
open Go.ChangeShapes Go.WideShapes Go.ChangeAt Go.RowKit
open Go.ChangeMaps (open_string shut_string)
set_option linter.unusedVariables false

theorem own : ownKnob Try.prog.godebug = none := by kernel_rfl
theorem laidOut : laidOutB Try.prog = true := by kernel_rfl

def IsRow (k : IntKind) (w : World) (a : Option Addr) (len cap : Nat) (zs : List Int) : Prop :=
  (a = none ∧ len = 0 ∧ cap = 0 ∧ zs = []) ∨
  ∃ x, a = some x ∧ len ≤ cap ∧ cap ≤ maxLen ∧ zs.length = cap ∧ (∀ i, i < zs.length → w.cell? (x.add i) = some (.int k (zs.getD i 0))) ∧ ∀ n ∈ zs, (Lit.int k n).wf = true

open IntS Pol
set_option linter.unusedVariables false
set_option linter.unusedSimpArgs false

set_option maxRecDepth 8000 in
set_option maxHeartbeats 16000000 in
theorem walk (a0 : Option Addr) (len0 cap0 : Nat) (z0 : List Int) (w : World) (w0 : IsRow .u8 w a0 len0 cap0 z0) :
    Calls Try.prog 8 #[.slice a0 len0 cap0] w fun e w' => e = .returned (.bool true) ∧ Below w.heap.size w w' := by
  obtain ⟨hlc, hm, hc⟩ := Draw.code_row w a0 len0 cap0 z0 w0
  by_cases hl : 1048576 < len0
  · unfold maxLen at hm
    go_enter Try.func8, Try.ntmps8
    go_wp2
    go_ret
    exact ⟨rfl, Below.refl _ _⟩
  clear w0
  go_enter Try.func8, Try.ntmps8
  go_wp2_with fail
  refine (Draw.drawScale a0 len0 cap0 _ hlc hm hc).mono ?_
  rintro e va ⟨a1, c1, ps, nn, B1, rfl, r1, -, -, hb⟩
  have S := hide (Pit.new hb)
  clear hb hc hm hlc
  cases hk : okP ps with
  | false =>
    have HK := hide hk
    have E1 := hide (add_no (ps := ps) (qs := ps) (fun h => by rw [hk] at h; exact absurd h.1 (by decide)))
    clear hk
    have S2 := hide (Pit.add S.out r1)
    clear S r1
    have S := S2
    clear S2
    have zA := (S.out.box (va.heap.size, .slice a1 ps.length c1, ps) List.mem_cons_self).1.cell 0 _ rfl
    go_wp2_with fail
    clear zA
    generalize hZ0 : va.heap.size = X1 at S ⊢
    clear hZ0
    generalize (va.alloc (.cells #[.slice a1 ps.length c1] 25)) = wv1 at S ⊢
    obtain ⟨D0, d0⟩ := (S.out.box (X1, .slice a1 ps.length c1, ps) List.mem_cons_self).2
    obtain ⟨D1, d1⟩ := (S.out.box (X1, .slice a1 ps.length c1, ps) List.mem_cons_self).2
    refine (implAdd ps ps   D0 D1  _ _ _ d0 d1 ).mono ?_
    rintro e wv2 ⟨a3, l3, c3, he, W3, hb⟩
    clear d0 d1 
    rw [E1.out.2] at W3
    obtain rfl := Draw.wp_len W3
    rw [E1.out.1] at he
    obtain ⟨D9, r9⟩ := W3.read
    subst he
    clear W3
    have S2 := hide (S.out.below hb)
    clear S hb
    have S := S2
    clear S2
    rw [List.length_nil] at r9
    have S2 := hide (Pit.add S.out r9)
    clear S r9
    have S := S2
    clear S2
    have zA := (S.out.box (X1, .slice a1 ps.length c1, ps) (List.mem_cons_of_mem _ List.mem_cons_self)).1.cell 0 _ rfl
    go_wp2_with fail
    clear zA
    generalize hZ0 : wv2.heap.size = X2 at S ⊢
    clear hZ0
    generalize (wv2.alloc (.cells #[.slice a3 0 c3] 25)) = wv3 at S ⊢
    obtain ⟨D0, d0⟩ := (S.out.box (X1, .slice a1 ps.length c1, ps) (List.mem_cons_of_mem _ List.mem_cons_self)).2
    refine (specOk ps   D0  _ _ d0 ).mono ?_
    rintro e wv4 ⟨he, hb⟩
    clear d0 
    rw [HK.out] at he
    subst he
    have S2 := hide (S.out.below hb)
    clear S hb
    have S := S2
    clear S2
    go_wp2_with fail
    refine (La.laOk wv4).mono ?_
    rintro e wz ⟨rfl, rfl⟩
    have FIN := hide S.out.bw
    clear S
    go_wp2
    go_ret
    exact ⟨rfl, FIN.out⟩
  | true =>
    have HK := hide hk
    obtain ⟨s2, e2⟩ : ∃ s2, scaleP ps 2 = s2 := ⟨_, rfl⟩
    obtain ⟨s3, e3⟩ : ∃ s3, scaleP ps 3 = s3 := ⟨_, rfl⟩
    have E1 := hide (add_twice hk)
    have E3 := hide (add_three hk)
    have ES2 := hide e2
    have ES3 := hide e3
    rw [e2] at E1 E3
    rw [e3] at E3
    clear hk e2 e3
    have S2 := hide (Pit.add S.out r1)
    clear S r1
    have S := S2
    clear S2
    have zA := (S.out.box (va.heap.size, .slice a1 ps.length c1, ps) List.mem_cons_self).1.cell 0 _ rfl
    go_wp2_with fail
    clear zA
    generalize hZ0 : va.heap.size = X1 at S ⊢
    clear hZ0
    generalize (va.alloc (.cells #[.slice a1 ps.length c1] 25)) = wv5 at S ⊢
    obtain ⟨D0, d0⟩ := (S.out.box (X1, .slice a1 ps.length c1, ps) List.mem_cons_self).2
    obtain ⟨D1, d1⟩ := (S.out.box (X1, .slice a1 ps.length c1, ps) List.mem_cons_self).2
    refine (implAdd ps ps   D0 D1  _ _ _ d0 d1 ).mono ?_
    rintro e wv6 ⟨a3, l3, c3, he, W3, hb⟩
    clear d0 d1 
    rw [E1.out.2] at W3
    obtain rfl := Draw.wp_len W3
    rw [E1.out.1] at he
    obtain ⟨D9, r9⟩ := W3.read
    subst he
    clear W3
    have S2 := hide (S.out.below hb)
    clear S hb
    have S := S2
    clear S2
    have S2 := hide (Pit.add S.out r9)
    clear S r9
    have S := S2
    clear S2
    have zA := (S.out.box (X1, .slice a1 ps.length c1, ps) (List.mem_cons_of_mem _ List.mem_cons_self)).1.cell 0 _ rfl
    go_wp2_with fail
    clear zA
    generalize hZ0 : wv6.heap.size = X2 at S ⊢
    clear hZ0
    generalize (wv6.alloc (.cells #[.slice a3 s2.length c3] 25)) = wv7 at S ⊢
    obtain ⟨D0, d0⟩ := (S.out.box (X1, .slice a1 ps.length c1, ps) (List.mem_cons_of_mem _ List.mem_cons_self)).2
    refine (specOk ps   D0  _ _ d0 ).mono ?_
    rintro e wv8 ⟨he, hb⟩
    clear d0 
    rw [HK.out] at he
    subst he
    have S2 := hide (S.out.below hb)
    clear S hb
    have S := S2
    clear S2
    have zP := (S.out.box (X2, .slice a3 s2.length c3, s2) List.mem_cons_self).1.cell 0 _ rfl
    have zA := (S.out.box (X1, .slice a1 ps.length c1, ps) (List.mem_cons_of_mem _ List.mem_cons_self)).1.cell 0 _ rfl
    go_wp2_with fail
    clear zP zA
    obtain ⟨D0, d0⟩ := (S.out.box (X2, .slice a3 s2.length c3, s2) List.mem_cons_self).2
    obtain ⟨D1, d1⟩ := (S.out.box (X1, .slice a1 ps.length c1, ps) (List.mem_cons_of_mem _ List.mem_cons_self)).2
    refine (implAdd s2 ps   D0 D1  _ _ _ d0 d1 ).mono ?_
    rintro e wv9 ⟨a4, l4, c4, he, W3, hb⟩
    clear d0 d1 
    rw [E3.out.2.1] at W3
    obtain rfl := Draw.wp_len W3
    rw [E3.out.1] at he
    obtain ⟨D9, r9⟩ := W3.read
    subst he
    clear W3
    have S2 := hide (S.out.below hb)
    clear S hb
    have S := S2
    clear S2
    have S2 := hide (Pit.add S.out r9)
    clear S r9
    have S := S2
    clear S2
    go_wp2_with fail
    generalize hZ0 : wv9.heap.size = X3 at S ⊢
    clear hZ0
    generalize (wv9.alloc (.cells #[.slice a4 s3.length c4] 25)) = wv10 at S ⊢
    refine (wpIn_wide (n := 0)).1 ?_
    have S2 := hide S.out.drew
    clear S
    refine PhaseIn.region (S := fun v => Pit w [(X3, .slice a4 s3.length c4, s3), (X2, .slice a3 s2.length c3, s2), (X1, .slice a1 ps.length c1, ps)] [] v) 21 (by kernel_rfl) ?_
    generalize wv10.drew = wv11 at *
    have hHeld := S2.out
    clear S2
    refine PhaseIn.takeD (i := 0) (v := ?_) [0, 1, 2, 3, 4, 5, 6, 7, 8, 9, 10, 11, 12, 13, 14, 15, 16, 17, 18, 19, 20] 37 rfl (by rfl) (by kernel_rfl) (by kernel_rfl) (by kernel_rfl) (by kernel_rfl) (by kernel_rfl) (fun _ _ _ h => h) (Or.inl ⟨by kernel_rfl, ?_⟩) hHeld ?_
    rotate_left
    · intro w' hSw
      (try dsimp only at hSw)
      go_simp
      first | done | with_reducible rfl
    try simp only [Act.put, List.setIfInBounds_toArray, List.set]
    refine PhaseIn.takeD (i := 1) (v := ?_) [1, 2, 3, 4, 5, 6, 7, 8, 9, 10, 11, 12, 13, 14, 15, 16, 17, 18, 19, 20] 38 rfl (by rfl) (by kernel_rfl) (by kernel_rfl) (by kernel_rfl) (by kernel_rfl) (by kernel_rfl) (fun _ _ _ h => h) (Or.inl ⟨by kernel_rfl, ?_⟩) hHeld ?_
    rotate_left
    · intro w' hSw
      (try dsimp only at hSw)
      go_simp
      first | done | with_reducible rfl
    try simp only [Act.put, List.setIfInBounds_toArray, List.set]
    refine PhaseIn.takeD (i := 2) (v := ?_) [2, 3, 4, 5, 6, 7, 8, 9, 10, 11, 12, 13, 14, 15, 16, 17, 18, 19, 20] 39 rfl (by rfl) (by kernel_rfl) (by kernel_rfl) (by kernel_rfl) (by kernel_rfl) (by kernel_rfl) (fun _ _ _ h => h) (Or.inl ⟨by kernel_rfl, ?_⟩) hHeld ?_
    rotate_left
    · intro w' hSw
      (try dsimp only at hSw)
      go_simp
      first | done | with_reducible rfl
    try simp only [Act.put, List.setIfInBounds_toArray, List.set]
    refine PhaseIn.takeD (i := 3) (v := ?_) [3, 4, 5, 6, 7, 8, 9, 10, 11, 12, 13, 14, 15, 16, 17, 18, 19, 20] 40 rfl (by rfl) (by kernel_rfl) (by kernel_rfl) (by kernel_rfl) (by kernel_rfl) (by kernel_rfl) (fun _ _ _ h => h) (Or.inl ⟨by kernel_rfl, ?_⟩) hHeld ?_
    rotate_left
    · intro w' hSw
      (try dsimp only at hSw)
      go_simp
      first | done | with_reducible rfl
    try simp only [Act.put, List.setIfInBounds_toArray, List.set]
    refine PhaseIn.takeD (i := 4) (v := ?_) [4, 5, 6, 7, 8, 9, 10, 11, 12, 13, 14, 15, 16, 17, 18, 19, 20] 41 rfl (by rfl) (by kernel_rfl) (by kernel_rfl) (by kernel_rfl) (by kernel_rfl) (by kernel_rfl) (fun _ _ _ h => h) (Or.inl ⟨by kernel_rfl, ?_⟩) hHeld ?_
    rotate_left
    · intro w' hSw
      (try dsimp only at hSw)
      go_simp
      first | done | with_reducible rfl
    try simp only [Act.put, List.setIfInBounds_toArray, List.set]
    refine PhaseIn.takeD (i := 5) (v := ?_) [5, 8, 9, 10, 11, 12, 13, 14, 15, 16, 17, 18, 19, 20] 42 rfl (by rfl) (by kernel_rfl) (by kernel_rfl) (by kernel_rfl) (by kernel_rfl) (by kernel_rfl) (fun _ _ _ h => h) (Or.inl ⟨by kernel_rfl, ?_⟩) hHeld ?_
    rotate_left
    · intro w' hSw
      (try dsimp only at hSw)
      have z0 := (hSw.box (X2, .slice a3 s2.length c3, s2) (List.mem_cons_of_mem _ List.mem_cons_self)).1.cell 0 _ rfl
      go_simp
      first | done | with_reducible rfl
    try simp only [Act.put, List.setIfInBounds_toArray, List.set]
    refine PhaseIn.takeD (i := 6) (v := ?_) [6, 7, 8, 9, 10, 11, 12, 13, 14, 15, 16, 17, 18, 19, 20] 43 rfl (by rfl) (by kernel_rfl) (by kernel_rfl) (by kernel_rfl) (by kernel_rfl) (by kernel_rfl) (fun _ _ _ h => h) (Or.inl ⟨by kernel_rfl, ?_⟩) hHeld ?_
    rotate_left
    · intro w' hSw
      (try dsimp only at hSw)
      have z0 := (hSw.box (X1, .slice a1 ps.length c1, ps) (List.mem_cons_of_mem _ (List.mem_cons_of_mem _ List.mem_cons_self))).1.cell 0 _ rfl
      go_simp
      first | done | with_reducible rfl
    try simp only [Act.put, List.setIfInBounds_toArray, List.set]
    obtain ⟨D0, d0⟩ := (hHeld.box (X1, .slice a1 ps.length c1, ps) (List.mem_cons_of_mem _ (List.mem_cons_of_mem _ List.mem_cons_self))).2
    refine PhaseIn.one (i := 7) (by kernel_rfl) rfl (by kernel_rfl) (fun K hK => ?_)
    unfold Oper.wpIn
    refine ⟨fun _ _ => trivial, ?_⟩
    go_simp
    refine ⟨rfl, (callsIn_wide.2 (implScale ps 2 D0 _ wv11 d0)).mono ?_⟩
    rintro e wv12 ⟨a5, l5, c5, he, W3, hb⟩
    rw [ES2.out] at W3
    obtain rfl := Draw.wp_len W3
    obtain ⟨D9, r9⟩ := W3.read
    subst he
    clear W3
    replace hHeld := hHeld.below hb
    clear hb
    refine hK _ _ (fun _ => hHeld) ?_
    clear hK K
    try simp only [Act.put, List.setIfInBounds_toArray, List.set]
    clear d0 D0
    obtain ⟨D0, d0⟩ := (hHeld.box (X2, .slice a3 s2.length c3, s2) (List.mem_cons_of_mem _ List.mem_cons_self)).2
    refine PhaseIn.one (i := 8) (by kernel_rfl) rfl (by kernel_rfl) (fun K hK => ?_)
    unfold Oper.wpIn
    refine ⟨fun _ _ => trivial, ?_⟩
    go_simp
    refine ⟨rfl, (callsIn_wide.2 (La.laPoly s2 s2 D0 D9 _ _ wv12 d0 r9)).mono ?_⟩
    rintro e wv13 ⟨he, hb⟩
    rw [show decide (s2 = s2) = true from decide_eq_true rfl] at he
    subst he
    clear r9 d0
    replace hHeld := hHeld.below hb
    clear hb
    refine hK _ _ (fun _ => hHeld) ?_
    clear hK K
    try simp only [Act.put, List.setIfInBounds_toArray, List.set]
    refine PhaseIn.takeD (i := 9) (v := ?_) [9, 10, 11, 12, 13, 14, 15, 16, 17, 18, 19, 20] 46 rfl (by rfl) (by kernel_rfl) (by kernel_rfl) (by kernel_rfl) (by kernel_rfl) (by kernel_rfl) (fun _ _ _ h => h) (Or.inl ⟨by kernel_rfl, ?_⟩) hHeld ?_
    rotate_left
    · intro w' hSw
      (try dsimp only at hSw)
      go_simp
      first | done | with_reducible rfl
    try simp only [Act.put, List.setIfInBounds_toArray, List.set]
    refine PhaseIn.takeD (i := 10) (v := ?_) [10, 11, 12, 13, 14, 15, 16, 17, 18, 19, 20] 47 rfl (by rfl) (by kernel_rfl) (by kernel_rfl) (by kernel_rfl) (by kernel_rfl) (by kernel_rfl) (fun _ _ _ h => h) (Or.inl ⟨by kernel_rfl, ?_⟩) hHeld ?_
    rotate_left
    · intro w' hSw
      (try dsimp only at hSw)
      go_simp
      first | done | with_reducible rfl
    try simp only [Act.put, List.setIfInBounds_toArray, List.set]
    refine PhaseIn.takeD (i := 11) (v := ?_) [11, 14, 15, 16, 17, 18, 19, 20] 48 rfl (by rfl) (by kernel_rfl) (by kernel_rfl) (by kernel_rfl) (by kernel_rfl) (by kernel_rfl) (fun _ _ _ h => h) (Or.inl ⟨by kernel_rfl, ?_⟩) hHeld ?_
    rotate_left
    · intro w' hSw
      (try dsimp only at hSw)
      have z0 := (hSw.box (X3, .slice a4 s3.length c4, s3) List.mem_cons_self).1.cell 0 _ rfl
      go_simp
      first | done | with_reducible rfl
    try simp only [Act.put, List.setIfInBounds_toArray, List.set]
    refine PhaseIn.takeD (i := 12) (v := ?_) [12, 13, 14, 15, 16, 17, 18, 19, 20] 49 rfl (by rfl) (by kernel_rfl) (by kernel_rfl) (by kernel_rfl) (by kernel_rfl) (by kernel_rfl) (fun _ _ _ h => h) (Or.inl ⟨by kernel_rfl, ?_⟩) hHeld ?_
    rotate_left
    · intro w' hSw
      (try dsimp only at hSw)
      have z0 := (hSw.box (X1, .slice a1 ps.length c1, ps) (List.mem_cons_of_mem _ (List.mem_cons_of_mem _ List.mem_cons_self))).1.cell 0 _ rfl
      go_simp
      first | done | with_reducible rfl
    try simp only [Act.put, List.setIfInBounds_toArray, List.set]
    clear D0
    obtain ⟨D1, d1⟩ := (hHeld.box (X1, .slice a1 ps.length c1, ps) (List.mem_cons_of_mem _ (List.mem_cons_of_mem _ List.mem_cons_self))).2
    refine PhaseIn.one (i := 13) (by kernel_rfl) rfl (by kernel_rfl) (fun K hK => ?_)
    unfold Oper.wpIn
    refine ⟨fun _ _ => trivial, ?_⟩
    go_simp
    refine ⟨rfl, (callsIn_wide.2 (implScale ps 3 D1 _ wv13 d1)).mono ?_⟩
    rintro e wv14 ⟨a6, l6, c6, he, W3, hb⟩
    rw [ES3.out] at W3
    obtain rfl := Draw.wp_len W3
    obtain ⟨D8, r8⟩ := W3.read
    subst he
    clear W3
    replace hHeld := hHeld.below hb
    clear hb
    refine hK _ _ (fun _ => hHeld) ?_
    clear hK K
    try simp only [Act.put, List.setIfInBounds_toArray, List.set]
    clear d1
    obtain ⟨D2, d2⟩ := (hHeld.box (X3, .slice a4 s3.length c4, s3) List.mem_cons_self).2
    refine PhaseIn.one (i := 14) (by kernel_rfl) rfl (by kernel_rfl) (fun K hK => ?_)
    unfold Oper.wpIn
    refine ⟨fun _ _ => trivial, ?_⟩
    go_simp
    refine ⟨rfl, (callsIn_wide.2 (La.laPoly s3 s3 D2 D8 _ _ wv14 d2 r8)).mono ?_⟩
    rintro e wv15 ⟨he, hb⟩
    rw [show decide (s3 = s3) = true from decide_eq_true rfl] at he
    subst he
    clear r8 d2
    replace hHeld := hHeld.below hb
    clear hb
    refine hK _ _ (fun _ => hHeld) ?_
    clear hK K
    try simp only [Act.put, List.setIfInBounds_toArray, List.set]
    refine PhaseIn.takeD (i := 15) (v := ?_) [15, 16, 17, 18, 19, 20] 52 rfl (by rfl) (by kernel_rfl) (by kernel_rfl) (by kernel_rfl) (by kernel_rfl) (by kernel_rfl) (fun _ _ _ h => h) (Or.inl ⟨by kernel_rfl, ?_⟩) hHeld ?_
    rotate_left
    · intro w' hSw
      (try dsimp only at hSw)
      go_simp
      first | done | with_reducible rfl
    try simp only [Act.put, List.setIfInBounds_toArray, List.set]
    refine PhaseIn.takeD (i := 16) (v := ?_) [16, 17, 18, 19, 20] 53 rfl (by rfl) (by kernel_rfl) (by kernel_rfl) (by kernel_rfl) (by kernel_rfl) (by kernel_rfl) (fun _ _ _ h => h) (Or.inl ⟨by kernel_rfl, ?_⟩) hHeld ?_
    rotate_left
    · intro w' hSw
      (try dsimp only at hSw)
      go_simp
      first | done | with_reducible rfl
    try simp only [Act.put, List.setIfInBounds_toArray, List.set]
    refine PhaseIn.takeD (i := 17) (v := ?_) [17, 18, 19, 20] 54 rfl (by rfl) (by kernel_rfl) (by kernel_rfl) (by kernel_rfl) (by kernel_rfl) (by kernel_rfl) (fun _ _ _ h => h) (Or.inl ⟨by kernel_rfl, ?_⟩) hHeld ?_
    rotate_left
    · intro w' hSw
      (try dsimp only at hSw)
      have z0 := (hSw.box (X3, .slice a4 s3.length c4, s3) List.mem_cons_self).1.cell 0 _ rfl
      go_simp
      first | done | with_reducible rfl
    try simp only [Act.put, List.setIfInBounds_toArray, List.set]
    obtain ⟨D3, d3⟩ := (hHeld.box (X3, .slice a4 s3.length c4, s3) List.mem_cons_self).2
    refine PhaseIn.one (i := 18) (by kernel_rfl) rfl (by kernel_rfl) (fun K hK => ?_)
    unfold Oper.wpIn
    refine ⟨fun _ _ => trivial, ?_⟩
    go_simp
    refine ⟨rfl, (callsIn_wide.2 (implOk s3 D3 _ wv15 d3)).mono ?_⟩
    rintro e wv16 ⟨he, hb⟩
    rw [E3.out.2.2] at he
    subst he
    clear d3
    replace hHeld := hHeld.below hb
    clear hb
    refine hK _ _ (fun _ => hHeld) ?_
    clear hK K
    try simp only [Act.put, List.setIfInBounds_toArray, List.set]
    refine PhaseIn.takeD (i := 19) (v := ?_) [19, 20] 56 rfl (by rfl) (by kernel_rfl) (by kernel_rfl) (by kernel_rfl) (by kernel_rfl) (by kernel_rfl) (fun _ _ _ h => h) (Or.inl ⟨by kernel_rfl, ?_⟩) hHeld ?_
    rotate_left
    · intro w' hSw
      (try dsimp only at hSw)
      go_simp
      first | done | with_reducible rfl
    try simp only [Act.put, List.setIfInBounds_toArray, List.set]
    refine PhaseIn.takeD (i := 20) (v := ?_) [20] 2 rfl (by rfl) (by kernel_rfl) (by kernel_rfl) (by kernel_rfl) (by kernel_rfl) (by kernel_rfl) (fun _ _ _ h => h) (Or.inl ⟨by kernel_rfl, ?_⟩) hHeld ?_
    rotate_left
    · intro w' hSw
      (try dsimp only at hSw)
      go_simp
      first | done | with_reducible rfl
    try simp only [Act.put, List.setIfInBounds_toArray, List.set]
    refine PhaseIn.done (by kernel_rfl) ?_ _
    have S := hide hHeld
    clear hHeld
    have FIN := hide S.out.bw
    clear S
    go_wp2
    go_ret
    exact ⟨rfl, FIN.out⟩

set_option maxRecDepth 100000 in
theorem lifted (os : Os) (started : os.Started) (H : Type) (enc : TypeId × Value → H) :
    ReturnsInHanded {} Try.checked os 8 .any (Rows.fnPolTwiceSpec.pre6 enc Try.prog Try.f8 Rows.fnPolTwiceRow.domain false) (Rows.fnPolTwiceSpec.post enc Try.prog Try.f8 false true false false) := by
  refine returnsInHanded_of_change (C := Try.checked) own started (by kernel_rfl) Try.func8
    (ChangeSpec.witness6 (enc := enc) (C := Try.checked) false ⟨#[], #[.slice none 0 0], []⟩ 8 (by kernel_rfl) (by kernel_rfl) (by kernel_rfl) (by kernel_rfl)) ?_
  intro W base args ds gs before hval0 hW hcnd _
  have hval : ∀ (j : Nat) t v, Try.f8.params[j]? = some t → args[j]? = some v → Value.okWide Try.prog W .any base t v := hval0
  have hW' := hW
  obtain ⟨p, q, hA0, hV, rfl, hfz, hnd⟩ := hW
  have hA : DataW.TrodAll enc Try.prog W 0 (fun _ => true) true Try.f8.params.toList args.toList ds p := hA0
  rw [Try.params8] at hA hval
  obtain ⟨v0, vs0, d0, ds0, p0, q0, hargs, rfl, rfl, h0, r0⟩ := trodAll_cons hA
  obtain ⟨rfl, rfl, rfl⟩ := trodAll_nil r0
  obtain rfl : args = #[v0] := by cases args; simp_all
  obtain ⟨rfl, rfl⟩ := trodVars_none hV
  obtain ⟨a0, len0, cap0, rfl⟩ := okWide_slice Try.underlying22 (hval 0 22 v0 rfl rfl)
  have k0 := h0
  have lt0 : ∀ x ∈ p0, x.block < W.heap.size := by obtain ⟨m, hm⟩ := k0; exact DataW.trod_lt m _ _ _ hm
  obtain ⟨z0, w0⟩ : ∃ zs, IsRow .u8 W a0 len0 cap0 zs := by
    obtain ⟨fuel, hf⟩ := h0
    rcases open_ints Try.underlying22 Try.underlying5 (by kernel_rfl) hf with ⟨hcs, _⟩ | ⟨x, l, c, zs, hcs, _, hl, hm, hz, _, hcell, hwz⟩
    · simp [Value.cells] at hcs
      obtain ⟨rfl, rfl, rfl⟩ := hcs
      exact ⟨[], .inl ⟨rfl, rfl, rfl, rfl⟩⟩
    · simp [Value.cells] at hcs
      obtain ⟨rfl, rfl, rfl⟩ := hcs
      exact ⟨zs, .inr ⟨_, rfl, hl, hm, by simpa using hz, hcell, hwz⟩⟩
  clear hA0 hval0
  refine (walk a0 len0 cap0 z0 W w0).mono fun e W' ⟨he, bel⟩ => ?_
  subst he
  exact ⟨_, rfl, _, _, _, [], _, [], hW', trodAll_mk1 (shut_bool Try.underlying4 _), (trodAll_cons_mk (Below.trod laidOut (by kernel_rfl) (of_decide_eq_true (by kernel_rfl)) k0 bel lt0) trodAll_mk0), rfl, bel.frame _, fun h => by cases h⟩

theorem over : Rows.fnPolTwiceRow.holds Try.pinned (OpenSpec.ofChange Rows.fnPolTwiceSpec) :=
  OpenClaim.holds_of_wide 8 Try.f8 rfl rfl rfl rfl rfl rfl rfl ⟨rfl, rfl, rfl, rfl, rfl⟩ rfl rfl rfl rfl rfl (by kernel_rfl) Try.func8 (by kernel_rfl)
    (of_decide_eq_true (by kernel_rfl)) (by unfold Func.isWrapper; first | (rw [if_pos (by decide +kernel)]; kernel_rfl) | (rw [if_neg (by decide +kernel)]; exact ⟨rfl, rfl⟩))
    (fun os started H enc _ => lifted os started H enc)

theorem proved : Rows.FnPolTwiceSaid := over
#print axioms proved
end Go.Proofs.Ytckhfpaicnjknaa.fnPolTwice
