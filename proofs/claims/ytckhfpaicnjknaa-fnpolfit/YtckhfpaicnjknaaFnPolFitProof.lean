/-
  At every two codes of bytes the law FnPolFit returns true (P69: PolAdd is true where both have no more parts than PolMost together; PolMul where so many times so many are no more, and no two parts have more atoms than PolDeg together); no condition.
  The frame (the steps lifted, over, proved) is the guide's shell, written by its program; the walk and the lemmas ahead of it are mine.
-/
import Derived.Test.YtckhfpaicnjknaaRows
import Derived.WalkKit
import Derived.ProofKit
import Derived.OpenShut
import Derived.Test.YtckhfpaicnjknaaPolSi
import Derived.Test.YtckhfpaicnjknaaPolAd
import Derived.Test.YtckhfpaicnjknaaPolMl
import Derived.Test.YtckhfpaicnjknaaPolLb
import Derived.ShutString
import Derived.ChangeOld
import Derived.Below
namespace Go.Proofs.Ytckhfpaicnjknaa.fnPolFit
open Go.ChangeShapes Go.WideShapes Go.ChangeAt Go.RowKit
open Go.ChangeMaps (open_string shut_string)
set_option linter.unusedVariables false

theorem own : ownKnob Try.prog.godebug = none := by kernel_rfl
theorem laidOut : laidOutB Try.prog = true := by kernel_rfl

def IsRow (k : IntKind) (w : World) (a : Option Addr) (len cap : Nat) (zs : List Int) : Prop :=
  (a = none ∧ len = 0 ∧ cap = 0 ∧ zs = []) ∨
  ∃ x, a = some x ∧ len ≤ cap ∧ cap ≤ maxLen ∧ zs.length = cap ∧ (∀ i, i < zs.length → w.cell? (x.add i) = some (.int k (zs.getD i 0))) ∧ ∀ n ∈ zs, (Lit.int k n).wf = true

open IntS Pol
set_option linter.unusedVariables false
set_option linter.unusedSimpArgs false
theorem degL_le : ∀ (ps : List Mono) (n : Nat), (∀ m ∈ ps, m.2.length ≤ 4) → n ≤ 4 → degL ps n ≤ 4
  | [], n, _, h => h
  | m :: r, n, hm, h => by
    rw [degL]
    exact degL_le r _ (fun x hx => hm x (List.mem_cons_of_mem _ hx)) (by have := hm m (List.mem_cons_self ..); omega)
theorem deg_ok {ps : List Mono} (h : okP ps = true) : degL ps 0 ≤ 4 := degL_le ps 0 (ok_good h).four (by omega)
theorem prod_bd {a b : Nat} (ha : a ≤ 12) (hb : b ≤ 12) : (0 : Int) ≤ (a : Int) * (b : Int) ∧ (a : Int) * (b : Int) ≤ 144 := by
  have h1 : a * b ≤ 12 * 12 := Nat.mul_le_mul ha hb
  have h2 : ((a * b : Nat) : Int) = (a : Int) * (b : Int) := Int.natCast_mul a b
  rw [← h2]
  omega
theorem prod_le {a b : Nat} (h : ¬ (12 : Int) < (a : Int) * (b : Int)) : a * b ≤ 12 := by
  have h2 : ((a * b : Nat) : Int) = (a : Int) * (b : Int) := Int.natCast_mul a b
  rw [← h2] at h
  omega

set_option maxRecDepth 8000 in
set_option maxHeartbeats 16000000 in
theorem walk (a0 : Option Addr) (len0 cap0 : Nat) (z0 : List Int) (a1 : Option Addr) (len1 cap1 : Nat) (z1 : List Int) (w : World) (w0 : IsRow .u8 w a0 len0 cap0 z0) (w1 : IsRow .u8 w a1 len1 cap1 z1) :
    Calls Try.prog 7 #[.slice a0 len0 cap0, .slice a1 len1 cap1] w fun e w' => e = .returned (.bool true) ∧ Below w.heap.size w w' := by
  obtain ⟨hlc, hm, hc⟩ := Draw.code_row w a0 len0 cap0 z0 w0
  obtain ⟨hlc1, hm1, hc1⟩ := Draw.code_row w a1 len1 cap1 z1 w1
  by_cases hl : 1048576 < len0
  · unfold maxLen at hm hm1
    go_enter Try.func7, Try.ntmps7
    go_wp2
    go_ret
    exact ⟨rfl, Below.refl _ _⟩
  by_cases hl1 : 1048576 < len1
  · unfold maxLen at hm hm1
    go_enter Try.func7, Try.ntmps7
    go_wp2
    go_ret
    exact ⟨rfl, Below.refl _ _⟩
  clear w0 w1
  go_enter Try.func7, Try.ntmps7
  go_wp2_with fail
  refine (Draw.drawAdd a0 len0 cap0 _ hlc hm hc).mono ?_
  rintro e va ⟨u1, k1, pa, u2, k2, pb, B1, B2, rfl, r1, r2, hb⟩
  have r3 := r2.below ((Below.refl va.heap.size va).alloc (Nat.le_refl _) (.cells #[.slice u1 pa.length k1] 25))
  have S := hide (Pit.new hb)
  replace hc1 := hide (hc1.below hb)
  clear hb hc hm hlc r2
  have S2 := hide (Pit.add S.out r1)
  clear S r1
  have S := S2
  clear S2
  have S2 := hide (Pit.add S.out r3)
  clear S r3
  have S := S2
  clear S2
  replace hc1 := hide (hc1.out.below (((Below.refl va.heap.size va).alloc (Nat.le_refl _) (.cells #[.slice u1 pa.length k1] 25)).alloc (by simp) (.cells #[.slice u2 pb.length k2] 25) |>.mono (Nat.le_refl _)))
  rw [show (va.alloc (.cells #[.slice u1 pa.length k1] 25)).heap.size = va.heap.size + 1 by simp] at S
  go_wp2_with fail
  generalize hZ1 : va.heap.size + 1 = X2 at S ⊢
  clear hZ1
  generalize hZ0 : va.heap.size = X1 at S ⊢
  clear hZ0
  generalize ((va.alloc (.cells #[.slice u1 pa.length k1] 25)).alloc (.cells #[.slice u2 pb.length k2] 25)) = wv1 at S hc1 ⊢
  refine (Draw.drawMul a1 len1 cap1 _ hlc1 hm1 hc1.out).mono ?_
  rintro e vb ⟨u3, k3, pc, u4, k4, pd, B1, B2, rfl, r1, r2, hb⟩
  have r3 := r2.below ((Below.refl vb.heap.size vb).alloc (Nat.le_refl _) (.cells #[.slice u3 pc.length k3] 25))
  clear hc1 hm1 hlc1 r2
  have S2 := hide (S.out.below hb)
  clear S hb
  have S := S2
  clear S2
  have S2 := hide (Pit.add S.out r1)
  clear S r1
  have S := S2
  clear S2
  have S2 := hide (Pit.add S.out r3)
  clear S r3
  have S := S2
  clear S2
  rw [show (vb.alloc (.cells #[.slice u3 pc.length k3] 25)).heap.size = vb.heap.size + 1 by simp] at S
  have zA := (S.out.box (X1, .slice u1 pa.length k1, pa) (List.mem_cons_of_mem _ (List.mem_cons_of_mem _ (List.mem_cons_of_mem _ List.mem_cons_self)))).1.cell 0 _ rfl
  go_wp2_with fail
  clear zA
  generalize hZ1 : vb.heap.size + 1 = X4 at S ⊢
  clear hZ1
  generalize hZ0 : vb.heap.size = X3 at S ⊢
  clear hZ0
  generalize ((vb.alloc (.cells #[.slice u3 pc.length k3] 25)).alloc (.cells #[.slice u4 pd.length k4] 25)) = wv2 at S ⊢
  obtain ⟨oka, ea⟩ : ∃ oka, okP pa = oka := ⟨_, rfl⟩
  have Ea := hide ea
  clear ea
  obtain ⟨okb, eb⟩ : ∃ okb, okP pb = okb := ⟨_, rfl⟩
  have Eb := hide eb
  clear eb
  obtain ⟨okc, ec⟩ : ∃ okc, okP pc = okc := ⟨_, rfl⟩
  have Ec := hide ec
  clear ec
  obtain ⟨okd, ed⟩ : ∃ okd, okP pd = okd := ⟨_, rfl⟩
  have Ed := hide ed
  clear ed
  obtain ⟨D0, d0⟩ := (S.out.box (X1, .slice u1 pa.length k1, pa) (List.mem_cons_of_mem _ (List.mem_cons_of_mem _ (List.mem_cons_of_mem _ List.mem_cons_self)))).2
  refine (specOk pa   D0  _ _ d0 ).mono ?_
  rintro e wv3 ⟨he, hb⟩
  clear d0 
  rw [Ea.out] at he
  subst he
  have S2 := hide (S.out.below hb)
  clear S hb
  have S := S2
  clear S2
  cases oka with
  | false =>
    go_wp2_with fail
    cases okc with
    | false =>
      refine (wpIn_wide (n := 0)).1 ?_
      have S2 := hide S.out.drew
      clear S
      refine PhaseIn.region (S := fun v => Pit w [(X4, .slice u4 pd.length k4, pd), (X3, .slice u3 pc.length k3, pc), (X2, .slice u2 pb.length k2, pb), (X1, .slice u1 pa.length k1, pa)] [] v) 26 (by kernel_rfl) ?_
      generalize wv3.drew = wv4 at *
      have hHeld := S2.out
      clear S2
      refine PhaseIn.takeD (i := 0) (v := ?_) [0, 1, 2, 3, 4, 5, 6, 7, 8, 9, 10, 11, 12, 13, 14, 15, 16, 17, 18, 19, 20, 21, 22, 23, 24, 25] 55 rfl (by rfl) (by kernel_rfl) (by kernel_rfl) (by kernel_rfl) (by kernel_rfl) (by kernel_rfl) (fun _ _ _ h => h) (Or.inl ⟨by kernel_rfl, ?_⟩) hHeld ?_
      rotate_left
      · intro w' hSw
        (try dsimp only at hSw)
        have z0 := (hSw.box (X3, .slice u3 pc.length k3, pc) (List.mem_cons_of_mem _ List.mem_cons_self)).1.cell 0 _ rfl
        go_simp
        first | done | with_reducible rfl
      try simp only [Act.put, List.setIfInBounds_toArray, List.set]
      obtain ⟨D0, d0⟩ := (hHeld.box (X3, .slice u3 pc.length k3, pc) (List.mem_cons_of_mem _ List.mem_cons_self)).2
      refine PhaseIn.one (i := 1) (by kernel_rfl) rfl (by kernel_rfl) (fun K hK => ?_)
      unfold Oper.wpIn
      refine ⟨fun _ _ => trivial, ?_⟩
      go_simp
      refine ⟨rfl, (callsIn_wide.2 (specOk pc D0 _ wv4 d0)).mono ?_⟩
      rintro e wv5 ⟨he, hb⟩
      rw [Ec.out] at he
      subst he
      clear d0
      replace hHeld := hHeld.below hb
      clear hb
      refine hK _ _ (fun _ => hHeld) ?_
      clear hK K
      try simp only [Act.put, List.setIfInBounds_toArray, List.set]
      refine PhaseIn.takeD (i := 2) (v := ?_) [2, 3, 4, 5, 6, 7, 8, 9, 10, 11, 12, 13, 14, 15, 16, 17, 18, 19, 20, 21, 22, 23, 24, 25] 57 rfl (by rfl) (by kernel_rfl) (by kernel_rfl) (by kernel_rfl) (by kernel_rfl) (by kernel_rfl) (fun _ _ _ h => h) (Or.inl ⟨by kernel_rfl, ?_⟩) hHeld ?_
      rotate_left
      · intro w' hSw
        (try dsimp only at hSw)
        go_simp
        first | done | with_reducible rfl
      try simp only [Act.put, List.setIfInBounds_toArray, List.set]
      refine PhaseIn.takeD (i := 3) (v := ?_) [3, 4, 5, 6, 7, 8, 9, 10, 11, 12, 13, 14, 15, 16, 17, 18, 19, 20, 21, 22, 23, 24, 25] 58 rfl (by rfl) (by kernel_rfl) (by kernel_rfl) (by kernel_rfl) (by kernel_rfl) (by kernel_rfl) (fun _ _ _ h => h) (Or.inl ⟨by kernel_rfl, ?_⟩) hHeld ?_
      rotate_left
      · intro w' hSw
        (try dsimp only at hSw)
        go_simp
        first | done | with_reducible rfl
      try simp only [Act.put, List.setIfInBounds_toArray, List.set]
      refine PhaseIn.takeD (i := 4) (v := undef) [4, 5, 6, 7, 8, 9, 10, 11, 12, 13, 14, 15, 16, 17, 18, 19, 20, 21, 22, 23, 24, 25] 59 rfl (by rfl) (by kernel_rfl) (by kernel_rfl) (by kernel_rfl) (by kernel_rfl) (by kernel_rfl) (fun _ _ _ h => h) (Or.inr ⟨by kernel_rfl, rfl⟩) hHeld ?_
      try simp only [Act.put, List.setIfInBounds_toArray, List.set]
      refine PhaseIn.takeD (i := 5) (v := undef) [5, 6, 7, 8, 9, 10, 11, 12, 13, 14, 15, 16, 17, 18, 19, 20, 21, 22, 23, 24, 25] 60 rfl (by rfl) (by kernel_rfl) (by kernel_rfl) (by kernel_rfl) (by kernel_rfl) (by kernel_rfl) (fun _ _ _ h => h) (Or.inr ⟨by kernel_rfl, rfl⟩) hHeld ?_
      try simp only [Act.put, List.setIfInBounds_toArray, List.set]
      refine PhaseIn.takeD (i := 6) (v := undef) [6, 7, 8, 9, 10, 11, 12, 13, 14, 15, 16, 17, 18, 19, 20, 21, 22, 23, 24, 25] 61 rfl (by rfl) (by kernel_rfl) (by kernel_rfl) (by kernel_rfl) (by kernel_rfl) (by kernel_rfl) (fun _ _ _ h => h) (Or.inr ⟨by kernel_rfl, rfl⟩) hHeld ?_
      try simp only [Act.put, List.setIfInBounds_toArray, List.set]
      refine PhaseIn.takeD (i := 7) (v := ?_) [7, 8, 9, 10, 11, 12, 13, 14, 15, 16, 17, 18, 19, 20, 21, 22, 23, 24, 25] 62 rfl (by rfl) (by kernel_rfl) (by kernel_rfl) (by kernel_rfl) (by kernel_rfl) (by kernel_rfl) (fun _ _ _ h => h) (Or.inl ⟨by kernel_rfl, ?_⟩) hHeld ?_
      rotate_left
      · intro w' hSw
        (try dsimp only at hSw)
        go_simp
        first | done | with_reducible rfl
      try simp only [Act.put, List.setIfInBounds_toArray, List.set]
      refine PhaseIn.takeD (i := 8) (v := ?_) [8, 9, 10, 11, 12, 13, 14, 15, 16, 17, 18, 19, 20, 21, 22, 23, 24, 25] 63 rfl (by rfl) (by kernel_rfl) (by kernel_rfl) (by kernel_rfl) (by kernel_rfl) (by kernel_rfl) (fun _ _ _ h => h) (Or.inl ⟨by kernel_rfl, ?_⟩) hHeld ?_
      rotate_left
      · intro w' hSw
        (try dsimp only at hSw)
        go_simp
        first | done | with_reducible rfl
      try simp only [Act.put, List.setIfInBounds_toArray, List.set]
      refine PhaseIn.takeD (i := 9) (v := undef) [9, 10, 11, 15, 16, 17, 18, 19, 20, 21, 22, 23, 24, 25] 64 rfl (by rfl) (by kernel_rfl) (by kernel_rfl) (by kernel_rfl) (by kernel_rfl) (by kernel_rfl) (fun _ _ _ h => h) (Or.inr ⟨by kernel_rfl, rfl⟩) hHeld ?_
      try simp only [Act.put, List.setIfInBounds_toArray, List.set]
      refine PhaseIn.takeD (i := 10) (v := undef) [10, 11, 15, 16, 17, 18, 19, 20, 21, 22, 23, 24, 25] 65 rfl (by rfl) (by kernel_rfl) (by kernel_rfl) (by kernel_rfl) (by kernel_rfl) (by kernel_rfl) (fun _ _ _ h => h) (Or.inr ⟨by kernel_rfl, rfl⟩) hHeld ?_
      try simp only [Act.put, List.setIfInBounds_toArray, List.set]
      refine PhaseIn.takeD (i := 11) (v := undef) [11, 15, 16, 17, 18, 19, 20, 21, 22, 23, 24, 25] 66 rfl (by rfl) (by kernel_rfl) (by kernel_rfl) (by kernel_rfl) (by kernel_rfl) (by kernel_rfl) (fun _ _ _ h => h) (Or.inr ⟨by kernel_rfl, rfl⟩) hHeld ?_
      try simp only [Act.put, List.setIfInBounds_toArray, List.set]
      refine PhaseIn.takeD (i := 12) (v := undef) [12, 13, 14, 15, 16, 17, 18, 19, 20, 21, 22, 23, 24, 25] 67 rfl (by rfl) (by kernel_rfl) (by kernel_rfl) (by kernel_rfl) (by kernel_rfl) (by kernel_rfl) (fun _ _ _ h => h) (Or.inr ⟨by kernel_rfl, rfl⟩) hHeld ?_
      try simp only [Act.put, List.setIfInBounds_toArray, List.set]
      refine PhaseIn.takeD (i := 13) (v := undef) [13, 14, 15, 16, 17, 18, 19, 20, 21, 22, 23, 24, 25] 68 rfl (by rfl) (by kernel_rfl) (by kernel_rfl) (by kernel_rfl) (by kernel_rfl) (by kernel_rfl) (fun _ _ _ h => h) (Or.inr ⟨by kernel_rfl, rfl⟩) hHeld ?_
      try simp only [Act.put, List.setIfInBounds_toArray, List.set]
      refine PhaseIn.takeD (i := 14) (v := undef) [14, 15, 16, 17, 18, 19, 20, 21, 22, 23, 24, 25] 69 rfl (by rfl) (by kernel_rfl) (by kernel_rfl) (by kernel_rfl) (by kernel_rfl) (by kernel_rfl) (fun _ _ _ h => h) (Or.inr ⟨by kernel_rfl, rfl⟩) hHeld ?_
      try simp only [Act.put, List.setIfInBounds_toArray, List.set]
      refine PhaseIn.takeD (i := 15) (v := undef) [15, 16, 17, 18, 19, 20, 21, 22, 23, 24, 25] 70 rfl (by rfl) (by kernel_rfl) (by kernel_rfl) (by kernel_rfl) (by kernel_rfl) (by kernel_rfl) (fun _ _ _ h => h) (Or.inr ⟨by kernel_rfl, rfl⟩) hHeld ?_
      try simp only [Act.put, List.setIfInBounds_toArray, List.set]
      refine PhaseIn.takeD (i := 16) (v := undef) [16, 17, 18, 19, 20, 21, 22, 23, 24, 25] 71 rfl (by rfl) (by kernel_rfl) (by kernel_rfl) (by kernel_rfl) (by kernel_rfl) (by kernel_rfl) (fun _ _ _ h => h) (Or.inr ⟨by kernel_rfl, rfl⟩) hHeld ?_
      try simp only [Act.put, List.setIfInBounds_toArray, List.set]
      refine PhaseIn.takeD (i := 17) (v := ?_) [17, 18, 19, 20, 21, 22, 23, 24, 25] 72 rfl (by rfl) (by kernel_rfl) (by kernel_rfl) (by kernel_rfl) (by kernel_rfl) (by kernel_rfl) (fun _ _ _ h => h) (Or.inl ⟨by kernel_rfl, ?_⟩) hHeld ?_
      rotate_left
      · intro w' hSw
        (try dsimp only at hSw)
        go_simp
        first | done | with_reducible rfl
      try simp only [Act.put, List.setIfInBounds_toArray, List.set]
      refine PhaseIn.takeD (i := 18) (v := ?_) [18, 19, 20, 21, 22, 23, 24, 25] 73 rfl (by rfl) (by kernel_rfl) (by kernel_rfl) (by kernel_rfl) (by kernel_rfl) (by kernel_rfl) (fun _ _ _ h => h) (Or.inl ⟨by kernel_rfl, ?_⟩) hHeld ?_
      rotate_left
      · intro w' hSw
        (try dsimp only at hSw)
        go_simp
        first | done | with_reducible rfl
      try simp only [Act.put, List.setIfInBounds_toArray, List.set]
      refine PhaseIn.takeD (i := 19) (v := undef) [19, 20, 22, 23, 24, 25] 74 rfl (by rfl) (by kernel_rfl) (by kernel_rfl) (by kernel_rfl) (by kernel_rfl) (by kernel_rfl) (fun _ _ _ h => h) (Or.inr ⟨by kernel_rfl, rfl⟩) hHeld ?_
      try simp only [Act.put, List.setIfInBounds_toArray, List.set]
      refine PhaseIn.takeD (i := 20) (v := undef) [20, 22, 23, 24, 25] 75 rfl (by rfl) (by kernel_rfl) (by kernel_rfl) (by kernel_rfl) (by kernel_rfl) (by kernel_rfl) (fun _ _ _ h => h) (Or.inr ⟨by kernel_rfl, rfl⟩) hHeld ?_
      try simp only [Act.put, List.setIfInBounds_toArray, List.set]
      refine PhaseIn.takeD (i := 21) (v := undef) [21, 22, 23, 24, 25] 76 rfl (by rfl) (by kernel_rfl) (by kernel_rfl) (by kernel_rfl) (by kernel_rfl) (by kernel_rfl) (fun _ _ _ h => h) (Or.inr ⟨by kernel_rfl, rfl⟩) hHeld ?_
      try simp only [Act.put, List.setIfInBounds_toArray, List.set]
      refine PhaseIn.takeD (i := 22) (v := undef) [22, 23, 24, 25] 77 rfl (by rfl) (by kernel_rfl) (by kernel_rfl) (by kernel_rfl) (by kernel_rfl) (by kernel_rfl) (fun _ _ _ h => h) (Or.inr ⟨by kernel_rfl, rfl⟩) hHeld ?_
      try simp only [Act.put, List.setIfInBounds_toArray, List.set]
      refine PhaseIn.takeD (i := 23) (v := undef) [23, 24, 25] 78 rfl (by rfl) (by kernel_rfl) (by kernel_rfl) (by kernel_rfl) (by kernel_rfl) (by kernel_rfl) (fun _ _ _ h => h) (Or.inr ⟨by kernel_rfl, rfl⟩) hHeld ?_
      try simp only [Act.put, List.setIfInBounds_toArray, List.set]
      refine PhaseIn.takeD (i := 24) (v := undef) [24, 25] 79 rfl (by rfl) (by kernel_rfl) (by kernel_rfl) (by kernel_rfl) (by kernel_rfl) (by kernel_rfl) (fun _ _ _ h => h) (Or.inr ⟨by kernel_rfl, rfl⟩) hHeld ?_
      try simp only [Act.put, List.setIfInBounds_toArray, List.set]
      refine PhaseIn.takeD (i := 25) (v := ?_) [25] 80 rfl (by rfl) (by kernel_rfl) (by kernel_rfl) (by kernel_rfl) (by kernel_rfl) (by kernel_rfl) (fun _ _ _ h => h) (Or.inl ⟨by kernel_rfl, ?_⟩) hHeld ?_
      rotate_left
      · intro w' hSw
        (try dsimp only at hSw)
        go_simp
        first | done | with_reducible rfl
      try simp only [Act.put, List.setIfInBounds_toArray, List.set]
      refine PhaseIn.done (by kernel_rfl) ?_ _
      have S := hide hHeld
      clear hHeld
      go_wp2_with fail
      refine (La.laOk wv5).mono ?_
      rintro e wz ⟨rfl, rfl⟩
      have FIN := hide S.out.bw
      clear S
      go_wp2
      go_ret
      exact ⟨rfl, FIN.out⟩
    | true =>
      cases okd with
      | false =>
        refine (wpIn_wide (n := 0)).1 ?_
        have S2 := hide S.out.drew
        clear S
        refine PhaseIn.region (S := fun v => Pit w [(X4, .slice u4 pd.length k4, pd), (X3, .slice u3 pc.length k3, pc), (X2, .slice u2 pb.length k2, pb), (X1, .slice u1 pa.length k1, pa)] [] v) 26 (by kernel_rfl) ?_
        generalize wv3.drew = wv6 at *
        have hHeld := S2.out
        clear S2
        refine PhaseIn.takeD (i := 0) (v := ?_) [0, 1, 2, 3, 4, 5, 6, 7, 8, 9, 10, 11, 12, 13, 14, 15, 16, 17, 18, 19, 20, 21, 22, 23, 24, 25] 55 rfl (by rfl) (by kernel_rfl) (by kernel_rfl) (by kernel_rfl) (by kernel_rfl) (by kernel_rfl) (fun _ _ _ h => h) (Or.inl ⟨by kernel_rfl, ?_⟩) hHeld ?_
        rotate_left
        · intro w' hSw
          (try dsimp only at hSw)
          have z0 := (hSw.box (X3, .slice u3 pc.length k3, pc) (List.mem_cons_of_mem _ List.mem_cons_self)).1.cell 0 _ rfl
          go_simp
          first | done | with_reducible rfl
        try simp only [Act.put, List.setIfInBounds_toArray, List.set]
        obtain ⟨D0, d0⟩ := (hHeld.box (X3, .slice u3 pc.length k3, pc) (List.mem_cons_of_mem _ List.mem_cons_self)).2
        refine PhaseIn.one (i := 1) (by kernel_rfl) rfl (by kernel_rfl) (fun K hK => ?_)
        unfold Oper.wpIn
        refine ⟨fun _ _ => trivial, ?_⟩
        go_simp
        refine ⟨rfl, (callsIn_wide.2 (specOk pc D0 _ wv6 d0)).mono ?_⟩
        rintro e wv7 ⟨he, hb⟩
        rw [Ec.out] at he
        subst he
        clear d0
        replace hHeld := hHeld.below hb
        clear hb
        refine hK _ _ (fun _ => hHeld) ?_
        clear hK K
        try simp only [Act.put, List.setIfInBounds_toArray, List.set]
        refine PhaseIn.takeD (i := 2) (v := ?_) [2, 3, 4, 5, 6, 7, 8, 9, 10, 11, 12, 13, 14, 15, 16, 17, 18, 19, 20, 21, 22, 23, 24, 25] 57 rfl (by rfl) (by kernel_rfl) (by kernel_rfl) (by kernel_rfl) (by kernel_rfl) (by kernel_rfl) (fun _ _ _ h => h) (Or.inl ⟨by kernel_rfl, ?_⟩) hHeld ?_
        rotate_left
        · intro w' hSw
          (try dsimp only at hSw)
          go_simp
          first | done | with_reducible rfl
        try simp only [Act.put, List.setIfInBounds_toArray, List.set]
        refine PhaseIn.takeD (i := 3) (v := ?_) [3, 4, 5, 6, 7, 8, 9, 10, 11, 12, 13, 14, 15, 16, 17, 18, 19, 20, 21, 22, 23, 24, 25] 58 rfl (by rfl) (by kernel_rfl) (by kernel_rfl) (by kernel_rfl) (by kernel_rfl) (by kernel_rfl) (fun _ _ _ h => h) (Or.inl ⟨by kernel_rfl, ?_⟩) hHeld ?_
        rotate_left
        · intro w' hSw
          (try dsimp only at hSw)
          go_simp
          first | done | with_reducible rfl
        try simp only [Act.put, List.setIfInBounds_toArray, List.set]
        refine PhaseIn.takeD (i := 4) (v := ?_) [4, 5, 6, 7, 8, 9, 10, 11, 12, 13, 14, 15, 16, 17, 18, 19, 20, 21, 22, 23, 24, 25] 59 rfl (by rfl) (by kernel_rfl) (by kernel_rfl) (by kernel_rfl) (by kernel_rfl) (by kernel_rfl) (fun _ _ _ h => h) (Or.inl ⟨by kernel_rfl, ?_⟩) hHeld ?_
        rotate_left
        · intro w' hSw
          (try dsimp only at hSw)
          have z0 := (hSw.box (X4, .slice u4 pd.length k4, pd) List.mem_cons_self).1.cell 0 _ rfl
          go_simp
          first | done | with_reducible rfl
        try simp only [Act.put, List.setIfInBounds_toArray, List.set]
        obtain ⟨D0, d0⟩ := (hHeld.box (X4, .slice u4 pd.length k4, pd) List.mem_cons_self).2
        refine PhaseIn.one (i := 5) (by kernel_rfl) rfl (by kernel_rfl) (fun K hK => ?_)
        unfold Oper.wpIn
        refine ⟨fun _ _ => trivial, ?_⟩
        go_simp
        refine ⟨rfl, (callsIn_wide.2 (specOk pd D0 _ wv7 d0)).mono ?_⟩
        rintro e wv8 ⟨he, hb⟩
        rw [Ed.out] at he
        subst he
        clear d0
        replace hHeld := hHeld.below hb
        clear hb
        refine hK _ _ (fun _ => hHeld) ?_
        clear hK K
        try simp only [Act.put, List.setIfInBounds_toArray, List.set]
        refine PhaseIn.takeD (i := 6) (v := ?_) [6, 7, 8, 9, 10, 11, 12, 13, 14, 15, 16, 17, 18, 19, 20, 21, 22, 23, 24, 25] 61 rfl (by rfl) (by kernel_rfl) (by kernel_rfl) (by kernel_rfl) (by kernel_rfl) (by kernel_rfl) (fun _ _ _ h => h) (Or.inl ⟨by kernel_rfl, ?_⟩) hHeld ?_
        rotate_left
        · intro w' hSw
          (try dsimp only at hSw)
          go_simp
          first | done | with_reducible rfl
        try simp only [Act.put, List.setIfInBounds_toArray, List.set]
        refine PhaseIn.takeD (i := 7) (v := ?_) [7, 8, 9, 10, 11, 12, 13, 14, 15, 16, 17, 18, 19, 20, 21, 22, 23, 24, 25] 62 rfl (by rfl) (by kernel_rfl) (by kernel_rfl) (by kernel_rfl) (by kernel_rfl) (by kernel_rfl) (fun _ _ _ h => h) (Or.inl ⟨by kernel_rfl, ?_⟩) hHeld ?_
        rotate_left
        · intro w' hSw
          (try dsimp only at hSw)
          go_simp
          first | done | with_reducible rfl
        try simp only [Act.put, List.setIfInBounds_toArray, List.set]
        refine PhaseIn.takeD (i := 8) (v := ?_) [8, 9, 10, 11, 12, 13, 14, 15, 16, 17, 18, 19, 20, 21, 22, 23, 24, 25] 63 rfl (by rfl) (by kernel_rfl) (by kernel_rfl) (by kernel_rfl) (by kernel_rfl) (by kernel_rfl) (fun _ _ _ h => h) (Or.inl ⟨by kernel_rfl, ?_⟩) hHeld ?_
        rotate_left
        · intro w' hSw
          (try dsimp only at hSw)
          go_simp
          first | done | with_reducible rfl
        try simp only [Act.put, List.setIfInBounds_toArray, List.set]
        refine PhaseIn.takeD (i := 9) (v := undef) [9, 10, 11, 15, 16, 17, 18, 19, 20, 21, 22, 23, 24, 25] 64 rfl (by rfl) (by kernel_rfl) (by kernel_rfl) (by kernel_rfl) (by kernel_rfl) (by kernel_rfl) (fun _ _ _ h => h) (Or.inr ⟨by kernel_rfl, rfl⟩) hHeld ?_
        try simp only [Act.put, List.setIfInBounds_toArray, List.set]
        refine PhaseIn.takeD (i := 10) (v := undef) [10, 11, 15, 16, 17, 18, 19, 20, 21, 22, 23, 24, 25] 65 rfl (by rfl) (by kernel_rfl) (by kernel_rfl) (by kernel_rfl) (by kernel_rfl) (by kernel_rfl) (fun _ _ _ h => h) (Or.inr ⟨by kernel_rfl, rfl⟩) hHeld ?_
        try simp only [Act.put, List.setIfInBounds_toArray, List.set]
        refine PhaseIn.takeD (i := 11) (v := undef) [11, 15, 16, 17, 18, 19, 20, 21, 22, 23, 24, 25] 66 rfl (by rfl) (by kernel_rfl) (by kernel_rfl) (by kernel_rfl) (by kernel_rfl) (by kernel_rfl) (fun _ _ _ h => h) (Or.inr ⟨by kernel_rfl, rfl⟩) hHeld ?_
        try simp only [Act.put, List.setIfInBounds_toArray, List.set]
        refine PhaseIn.takeD (i := 12) (v := undef) [12, 13, 14, 15, 16, 17, 18, 19, 20, 21, 22, 23, 24, 25] 67 rfl (by rfl) (by kernel_rfl) (by kernel_rfl) (by kernel_rfl) (by kernel_rfl) (by kernel_rfl) (fun _ _ _ h => h) (Or.inr ⟨by kernel_rfl, rfl⟩) hHeld ?_
        try simp only [Act.put, List.setIfInBounds_toArray, List.set]
        refine PhaseIn.takeD (i := 13) (v := undef) [13, 14, 15, 16, 17, 18, 19, 20, 21, 22, 23, 24, 25] 68 rfl (by rfl) (by kernel_rfl) (by kernel_rfl) (by kernel_rfl) (by kernel_rfl) (by kernel_rfl) (fun _ _ _ h => h) (Or.inr ⟨by kernel_rfl, rfl⟩) hHeld ?_
        try simp only [Act.put, List.setIfInBounds_toArray, List.set]
        refine PhaseIn.takeD (i := 14) (v := undef) [14, 15, 16, 17, 18, 19, 20, 21, 22, 23, 24, 25] 69 rfl (by rfl) (by kernel_rfl) (by kernel_rfl) (by kernel_rfl) (by kernel_rfl) (by kernel_rfl) (fun _ _ _ h => h) (Or.inr ⟨by kernel_rfl, rfl⟩) hHeld ?_
        try simp only [Act.put, List.setIfInBounds_toArray, List.set]
        refine PhaseIn.takeD (i := 15) (v := undef) [15, 16, 17, 18, 19, 20, 21, 22, 23, 24, 25] 70 rfl (by rfl) (by kernel_rfl) (by kernel_rfl) (by kernel_rfl) (by kernel_rfl) (by kernel_rfl) (fun _ _ _ h => h) (Or.inr ⟨by kernel_rfl, rfl⟩) hHeld ?_
        try simp only [Act.put, List.setIfInBounds_toArray, List.set]
        refine PhaseIn.takeD (i := 16) (v := undef) [16, 17, 18, 19, 20, 21, 22, 23, 24, 25] 71 rfl (by rfl) (by kernel_rfl) (by kernel_rfl) (by kernel_rfl) (by kernel_rfl) (by kernel_rfl) (fun _ _ _ h => h) (Or.inr ⟨by kernel_rfl, rfl⟩) hHeld ?_
        try simp only [Act.put, List.setIfInBounds_toArray, List.set]
        refine PhaseIn.takeD (i := 17) (v := ?_) [17, 18, 19, 20, 21, 22, 23, 24, 25] 72 rfl (by rfl) (by kernel_rfl) (by kernel_rfl) (by kernel_rfl) (by kernel_rfl) (by kernel_rfl) (fun _ _ _ h => h) (Or.inl ⟨by kernel_rfl, ?_⟩) hHeld ?_
        rotate_left
        · intro w' hSw
          (try dsimp only at hSw)
          go_simp
          first | done | with_reducible rfl
        try simp only [Act.put, List.setIfInBounds_toArray, List.set]
        refine PhaseIn.takeD (i := 18) (v := ?_) [18, 19, 20, 21, 22, 23, 24, 25] 73 rfl (by rfl) (by kernel_rfl) (by kernel_rfl) (by kernel_rfl) (by kernel_rfl) (by kernel_rfl) (fun _ _ _ h => h) (Or.inl ⟨by kernel_rfl, ?_⟩) hHeld ?_
        rotate_left
        · intro w' hSw
          (try dsimp only at hSw)
          go_simp
          first | done | with_reducible rfl
        try simp only [Act.put, List.setIfInBounds_toArray, List.set]
        refine PhaseIn.takeD (i := 19) (v := undef) [19, 20, 22, 23, 24, 25] 74 rfl (by rfl) (by kernel_rfl) (by kernel_rfl) (by kernel_rfl) (by kernel_rfl) (by kernel_rfl) (fun _ _ _ h => h) (Or.inr ⟨by kernel_rfl, rfl⟩) hHeld ?_
        try simp only [Act.put, List.setIfInBounds_toArray, List.set]
        refine PhaseIn.takeD (i := 20) (v := undef) [20, 22, 23, 24, 25] 75 rfl (by rfl) (by kernel_rfl) (by kernel_rfl) (by kernel_rfl) (by kernel_rfl) (by kernel_rfl) (fun _ _ _ h => h) (Or.inr ⟨by kernel_rfl, rfl⟩) hHeld ?_
        try simp only [Act.put, List.setIfInBounds_toArray, List.set]
        refine PhaseIn.takeD (i := 21) (v := undef) [21, 22, 23, 24, 25] 76 rfl (by rfl) (by kernel_rfl) (by kernel_rfl) (by kernel_rfl) (by kernel_rfl) (by kernel_rfl) (fun _ _ _ h => h) (Or.inr ⟨by kernel_rfl, rfl⟩) hHeld ?_
        try simp only [Act.put, List.setIfInBounds_toArray, List.set]
        refine PhaseIn.takeD (i := 22) (v := undef) [22, 23, 24, 25] 77 rfl (by rfl) (by kernel_rfl) (by kernel_rfl) (by kernel_rfl) (by kernel_rfl) (by kernel_rfl) (fun _ _ _ h => h) (Or.inr ⟨by kernel_rfl, rfl⟩) hHeld ?_
        try simp only [Act.put, List.setIfInBounds_toArray, List.set]
        refine PhaseIn.takeD (i := 23) (v := undef) [23, 24, 25] 78 rfl (by rfl) (by kernel_rfl) (by kernel_rfl) (by kernel_rfl) (by kernel_rfl) (by kernel_rfl) (fun _ _ _ h => h) (Or.inr ⟨by kernel_rfl, rfl⟩) hHeld ?_
        try simp only [Act.put, List.setIfInBounds_toArray, List.set]
        refine PhaseIn.takeD (i := 24) (v := undef) [24, 25] 79 rfl (by rfl) (by kernel_rfl) (by kernel_rfl) (by kernel_rfl) (by kernel_rfl) (by kernel_rfl) (fun _ _ _ h => h) (Or.inr ⟨by kernel_rfl, rfl⟩) hHeld ?_
        try simp only [Act.put, List.setIfInBounds_toArray, List.set]
        refine PhaseIn.takeD (i := 25) (v := ?_) [25] 80 rfl (by rfl) (by kernel_rfl) (by kernel_rfl) (by kernel_rfl) (by kernel_rfl) (by kernel_rfl) (fun _ _ _ h => h) (Or.inl ⟨by kernel_rfl, ?_⟩) hHeld ?_
        rotate_left
        · intro w' hSw
          (try dsimp only at hSw)
          go_simp
          first | done | with_reducible rfl
        try simp only [Act.put, List.setIfInBounds_toArray, List.set]
        refine PhaseIn.done (by kernel_rfl) ?_ _
        have S := hide hHeld
        clear hHeld
        go_wp2_with fail
        refine (La.laOk wv8).mono ?_
        rintro e wz ⟨rfl, rfl⟩
        have FIN := hide S.out.bw
        clear S
        go_wp2
        go_ret
        exact ⟨rfl, FIN.out⟩
      | true =>
        have hC := ok_len Ec.out
        have hD := ok_len Ed.out
        obtain ⟨m0, m1⟩ := prod_bd hC hD
        have kwm : IntKind.i64.wrap ((pc.length : Int) * (pd.length : Int)) = (pc.length : Int) * (pd.length : Int) := IntWalk.i64_in _ ⟨by omega, by omega⟩
        have q3 := deg_ok Ec.out
        have q4 := deg_ok Ed.out
        by_cases hp : (12 : Int) < (pc.length : Int) * (pd.length : Int)
        · have hpb : decide ((12 : Int) < (pc.length : Int) * (pd.length : Int)) = true := decide_eq_true hp
          refine (wpIn_wide (n := 0)).1 ?_
          have S2 := hide S.out.drew
          clear S
          refine PhaseIn.region (S := fun v => Pit w [(X4, .slice u4 pd.length k4, pd), (X3, .slice u3 pc.length k3, pc), (X2, .slice u2 pb.length k2, pb), (X1, .slice u1 pa.length k1, pa)] [] v) 26 (by kernel_rfl) ?_
          generalize wv3.drew = wv9 at *
          have hHeld := S2.out
          clear S2
          refine PhaseIn.takeD (i := 0) (v := ?_) [0, 1, 2, 3, 4, 5, 6, 7, 8, 9, 10, 11, 12, 13, 14, 15, 16, 17, 18, 19, 20, 21, 22, 23, 24, 25] 55 rfl (by rfl) (by kernel_rfl) (by kernel_rfl) (by kernel_rfl) (by kernel_rfl) (by kernel_rfl) (fun _ _ _ h => h) (Or.inl ⟨by kernel_rfl, ?_⟩) hHeld ?_
          rotate_left
          · intro w' hSw
            (try dsimp only at hSw)
            have z0 := (hSw.box (X3, .slice u3 pc.length k3, pc) (List.mem_cons_of_mem _ List.mem_cons_self)).1.cell 0 _ rfl
            go_simp
            first | done | with_reducible rfl
          try simp only [Act.put, List.setIfInBounds_toArray, List.set]
          obtain ⟨D0, d0⟩ := (hHeld.box (X3, .slice u3 pc.length k3, pc) (List.mem_cons_of_mem _ List.mem_cons_self)).2
          refine PhaseIn.one (i := 1) (by kernel_rfl) rfl (by kernel_rfl) (fun K hK => ?_)
          unfold Oper.wpIn
          refine ⟨fun _ _ => trivial, ?_⟩
          go_simp
          refine ⟨rfl, (callsIn_wide.2 (specOk pc D0 _ wv9 d0)).mono ?_⟩
          rintro e wv10 ⟨he, hb⟩
          rw [Ec.out] at he
          subst he
          clear d0
          replace hHeld := hHeld.below hb
          clear hb
          refine hK _ _ (fun _ => hHeld) ?_
          clear hK K
          try simp only [Act.put, List.setIfInBounds_toArray, List.set]
          refine PhaseIn.takeD (i := 2) (v := ?_) [2, 3, 4, 5, 6, 7, 8, 9, 10, 11, 12, 13, 14, 15, 16, 17, 18, 19, 20, 21, 22, 23, 24, 25] 57 rfl (by rfl) (by kernel_rfl) (by kernel_rfl) (by kernel_rfl) (by kernel_rfl) (by kernel_rfl) (fun _ _ _ h => h) (Or.inl ⟨by kernel_rfl, ?_⟩) hHeld ?_
          rotate_left
          · intro w' hSw
            (try dsimp only at hSw)
            go_simp
            first | done | with_reducible rfl
          try simp only [Act.put, List.setIfInBounds_toArray, List.set]
          refine PhaseIn.takeD (i := 3) (v := ?_) [3, 4, 5, 6, 7, 8, 9, 10, 11, 12, 13, 14, 15, 16, 17, 18, 19, 20, 21, 22, 23, 24, 25] 58 rfl (by rfl) (by kernel_rfl) (by kernel_rfl) (by kernel_rfl) (by kernel_rfl) (by kernel_rfl) (fun _ _ _ h => h) (Or.inl ⟨by kernel_rfl, ?_⟩) hHeld ?_
          rotate_left
          · intro w' hSw
            (try dsimp only at hSw)
            go_simp
            first | done | with_reducible rfl
          try simp only [Act.put, List.setIfInBounds_toArray, List.set]
          refine PhaseIn.takeD (i := 4) (v := ?_) [4, 5, 6, 7, 8, 9, 10, 11, 12, 13, 14, 15, 16, 17, 18, 19, 20, 21, 22, 23, 24, 25] 59 rfl (by rfl) (by kernel_rfl) (by kernel_rfl) (by kernel_rfl) (by kernel_rfl) (by kernel_rfl) (fun _ _ _ h => h) (Or.inl ⟨by kernel_rfl, ?_⟩) hHeld ?_
          rotate_left
          · intro w' hSw
            (try dsimp only at hSw)
            have z0 := (hSw.box (X4, .slice u4 pd.length k4, pd) List.mem_cons_self).1.cell 0 _ rfl
            go_simp
            first | done | with_reducible rfl
          try simp only [Act.put, List.setIfInBounds_toArray, List.set]
          obtain ⟨D0, d0⟩ := (hHeld.box (X4, .slice u4 pd.length k4, pd) List.mem_cons_self).2
          refine PhaseIn.one (i := 5) (by kernel_rfl) rfl (by kernel_rfl) (fun K hK => ?_)
          unfold Oper.wpIn
          refine ⟨fun _ _ => trivial, ?_⟩
          go_simp
          refine ⟨rfl, (callsIn_wide.2 (specOk pd D0 _ wv10 d0)).mono ?_⟩
          rintro e wv11 ⟨he, hb⟩
          rw [Ed.out] at he
          subst he
          clear d0
          replace hHeld := hHeld.below hb
          clear hb
          refine hK _ _ (fun _ => hHeld) ?_
          clear hK K
          try simp only [Act.put, List.setIfInBounds_toArray, List.set]
          refine PhaseIn.takeD (i := 6) (v := ?_) [6, 7, 8, 9, 10, 11, 12, 13, 14, 15, 16, 17, 18, 19, 20, 21, 22, 23, 24, 25] 61 rfl (by rfl) (by kernel_rfl) (by kernel_rfl) (by kernel_rfl) (by kernel_rfl) (by kernel_rfl) (fun _ _ _ h => h) (Or.inl ⟨by kernel_rfl, ?_⟩) hHeld ?_
          rotate_left
          · intro w' hSw
            (try dsimp only at hSw)
            go_simp
            first | done | with_reducible rfl
          try simp only [Act.put, List.setIfInBounds_toArray, List.set]
          refine PhaseIn.takeD (i := 7) (v := ?_) [7, 8, 9, 10, 11, 12, 13, 14, 15, 16, 17, 18, 19, 20, 21, 22, 23, 24, 25] 62 rfl (by rfl) (by kernel_rfl) (by kernel_rfl) (by kernel_rfl) (by kernel_rfl) (by kernel_rfl) (fun _ _ _ h => h) (Or.inl ⟨by kernel_rfl, ?_⟩) hHeld ?_
          rotate_left
          · intro w' hSw
            (try dsimp only at hSw)
            go_simp
            first | done | with_reducible rfl
          try simp only [Act.put, List.setIfInBounds_toArray, List.set]
          refine PhaseIn.takeD (i := 8) (v := ?_) [8, 9, 10, 11, 12, 13, 14, 15, 16, 17, 18, 19, 20, 21, 22, 23, 24, 25] 63 rfl (by rfl) (by kernel_rfl) (by kernel_rfl) (by kernel_rfl) (by kernel_rfl) (by kernel_rfl) (fun _ _ _ h => h) (Or.inl ⟨by kernel_rfl, ?_⟩) hHeld ?_
          rotate_left
          · intro w' hSw
            (try dsimp only at hSw)
            go_simp
            first | done | with_reducible rfl
          try simp only [Act.put, List.setIfInBounds_toArray, List.set]
          refine PhaseIn.takeD (i := 9) (v := ?_) [9, 10, 11, 15, 16, 17, 18, 19, 20, 21, 22, 23, 24, 25] 64 rfl (by rfl) (by kernel_rfl) (by kernel_rfl) (by kernel_rfl) (by kernel_rfl) (by kernel_rfl) (fun _ _ _ h => h) (Or.inl ⟨by kernel_rfl, ?_⟩) hHeld ?_
          rotate_left
          · intro w' hSw
            (try dsimp only at hSw)
            go_simp
            first | done | with_reducible rfl
          try simp only [Act.put, List.setIfInBounds_toArray, List.set]
          refine PhaseIn.takeD (i := 10) (v := ?_) [10, 11, 15, 16, 17, 18, 19, 20, 21, 22, 23, 24, 25] 65 rfl (by rfl) (by kernel_rfl) (by kernel_rfl) (by kernel_rfl) (by kernel_rfl) (by kernel_rfl) (fun _ _ _ h => h) (Or.inl ⟨by kernel_rfl, ?_⟩) hHeld ?_
          rotate_left
          · intro w' hSw
            (try dsimp only at hSw)
            have z0 := (hSw.box (X3, .slice u3 pc.length k3, pc) (List.mem_cons_of_mem _ List.mem_cons_self)).1.cell 0 _ rfl
            go_simp
            first | done | with_reducible rfl
          try simp only [Act.put, List.setIfInBounds_toArray, List.set]
          refine PhaseIn.takeD (i := 11) (v := ?_) [11, 15, 16, 17, 18, 19, 20, 21, 22, 23, 24, 25] 66 rfl (by rfl) (by kernel_rfl) (by kernel_rfl) (by kernel_rfl) (by kernel_rfl) (by kernel_rfl) (fun _ _ _ h => h) (Or.inl ⟨by kernel_rfl, ?_⟩) hHeld ?_
          rotate_left
          · intro w' hSw
            (try dsimp only at hSw)
            go_simp
            first | done | with_reducible rfl
          try simp only [Act.put, List.setIfInBounds_toArray, List.set]
          refine PhaseIn.takeD (i := 12) (v := ?_) [12, 13, 14, 15, 16, 17, 18, 19, 20, 21, 22, 23, 24, 25] 67 rfl (by rfl) (by kernel_rfl) (by kernel_rfl) (by kernel_rfl) (by kernel_rfl) (by kernel_rfl) (fun _ _ _ h => h) (Or.inl ⟨by kernel_rfl, ?_⟩) hHeld ?_
          rotate_left
          · intro w' hSw
            (try dsimp only at hSw)
            go_simp
            first | done | with_reducible rfl
          try simp only [Act.put, List.setIfInBounds_toArray, List.set]
          refine PhaseIn.takeD (i := 13) (v := ?_) [13, 14, 15, 16, 17, 18, 19, 20, 21, 22, 23, 24, 25] 68 rfl (by rfl) (by kernel_rfl) (by kernel_rfl) (by kernel_rfl) (by kernel_rfl) (by kernel_rfl) (fun _ _ _ h => h) (Or.inl ⟨by kernel_rfl, ?_⟩) hHeld ?_
          rotate_left
          · intro w' hSw
            (try dsimp only at hSw)
            have z0 := (hSw.box (X4, .slice u4 pd.length k4, pd) List.mem_cons_self).1.cell 0 _ rfl
            go_simp
            first | done | with_reducible rfl
          try simp only [Act.put, List.setIfInBounds_toArray, List.set]
          refine PhaseIn.takeD (i := 14) (v := ?_) [14, 15, 16, 17, 18, 19, 20, 21, 22, 23, 24, 25] 69 rfl (by rfl) (by kernel_rfl) (by kernel_rfl) (by kernel_rfl) (by kernel_rfl) (by kernel_rfl) (fun _ _ _ h => h) (Or.inl ⟨by kernel_rfl, ?_⟩) hHeld ?_
          rotate_left
          · intro w' hSw
            (try dsimp only at hSw)
            go_simp
            first | done | with_reducible rfl
          try simp only [Act.put, List.setIfInBounds_toArray, List.set]
          refine PhaseIn.takeD (i := 15) (v := (.int .i64 ((pc.length : Int) * (pd.length : Int)))) [15, 16, 17, 18, 19, 20, 21, 22, 23, 24, 25] 70 rfl (by rfl) (by kernel_rfl) (by kernel_rfl) (by kernel_rfl) (by kernel_rfl) (by kernel_rfl) (fun _ _ _ h => h) (Or.inl ⟨by kernel_rfl, ?_⟩) hHeld ?_
          · intro w' hSw
            (try dsimp only at hSw)
            go_simp
            first | done | with_reducible rfl | (rw [kwm]; done) | (simp [kwm]; done)
          try simp only [Act.put, List.setIfInBounds_toArray, List.set]
          refine PhaseIn.takeD (i := 16) (v := (.bool true)) [16, 17, 18, 19, 20, 21, 22, 23, 24, 25] 71 rfl (by rfl) (by kernel_rfl) (by kernel_rfl) (by kernel_rfl) (by kernel_rfl) (by kernel_rfl) (fun _ _ _ h => h) (Or.inl ⟨by kernel_rfl, ?_⟩) hHeld ?_
          · intro w' hSw
            (try dsimp only at hSw)
            go_simp
            first | done | with_reducible rfl
          try simp only [Act.put, List.setIfInBounds_toArray, List.set]
          refine PhaseIn.takeD (i := 17) (v := ?_) [17, 18, 19, 20, 21, 22, 23, 24, 25] 72 rfl (by rfl) (by kernel_rfl) (by kernel_rfl) (by kernel_rfl) (by kernel_rfl) (by kernel_rfl) (fun _ _ _ h => h) (Or.inl ⟨by kernel_rfl, ?_⟩) hHeld ?_
          rotate_left
          · intro w' hSw
            (try dsimp only at hSw)
            go_simp
            first | done | with_reducible rfl
          try simp only [Act.put, List.setIfInBounds_toArray, List.set]
          refine PhaseIn.takeD (i := 18) (v := ?_) [18, 19, 20, 21, 22, 23, 24, 25] 73 rfl (by rfl) (by kernel_rfl) (by kernel_rfl) (by kernel_rfl) (by kernel_rfl) (by kernel_rfl) (fun _ _ _ h => h) (Or.inl ⟨by kernel_rfl, ?_⟩) hHeld ?_
          rotate_left
          · intro w' hSw
            (try dsimp only at hSw)
            go_simp
            first | done | with_reducible rfl
          try simp only [Act.put, List.setIfInBounds_toArray, List.set]
          refine PhaseIn.takeD (i := 19) (v := undef) [19, 20, 22, 23, 24, 25] 74 rfl (by rfl) (by kernel_rfl) (by kernel_rfl) (by kernel_rfl) (by kernel_rfl) (by kernel_rfl) (fun _ _ _ h => h) (Or.inr ⟨by kernel_rfl, rfl⟩) hHeld ?_
          try simp only [Act.put, List.setIfInBounds_toArray, List.set]
          refine PhaseIn.takeD (i := 20) (v := undef) [20, 22, 23, 24, 25] 75 rfl (by rfl) (by kernel_rfl) (by kernel_rfl) (by kernel_rfl) (by kernel_rfl) (by kernel_rfl) (fun _ _ _ h => h) (Or.inr ⟨by kernel_rfl, rfl⟩) hHeld ?_
          try simp only [Act.put, List.setIfInBounds_toArray, List.set]
          refine PhaseIn.takeD (i := 21) (v := undef) [21, 22, 23, 24, 25] 76 rfl (by rfl) (by kernel_rfl) (by kernel_rfl) (by kernel_rfl) (by kernel_rfl) (by kernel_rfl) (fun _ _ _ h => h) (Or.inr ⟨by kernel_rfl, rfl⟩) hHeld ?_
          try simp only [Act.put, List.setIfInBounds_toArray, List.set]
          refine PhaseIn.takeD (i := 22) (v := undef) [22, 23, 24, 25] 77 rfl (by rfl) (by kernel_rfl) (by kernel_rfl) (by kernel_rfl) (by kernel_rfl) (by kernel_rfl) (fun _ _ _ h => h) (Or.inr ⟨by kernel_rfl, rfl⟩) hHeld ?_
          try simp only [Act.put, List.setIfInBounds_toArray, List.set]
          refine PhaseIn.takeD (i := 23) (v := undef) [23, 24, 25] 78 rfl (by rfl) (by kernel_rfl) (by kernel_rfl) (by kernel_rfl) (by kernel_rfl) (by kernel_rfl) (fun _ _ _ h => h) (Or.inr ⟨by kernel_rfl, rfl⟩) hHeld ?_
          try simp only [Act.put, List.setIfInBounds_toArray, List.set]
          refine PhaseIn.takeD (i := 24) (v := undef) [24, 25] 79 rfl (by rfl) (by kernel_rfl) (by kernel_rfl) (by kernel_rfl) (by kernel_rfl) (by kernel_rfl) (fun _ _ _ h => h) (Or.inr ⟨by kernel_rfl, rfl⟩) hHeld ?_
          try simp only [Act.put, List.setIfInBounds_toArray, List.set]
          refine PhaseIn.takeD (i := 25) (v := ?_) [25] 80 rfl (by rfl) (by kernel_rfl) (by kernel_rfl) (by kernel_rfl) (by kernel_rfl) (by kernel_rfl) (fun _ _ _ h => h) (Or.inl ⟨by kernel_rfl, ?_⟩) hHeld ?_
          rotate_left
          · intro w' hSw
            (try dsimp only at hSw)
            go_simp
            first | done | with_reducible rfl
          try simp only [Act.put, List.setIfInBounds_toArray, List.set]
          refine PhaseIn.done (by kernel_rfl) ?_ _
          have S := hide hHeld
          clear hHeld
          go_wp2_with fail
          refine (La.laOk wv11).mono ?_
          rintro e wz ⟨rfl, rfl⟩
          have FIN := hide S.out.bw
          clear S
          go_wp2
          go_ret
          exact ⟨rfl, FIN.out⟩
        · have hpb : decide ((12 : Int) < (pc.length : Int) * (pd.length : Int)) = false := decide_eq_false hp
          have HP := hide (prod_le hp)
          obtain ⟨dc, edc⟩ : ∃ dc, degL pc 0 = dc := ⟨_, rfl⟩
          obtain ⟨dd, edd⟩ : ∃ dd, degL pd 0 = dd := ⟨_, rfl⟩
          rw [edc] at q3
          rw [edd] at q4
          have kws : IntKind.i64.wrap ((dc : Int) + (dd : Int)) = (dc : Int) + (dd : Int) := IntWalk.i64_in _ ⟨by omega, by omega⟩
          have EDC := hide edc
          have EDD := hide edd
          clear edc edd
          by_cases hg : (4 : Int) < (dc : Int) + (dd : Int)
          · have hx := trivial
            refine (wpIn_wide (n := 0)).1 ?_
            have S2 := hide S.out.drew
            clear S
            refine PhaseIn.region (S := fun v => Pit w [(X4, .slice u4 pd.length k4, pd), (X3, .slice u3 pc.length k3, pc), (X2, .slice u2 pb.length k2, pb), (X1, .slice u1 pa.length k1, pa)] [] v) 26 (by kernel_rfl) ?_
            generalize wv3.drew = wv12 at *
            have hHeld := S2.out
            clear S2
            refine PhaseIn.takeD (i := 0) (v := ?_) [0, 1, 2, 3, 4, 5, 6, 7, 8, 9, 10, 11, 12, 13, 14, 15, 16, 17, 18, 19, 20, 21, 22, 23, 24, 25] 55 rfl (by rfl) (by kernel_rfl) (by kernel_rfl) (by kernel_rfl) (by kernel_rfl) (by kernel_rfl) (fun _ _ _ h => h) (Or.inl ⟨by kernel_rfl, ?_⟩) hHeld ?_
            rotate_left
            · intro w' hSw
              (try dsimp only at hSw)
              have z0 := (hSw.box (X3, .slice u3 pc.length k3, pc) (List.mem_cons_of_mem _ List.mem_cons_self)).1.cell 0 _ rfl
              go_simp
              first | done | with_reducible rfl
            try simp only [Act.put, List.setIfInBounds_toArray, List.set]
            obtain ⟨D0, d0⟩ := (hHeld.box (X3, .slice u3 pc.length k3, pc) (List.mem_cons_of_mem _ List.mem_cons_self)).2
            refine PhaseIn.one (i := 1) (by kernel_rfl) rfl (by kernel_rfl) (fun K hK => ?_)
            unfold Oper.wpIn
            refine ⟨fun _ _ => trivial, ?_⟩
            go_simp
            refine ⟨rfl, (callsIn_wide.2 (specOk pc D0 _ wv12 d0)).mono ?_⟩
            rintro e wv13 ⟨he, hb⟩
            rw [Ec.out] at he
            subst he
            clear d0
            replace hHeld := hHeld.below hb
            clear hb
            refine hK _ _ (fun _ => hHeld) ?_
            clear hK K
            try simp only [Act.put, List.setIfInBounds_toArray, List.set]
            refine PhaseIn.takeD (i := 2) (v := ?_) [2, 3, 4, 5, 6, 7, 8, 9, 10, 11, 12, 13, 14, 15, 16, 17, 18, 19, 20, 21, 22, 23, 24, 25] 57 rfl (by rfl) (by kernel_rfl) (by kernel_rfl) (by kernel_rfl) (by kernel_rfl) (by kernel_rfl) (fun _ _ _ h => h) (Or.inl ⟨by kernel_rfl, ?_⟩) hHeld ?_
            rotate_left
            · intro w' hSw
              (try dsimp only at hSw)
              go_simp
              first | done | with_reducible rfl
            try simp only [Act.put, List.setIfInBounds_toArray, List.set]
            refine PhaseIn.takeD (i := 3) (v := ?_) [3, 4, 5, 6, 7, 8, 9, 10, 11, 12, 13, 14, 15, 16, 17, 18, 19, 20, 21, 22, 23, 24, 25] 58 rfl (by rfl) (by kernel_rfl) (by kernel_rfl) (by kernel_rfl) (by kernel_rfl) (by kernel_rfl) (fun _ _ _ h => h) (Or.inl ⟨by kernel_rfl, ?_⟩) hHeld ?_
            rotate_left
            · intro w' hSw
              (try dsimp only at hSw)
              go_simp
              first | done | with_reducible rfl
            try simp only [Act.put, List.setIfInBounds_toArray, List.set]
            refine PhaseIn.takeD (i := 4) (v := ?_) [4, 5, 6, 7, 8, 9, 10, 11, 12, 13, 14, 15, 16, 17, 18, 19, 20, 21, 22, 23, 24, 25] 59 rfl (by rfl) (by kernel_rfl) (by kernel_rfl) (by kernel_rfl) (by kernel_rfl) (by kernel_rfl) (fun _ _ _ h => h) (Or.inl ⟨by kernel_rfl, ?_⟩) hHeld ?_
            rotate_left
            · intro w' hSw
              (try dsimp only at hSw)
              have z0 := (hSw.box (X4, .slice u4 pd.length k4, pd) List.mem_cons_self).1.cell 0 _ rfl
              go_simp
              first | done | with_reducible rfl
            try simp only [Act.put, List.setIfInBounds_toArray, List.set]
            obtain ⟨D0, d0⟩ := (hHeld.box (X4, .slice u4 pd.length k4, pd) List.mem_cons_self).2
            refine PhaseIn.one (i := 5) (by kernel_rfl) rfl (by kernel_rfl) (fun K hK => ?_)
            unfold Oper.wpIn
            refine ⟨fun _ _ => trivial, ?_⟩
            go_simp
            refine ⟨rfl, (callsIn_wide.2 (specOk pd D0 _ wv13 d0)).mono ?_⟩
            rintro e wv14 ⟨he, hb⟩
            rw [Ed.out] at he
            subst he
            clear d0
            replace hHeld := hHeld.below hb
            clear hb
            refine hK _ _ (fun _ => hHeld) ?_
            clear hK K
            try simp only [Act.put, List.setIfInBounds_toArray, List.set]
            refine PhaseIn.takeD (i := 6) (v := ?_) [6, 7, 8, 9, 10, 11, 12, 13, 14, 15, 16, 17, 18, 19, 20, 21, 22, 23, 24, 25] 61 rfl (by rfl) (by kernel_rfl) (by kernel_rfl) (by kernel_rfl) (by kernel_rfl) (by kernel_rfl) (fun _ _ _ h => h) (Or.inl ⟨by kernel_rfl, ?_⟩) hHeld ?_
            rotate_left
            · intro w' hSw
              (try dsimp only at hSw)
              go_simp
              first | done | with_reducible rfl
            try simp only [Act.put, List.setIfInBounds_toArray, List.set]
            refine PhaseIn.takeD (i := 7) (v := ?_) [7, 8, 9, 10, 11, 12, 13, 14, 15, 16, 17, 18, 19, 20, 21, 22, 23, 24, 25] 62 rfl (by rfl) (by kernel_rfl) (by kernel_rfl) (by kernel_rfl) (by kernel_rfl) (by kernel_rfl) (fun _ _ _ h => h) (Or.inl ⟨by kernel_rfl, ?_⟩) hHeld ?_
            rotate_left
            · intro w' hSw
              (try dsimp only at hSw)
              go_simp
              first | done | with_reducible rfl
            try simp only [Act.put, List.setIfInBounds_toArray, List.set]
            refine PhaseIn.takeD (i := 8) (v := ?_) [8, 9, 10, 11, 12, 13, 14, 15, 16, 17, 18, 19, 20, 21, 22, 23, 24, 25] 63 rfl (by rfl) (by kernel_rfl) (by kernel_rfl) (by kernel_rfl) (by kernel_rfl) (by kernel_rfl) (fun _ _ _ h => h) (Or.inl ⟨by kernel_rfl, ?_⟩) hHeld ?_
            rotate_left
            · intro w' hSw
              (try dsimp only at hSw)
              go_simp
              first | done | with_reducible rfl
            try simp only [Act.put, List.setIfInBounds_toArray, List.set]
            refine PhaseIn.takeD (i := 9) (v := ?_) [9, 10, 11, 15, 16, 17, 18, 19, 20, 21, 22, 23, 24, 25] 64 rfl (by rfl) (by kernel_rfl) (by kernel_rfl) (by kernel_rfl) (by kernel_rfl) (by kernel_rfl) (fun _ _ _ h => h) (Or.inl ⟨by kernel_rfl, ?_⟩) hHeld ?_
            rotate_left
            · intro w' hSw
              (try dsimp only at hSw)
              go_simp
              first | done | with_reducible rfl
            try simp only [Act.put, List.setIfInBounds_toArray, List.set]
            refine PhaseIn.takeD (i := 10) (v := ?_) [10, 11, 15, 16, 17, 18, 19, 20, 21, 22, 23, 24, 25] 65 rfl (by rfl) (by kernel_rfl) (by kernel_rfl) (by kernel_rfl) (by kernel_rfl) (by kernel_rfl) (fun _ _ _ h => h) (Or.inl ⟨by kernel_rfl, ?_⟩) hHeld ?_
            rotate_left
            · intro w' hSw
              (try dsimp only at hSw)
              have z0 := (hSw.box (X3, .slice u3 pc.length k3, pc) (List.mem_cons_of_mem _ List.mem_cons_self)).1.cell 0 _ rfl
              go_simp
              first | done | with_reducible rfl
            try simp only [Act.put, List.setIfInBounds_toArray, List.set]
            refine PhaseIn.takeD (i := 11) (v := ?_) [11, 15, 16, 17, 18, 19, 20, 21, 22, 23, 24, 25] 66 rfl (by rfl) (by kernel_rfl) (by kernel_rfl) (by kernel_rfl) (by kernel_rfl) (by kernel_rfl) (fun _ _ _ h => h) (Or.inl ⟨by kernel_rfl, ?_⟩) hHeld ?_
            rotate_left
            · intro w' hSw
              (try dsimp only at hSw)
              go_simp
              first | done | with_reducible rfl
            try simp only [Act.put, List.setIfInBounds_toArray, List.set]
            refine PhaseIn.takeD (i := 12) (v := ?_) [12, 13, 14, 15, 16, 17, 18, 19, 20, 21, 22, 23, 24, 25] 67 rfl (by rfl) (by kernel_rfl) (by kernel_rfl) (by kernel_rfl) (by kernel_rfl) (by kernel_rfl) (fun _ _ _ h => h) (Or.inl ⟨by kernel_rfl, ?_⟩) hHeld ?_
            rotate_left
            · intro w' hSw
              (try dsimp only at hSw)
              go_simp
              first | done | with_reducible rfl
            try simp only [Act.put, List.setIfInBounds_toArray, List.set]
            refine PhaseIn.takeD (i := 13) (v := ?_) [13, 14, 15, 16, 17, 18, 19, 20, 21, 22, 23, 24, 25] 68 rfl (by rfl) (by kernel_rfl) (by kernel_rfl) (by kernel_rfl) (by kernel_rfl) (by kernel_rfl) (fun _ _ _ h => h) (Or.inl ⟨by kernel_rfl, ?_⟩) hHeld ?_
            rotate_left
            · intro w' hSw
              (try dsimp only at hSw)
              have z0 := (hSw.box (X4, .slice u4 pd.length k4, pd) List.mem_cons_self).1.cell 0 _ rfl
              go_simp
              first | done | with_reducible rfl
            try simp only [Act.put, List.setIfInBounds_toArray, List.set]
            refine PhaseIn.takeD (i := 14) (v := ?_) [14, 15, 16, 17, 18, 19, 20, 21, 22, 23, 24, 25] 69 rfl (by rfl) (by kernel_rfl) (by kernel_rfl) (by kernel_rfl) (by kernel_rfl) (by kernel_rfl) (fun _ _ _ h => h) (Or.inl ⟨by kernel_rfl, ?_⟩) hHeld ?_
            rotate_left
            · intro w' hSw
              (try dsimp only at hSw)
              go_simp
              first | done | with_reducible rfl
            try simp only [Act.put, List.setIfInBounds_toArray, List.set]
            refine PhaseIn.takeD (i := 15) (v := (.int .i64 ((pc.length : Int) * (pd.length : Int)))) [15, 16, 17, 18, 19, 20, 21, 22, 23, 24, 25] 70 rfl (by rfl) (by kernel_rfl) (by kernel_rfl) (by kernel_rfl) (by kernel_rfl) (by kernel_rfl) (fun _ _ _ h => h) (Or.inl ⟨by kernel_rfl, ?_⟩) hHeld ?_
            · intro w' hSw
              (try dsimp only at hSw)
              go_simp
              first | done | with_reducible rfl | (rw [kwm]; done) | (simp [kwm]; done)
            try simp only [Act.put, List.setIfInBounds_toArray, List.set]
            refine PhaseIn.takeD (i := 16) (v := (.bool false)) [16, 17, 18, 19, 20, 21, 22, 23, 24, 25] 71 rfl (by rfl) (by kernel_rfl) (by kernel_rfl) (by kernel_rfl) (by kernel_rfl) (by kernel_rfl) (fun _ _ _ h => h) (Or.inl ⟨by kernel_rfl, ?_⟩) hHeld ?_
            · intro w' hSw
              (try dsimp only at hSw)
              go_simp
              first | done | with_reducible rfl
            try simp only [Act.put, List.setIfInBounds_toArray, List.set]
            refine PhaseIn.takeD (i := 17) (v := ?_) [17, 18, 19, 20, 21, 22, 23, 24, 25] 72 rfl (by rfl) (by kernel_rfl) (by kernel_rfl) (by kernel_rfl) (by kernel_rfl) (by kernel_rfl) (fun _ _ _ h => h) (Or.inl ⟨by kernel_rfl, ?_⟩) hHeld ?_
            rotate_left
            · intro w' hSw
              (try dsimp only at hSw)
              go_simp
              first | done | with_reducible rfl
            try simp only [Act.put, List.setIfInBounds_toArray, List.set]
            refine PhaseIn.takeD (i := 18) (v := ?_) [18, 19, 20, 21, 22, 23, 24, 25] 73 rfl (by rfl) (by kernel_rfl) (by kernel_rfl) (by kernel_rfl) (by kernel_rfl) (by kernel_rfl) (fun _ _ _ h => h) (Or.inl ⟨by kernel_rfl, ?_⟩) hHeld ?_
            rotate_left
            · intro w' hSw
              (try dsimp only at hSw)
              go_simp
              first | done | with_reducible rfl
            try simp only [Act.put, List.setIfInBounds_toArray, List.set]
            refine PhaseIn.takeD (i := 19) (v := ?_) [19, 20, 22, 23, 24, 25] 74 rfl (by rfl) (by kernel_rfl) (by kernel_rfl) (by kernel_rfl) (by kernel_rfl) (by kernel_rfl) (fun _ _ _ h => h) (Or.inl ⟨by kernel_rfl, ?_⟩) hHeld ?_
            rotate_left
            · intro w' hSw
              (try dsimp only at hSw)
              have z0 := (hSw.box (X3, .slice u3 pc.length k3, pc) (List.mem_cons_of_mem _ List.mem_cons_self)).1.cell 0 _ rfl
              go_simp
              first | done | with_reducible rfl
            try simp only [Act.put, List.setIfInBounds_toArray, List.set]
            refine PhaseIn.takeD (i := 21) (v := ?_) [21, 22, 23, 24, 25] 76 rfl (by rfl) (by kernel_rfl) (by kernel_rfl) (by kernel_rfl) (by kernel_rfl) (by kernel_rfl) (fun _ _ _ h => h) (Or.inl ⟨by kernel_rfl, ?_⟩) hHeld ?_
            rotate_left
            · intro w' hSw
              (try dsimp only at hSw)
              have z0 := (hSw.box (X4, .slice u4 pd.length k4, pd) List.mem_cons_self).1.cell 0 _ rfl
              go_simp
              first | done | with_reducible rfl
            try simp only [Act.put, List.setIfInBounds_toArray, List.set]
            obtain ⟨D0, d0⟩ := (hHeld.box (X3, .slice u3 pc.length k3, pc) (List.mem_cons_of_mem _ List.mem_cons_self)).2
            refine PhaseIn.one (i := 20) (by kernel_rfl) rfl (by kernel_rfl) (fun K hK => ?_)
            unfold Oper.wpIn
            refine ⟨fun _ _ => trivial, ?_⟩
            go_simp
            refine ⟨rfl, (callsIn_wide.2 (La.laDeg pc D0 _ wv14 d0)).mono ?_⟩
            rintro e wv15 ⟨he, hb⟩
            rw [EDC.out] at he
            subst he
            clear d0
            replace hHeld := hHeld.below hb
            clear hb
            refine hK _ _ (fun _ => hHeld) ?_
            clear hK K
            try simp only [Act.put, List.setIfInBounds_toArray, List.set]
            obtain ⟨D1, d1⟩ := (hHeld.box (X4, .slice u4 pd.length k4, pd) List.mem_cons_self).2
            refine PhaseIn.one (i := 22) (by kernel_rfl) rfl (by kernel_rfl) (fun K hK => ?_)
            unfold Oper.wpIn
            refine ⟨fun _ _ => trivial, ?_⟩
            go_simp
            refine ⟨rfl, (callsIn_wide.2 (La.laDeg pd D1 _ wv15 d1)).mono ?_⟩
            rintro e wv16 ⟨he, hb⟩
            rw [EDD.out] at he
            subst he
            clear d1
            replace hHeld := hHeld.below hb
            clear hb
            refine hK _ _ (fun _ => hHeld) ?_
            clear hK K
            try simp only [Act.put, List.setIfInBounds_toArray, List.set]
            refine PhaseIn.takeD (i := 23) (v := (.int .i64 ((dc : Int) + (dd : Int)))) [23, 24, 25] 78 rfl (by rfl) (by kernel_rfl) (by kernel_rfl) (by kernel_rfl) (by kernel_rfl) (by kernel_rfl) (fun _ _ _ h => h) (Or.inl ⟨by kernel_rfl, ?_⟩) hHeld ?_
            · intro w' hSw
              (try dsimp only at hSw)
              go_simp
              first | done | with_reducible rfl | (rw [kws]; done) | (simp [kws]; done) | omega
            try simp only [Act.put, List.setIfInBounds_toArray, List.set]
            refine PhaseIn.takeD (i := 24) (v := ?_) [24, 25] 79 rfl (by rfl) (by kernel_rfl) (by kernel_rfl) (by kernel_rfl) (by kernel_rfl) (by kernel_rfl) (fun _ _ _ h => h) (Or.inl ⟨by kernel_rfl, ?_⟩) hHeld ?_
            rotate_left
            · intro w' hSw
              (try dsimp only at hSw)
              go_simp
              first | done | with_reducible rfl
            try simp only [Act.put, List.setIfInBounds_toArray, List.set]
            refine PhaseIn.takeD (i := 25) (v := ?_) [25] 80 rfl (by rfl) (by kernel_rfl) (by kernel_rfl) (by kernel_rfl) (by kernel_rfl) (by kernel_rfl) (fun _ _ _ h => h) (Or.inl ⟨by kernel_rfl, ?_⟩) hHeld ?_
            rotate_left
            · intro w' hSw
              (try dsimp only at hSw)
              go_simp
              first | done | with_reducible rfl
            try simp only [Act.put, List.setIfInBounds_toArray, List.set]
            refine PhaseIn.done (by kernel_rfl) ?_ _
            have S := hide hHeld
            clear hHeld
            go_wp2_with fail
            refine (La.laOk wv16).mono ?_
            rintro e wz ⟨rfl, rfl⟩
            have FIN := hide S.out.bw
            clear S
            go_wp2
            go_ret
            exact ⟨rfl, FIN.out⟩
          · have hx := trivial
            have HF := hide (mul_fit Ec.out Ed.out HP.out (by rw [EDC.out, EDD.out]; omega))
            refine (wpIn_wide (n := 0)).1 ?_
            have S2 := hide S.out.drew
            clear S
            refine PhaseIn.region (S := fun v => Pit w [(X4, .slice u4 pd.length k4, pd), (X3, .slice u3 pc.length k3, pc), (X2, .slice u2 pb.length k2, pb), (X1, .slice u1 pa.length k1, pa)] [] v) 26 (by kernel_rfl) ?_
            generalize wv3.drew = wv17 at *
            have hHeld := S2.out
            clear S2
            refine PhaseIn.takeD (i := 0) (v := ?_) [0, 1, 2, 3, 4, 5, 6, 7, 8, 9, 10, 11, 12, 13, 14, 15, 16, 17, 18, 19, 20, 21, 22, 23, 24, 25] 55 rfl (by rfl) (by kernel_rfl) (by kernel_rfl) (by kernel_rfl) (by kernel_rfl) (by kernel_rfl) (fun _ _ _ h => h) (Or.inl ⟨by kernel_rfl, ?_⟩) hHeld ?_
            rotate_left
            · intro w' hSw
              (try dsimp only at hSw)
              have z0 := (hSw.box (X3, .slice u3 pc.length k3, pc) (List.mem_cons_of_mem _ List.mem_cons_self)).1.cell 0 _ rfl
              go_simp
              first | done | with_reducible rfl
            try simp only [Act.put, List.setIfInBounds_toArray, List.set]
            obtain ⟨D0, d0⟩ := (hHeld.box (X3, .slice u3 pc.length k3, pc) (List.mem_cons_of_mem _ List.mem_cons_self)).2
            refine PhaseIn.one (i := 1) (by kernel_rfl) rfl (by kernel_rfl) (fun K hK => ?_)
            unfold Oper.wpIn
            refine ⟨fun _ _ => trivial, ?_⟩
            go_simp
            refine ⟨rfl, (callsIn_wide.2 (specOk pc D0 _ wv17 d0)).mono ?_⟩
            rintro e wv18 ⟨he, hb⟩
            rw [Ec.out] at he
            subst he
            clear d0
            replace hHeld := hHeld.below hb
            clear hb
            refine hK _ _ (fun _ => hHeld) ?_
            clear hK K
            try simp only [Act.put, List.setIfInBounds_toArray, List.set]
            refine PhaseIn.takeD (i := 2) (v := ?_) [2, 3, 4, 5, 6, 7, 8, 9, 10, 11, 12, 13, 14, 15, 16, 17, 18, 19, 20, 21, 22, 23, 24, 25] 57 rfl (by rfl) (by kernel_rfl) (by kernel_rfl) (by kernel_rfl) (by kernel_rfl) (by kernel_rfl) (fun _ _ _ h => h) (Or.inl ⟨by kernel_rfl, ?_⟩) hHeld ?_
            rotate_left
            · intro w' hSw
              (try dsimp only at hSw)
              go_simp
              first | done | with_reducible rfl
            try simp only [Act.put, List.setIfInBounds_toArray, List.set]
            refine PhaseIn.takeD (i := 3) (v := ?_) [3, 4, 5, 6, 7, 8, 9, 10, 11, 12, 13, 14, 15, 16, 17, 18, 19, 20, 21, 22, 23, 24, 25] 58 rfl (by rfl) (by kernel_rfl) (by kernel_rfl) (by kernel_rfl) (by kernel_rfl) (by kernel_rfl) (fun _ _ _ h => h) (Or.inl ⟨by kernel_rfl, ?_⟩) hHeld ?_
            rotate_left
            · intro w' hSw
              (try dsimp only at hSw)
              go_simp
              first | done | with_reducible rfl
            try simp only [Act.put, List.setIfInBounds_toArray, List.set]
            refine PhaseIn.takeD (i := 4) (v := ?_) [4, 5, 6, 7, 8, 9, 10, 11, 12, 13, 14, 15, 16, 17, 18, 19, 20, 21, 22, 23, 24, 25] 59 rfl (by rfl) (by kernel_rfl) (by kernel_rfl) (by kernel_rfl) (by kernel_rfl) (by kernel_rfl) (fun _ _ _ h => h) (Or.inl ⟨by kernel_rfl, ?_⟩) hHeld ?_
            rotate_left
            · intro w' hSw
              (try dsimp only at hSw)
              have z0 := (hSw.box (X4, .slice u4 pd.length k4, pd) List.mem_cons_self).1.cell 0 _ rfl
              go_simp
              first | done | with_reducible rfl
            try simp only [Act.put, List.setIfInBounds_toArray, List.set]
            obtain ⟨D0, d0⟩ := (hHeld.box (X4, .slice u4 pd.length k4, pd) List.mem_cons_self).2
            refine PhaseIn.one (i := 5) (by kernel_rfl) rfl (by kernel_rfl) (fun K hK => ?_)
            unfold Oper.wpIn
            refine ⟨fun _ _ => trivial, ?_⟩
            go_simp
            refine ⟨rfl, (callsIn_wide.2 (specOk pd D0 _ wv18 d0)).mono ?_⟩
            rintro e wv19 ⟨he, hb⟩
            rw [Ed.out] at he
            subst he
            clear d0
            replace hHeld := hHeld.below hb
            clear hb
            refine hK _ _ (fun _ => hHeld) ?_
            clear hK K
            try simp only [Act.put, List.setIfInBounds_toArray, List.set]
            refine PhaseIn.takeD (i := 6) (v := ?_) [6, 7, 8, 9, 10, 11, 12, 13, 14, 15, 16, 17, 18, 19, 20, 21, 22, 23, 24, 25] 61 rfl (by rfl) (by kernel_rfl) (by kernel_rfl) (by kernel_rfl) (by kernel_rfl) (by kernel_rfl) (fun _ _ _ h => h) (Or.inl ⟨by kernel_rfl, ?_⟩) hHeld ?_
            rotate_left
            · intro w' hSw
              (try dsimp only at hSw)
              go_simp
              first | done | with_reducible rfl
            try simp only [Act.put, List.setIfInBounds_toArray, List.set]
            refine PhaseIn.takeD (i := 7) (v := ?_) [7, 8, 9, 10, 11, 12, 13, 14, 15, 16, 17, 18, 19, 20, 21, 22, 23, 24, 25] 62 rfl (by rfl) (by kernel_rfl) (by kernel_rfl) (by kernel_rfl) (by kernel_rfl) (by kernel_rfl) (fun _ _ _ h => h) (Or.inl ⟨by kernel_rfl, ?_⟩) hHeld ?_
            rotate_left
            · intro w' hSw
              (try dsimp only at hSw)
              go_simp
              first | done | with_reducible rfl
            try simp only [Act.put, List.setIfInBounds_toArray, List.set]
            refine PhaseIn.takeD (i := 8) (v := ?_) [8, 9, 10, 11, 12, 13, 14, 15, 16, 17, 18, 19, 20, 21, 22, 23, 24, 25] 63 rfl (by rfl) (by kernel_rfl) (by kernel_rfl) (by kernel_rfl) (by kernel_rfl) (by kernel_rfl) (fun _ _ _ h => h) (Or.inl ⟨by kernel_rfl, ?_⟩) hHeld ?_
            rotate_left
            · intro w' hSw
              (try dsimp only at hSw)
              go_simp
              first | done | with_reducible rfl
            try simp only [Act.put, List.setIfInBounds_toArray, List.set]
            refine PhaseIn.takeD (i := 9) (v := ?_) [9, 10, 11, 15, 16, 17, 18, 19, 20, 21, 22, 23, 24, 25] 64 rfl (by rfl) (by kernel_rfl) (by kernel_rfl) (by kernel_rfl) (by kernel_rfl) (by kernel_rfl) (fun _ _ _ h => h) (Or.inl ⟨by kernel_rfl, ?_⟩) hHeld ?_
            rotate_left
            · intro w' hSw
              (try dsimp only at hSw)
              go_simp
              first | done | with_reducible rfl
            try simp only [Act.put, List.setIfInBounds_toArray, List.set]
            refine PhaseIn.takeD (i := 10) (v := ?_) [10, 11, 15, 16, 17, 18, 19, 20, 21, 22, 23, 24, 25] 65 rfl (by rfl) (by kernel_rfl) (by kernel_rfl) (by kernel_rfl) (by kernel_rfl) (by kernel_rfl) (fun _ _ _ h => h) (Or.inl ⟨by kernel_rfl, ?_⟩) hHeld ?_
            rotate_left
            · intro w' hSw
              (try dsimp only at hSw)
              have z0 := (hSw.box (X3, .slice u3 pc.length k3, pc) (List.mem_cons_of_mem _ List.mem_cons_self)).1.cell 0 _ rfl
              go_simp
              first | done | with_reducible rfl
            try simp only [Act.put, List.setIfInBounds_toArray, List.set]
            refine PhaseIn.takeD (i := 11) (v := ?_) [11, 15, 16, 17, 18, 19, 20, 21, 22, 23, 24, 25] 66 rfl (by rfl) (by kernel_rfl) (by kernel_rfl) (by kernel_rfl) (by kernel_rfl) (by kernel_rfl) (fun _ _ _ h => h) (Or.inl ⟨by kernel_rfl, ?_⟩) hHeld ?_
            rotate_left
            · intro w' hSw
              (try dsimp only at hSw)
              go_simp
              first | done | with_reducible rfl
            try simp only [Act.put, List.setIfInBounds_toArray, List.set]
            refine PhaseIn.takeD (i := 12) (v := ?_) [12, 13, 14, 15, 16, 17, 18, 19, 20, 21, 22, 23, 24, 25] 67 rfl (by rfl) (by kernel_rfl) (by kernel_rfl) (by kernel_rfl) (by kernel_rfl) (by kernel_rfl) (fun _ _ _ h => h) (Or.inl ⟨by kernel_rfl, ?_⟩) hHeld ?_
            rotate_left
            · intro w' hSw
              (try dsimp only at hSw)
              go_simp
              first | done | with_reducible rfl
            try simp only [Act.put, List.setIfInBounds_toArray, List.set]
            refine PhaseIn.takeD (i := 13) (v := ?_) [13, 14, 15, 16, 17, 18, 19, 20, 21, 22, 23, 24, 25] 68 rfl (by rfl) (by kernel_rfl) (by kernel_rfl) (by kernel_rfl) (by kernel_rfl) (by kernel_rfl) (fun _ _ _ h => h) (Or.inl ⟨by kernel_rfl, ?_⟩) hHeld ?_
            rotate_left
            · intro w' hSw
              (try dsimp only at hSw)
              have z0 := (hSw.box (X4, .slice u4 pd.length k4, pd) List.mem_cons_self).1.cell 0 _ rfl
              go_simp
              first | done | with_reducible rfl
            try simp only [Act.put, List.setIfInBounds_toArray, List.set]
            refine PhaseIn.takeD (i := 14) (v := ?_) [14, 15, 16, 17, 18, 19, 20, 21, 22, 23, 24, 25] 69 rfl (by rfl) (by kernel_rfl) (by kernel_rfl) (by kernel_rfl) (by kernel_rfl) (by kernel_rfl) (fun _ _ _ h => h) (Or.inl ⟨by kernel_rfl, ?_⟩) hHeld ?_
            rotate_left
            · intro w' hSw
              (try dsimp only at hSw)
              go_simp
              first | done | with_reducible rfl
            try simp only [Act.put, List.setIfInBounds_toArray, List.set]
            refine PhaseIn.takeD (i := 15) (v := (.int .i64 ((pc.length : Int) * (pd.length : Int)))) [15, 16, 17, 18, 19, 20, 21, 22, 23, 24, 25] 70 rfl (by rfl) (by kernel_rfl) (by kernel_rfl) (by kernel_rfl) (by kernel_rfl) (by kernel_rfl) (fun _ _ _ h => h) (Or.inl ⟨by kernel_rfl, ?_⟩) hHeld ?_
            · intro w' hSw
              (try dsimp only at hSw)
              go_simp
              first | done | with_reducible rfl | (rw [kwm]; done) | (simp [kwm]; done)
            try simp only [Act.put, List.setIfInBounds_toArray, List.set]
            refine PhaseIn.takeD (i := 16) (v := (.bool false)) [16, 17, 18, 19, 20, 21, 22, 23, 24, 25] 71 rfl (by rfl) (by kernel_rfl) (by kernel_rfl) (by kernel_rfl) (by kernel_rfl) (by kernel_rfl) (fun _ _ _ h => h) (Or.inl ⟨by kernel_rfl, ?_⟩) hHeld ?_
            · intro w' hSw
              (try dsimp only at hSw)
              go_simp
              first | done | with_reducible rfl
            try simp only [Act.put, List.setIfInBounds_toArray, List.set]
            refine PhaseIn.takeD (i := 17) (v := ?_) [17, 18, 19, 20, 21, 22, 23, 24, 25] 72 rfl (by rfl) (by kernel_rfl) (by kernel_rfl) (by kernel_rfl) (by kernel_rfl) (by kernel_rfl) (fun _ _ _ h => h) (Or.inl ⟨by kernel_rfl, ?_⟩) hHeld ?_
            rotate_left
            · intro w' hSw
              (try dsimp only at hSw)
              go_simp
              first | done | with_reducible rfl
            try simp only [Act.put, List.setIfInBounds_toArray, List.set]
            refine PhaseIn.takeD (i := 18) (v := ?_) [18, 19, 20, 21, 22, 23, 24, 25] 73 rfl (by rfl) (by kernel_rfl) (by kernel_rfl) (by kernel_rfl) (by kernel_rfl) (by kernel_rfl) (fun _ _ _ h => h) (Or.inl ⟨by kernel_rfl, ?_⟩) hHeld ?_
            rotate_left
            · intro w' hSw
              (try dsimp only at hSw)
              go_simp
              first | done | with_reducible rfl
            try simp only [Act.put, List.setIfInBounds_toArray, List.set]
            refine PhaseIn.takeD (i := 19) (v := ?_) [19, 20, 22, 23, 24, 25] 74 rfl (by rfl) (by kernel_rfl) (by kernel_rfl) (by kernel_rfl) (by kernel_rfl) (by kernel_rfl) (fun _ _ _ h => h) (Or.inl ⟨by kernel_rfl, ?_⟩) hHeld ?_
            rotate_left
            · intro w' hSw
              (try dsimp only at hSw)
              have z0 := (hSw.box (X3, .slice u3 pc.length k3, pc) (List.mem_cons_of_mem _ List.mem_cons_self)).1.cell 0 _ rfl
              go_simp
              first | done | with_reducible rfl
            try simp only [Act.put, List.setIfInBounds_toArray, List.set]
            refine PhaseIn.takeD (i := 21) (v := ?_) [21, 22, 23, 24, 25] 76 rfl (by rfl) (by kernel_rfl) (by kernel_rfl) (by kernel_rfl) (by kernel_rfl) (by kernel_rfl) (fun _ _ _ h => h) (Or.inl ⟨by kernel_rfl, ?_⟩) hHeld ?_
            rotate_left
            · intro w' hSw
              (try dsimp only at hSw)
              have z0 := (hSw.box (X4, .slice u4 pd.length k4, pd) List.mem_cons_self).1.cell 0 _ rfl
              go_simp
              first | done | with_reducible rfl
            try simp only [Act.put, List.setIfInBounds_toArray, List.set]
            obtain ⟨D0, d0⟩ := (hHeld.box (X3, .slice u3 pc.length k3, pc) (List.mem_cons_of_mem _ List.mem_cons_self)).2
            refine PhaseIn.one (i := 20) (by kernel_rfl) rfl (by kernel_rfl) (fun K hK => ?_)
            unfold Oper.wpIn
            refine ⟨fun _ _ => trivial, ?_⟩
            go_simp
            refine ⟨rfl, (callsIn_wide.2 (La.laDeg pc D0 _ wv19 d0)).mono ?_⟩
            rintro e wv20 ⟨he, hb⟩
            rw [EDC.out] at he
            subst he
            clear d0
            replace hHeld := hHeld.below hb
            clear hb
            refine hK _ _ (fun _ => hHeld) ?_
            clear hK K
            try simp only [Act.put, List.setIfInBounds_toArray, List.set]
            obtain ⟨D1, d1⟩ := (hHeld.box (X4, .slice u4 pd.length k4, pd) List.mem_cons_self).2
            refine PhaseIn.one (i := 22) (by kernel_rfl) rfl (by kernel_rfl) (fun K hK => ?_)
            unfold Oper.wpIn
            refine ⟨fun _ _ => trivial, ?_⟩
            go_simp
            refine ⟨rfl, (callsIn_wide.2 (La.laDeg pd D1 _ wv20 d1)).mono ?_⟩
            rintro e wv21 ⟨he, hb⟩
            rw [EDD.out] at he
            subst he
            clear d1
            replace hHeld := hHeld.below hb
            clear hb
            refine hK _ _ (fun _ => hHeld) ?_
            clear hK K
            try simp only [Act.put, List.setIfInBounds_toArray, List.set]
            refine PhaseIn.takeD (i := 23) (v := (.int .i64 ((dc : Int) + (dd : Int)))) [23, 24, 25] 78 rfl (by rfl) (by kernel_rfl) (by kernel_rfl) (by kernel_rfl) (by kernel_rfl) (by kernel_rfl) (fun _ _ _ h => h) (Or.inl ⟨by kernel_rfl, ?_⟩) hHeld ?_
            · intro w' hSw
              (try dsimp only at hSw)
              go_simp
              first | done | with_reducible rfl | (rw [kws]; done) | (simp [kws]; done) | omega
            try simp only [Act.put, List.setIfInBounds_toArray, List.set]
            refine PhaseIn.takeD (i := 24) (v := ?_) [24, 25] 79 rfl (by rfl) (by kernel_rfl) (by kernel_rfl) (by kernel_rfl) (by kernel_rfl) (by kernel_rfl) (fun _ _ _ h => h) (Or.inl ⟨by kernel_rfl, ?_⟩) hHeld ?_
            rotate_left
            · intro w' hSw
              (try dsimp only at hSw)
              go_simp
              first | done | with_reducible rfl
            try simp only [Act.put, List.setIfInBounds_toArray, List.set]
            refine PhaseIn.takeD (i := 25) (v := ?_) [25] 80 rfl (by rfl) (by kernel_rfl) (by kernel_rfl) (by kernel_rfl) (by kernel_rfl) (by kernel_rfl) (fun _ _ _ h => h) (Or.inl ⟨by kernel_rfl, ?_⟩) hHeld ?_
            rotate_left
            · intro w' hSw
              (try dsimp only at hSw)
              go_simp
              first | done | with_reducible rfl
            try simp only [Act.put, List.setIfInBounds_toArray, List.set]
            refine PhaseIn.done (by kernel_rfl) ?_ _
            have S := hide hHeld
            clear hHeld
            have zC := (S.out.box (X3, .slice u3 pc.length k3, pc) (List.mem_cons_of_mem _ List.mem_cons_self)).1.cell 0 _ rfl
            have zD := (S.out.box (X4, .slice u4 pd.length k4, pd) List.mem_cons_self).1.cell 0 _ rfl
            go_wp2_with fail
            clear zC zD
            obtain ⟨D0, d0⟩ := (S.out.box (X3, .slice u3 pc.length k3, pc) (List.mem_cons_of_mem _ List.mem_cons_self)).2
            obtain ⟨D1, d1⟩ := (S.out.box (X4, .slice u4 pd.length k4, pd) List.mem_cons_self).2
            refine (implMul pc pd   D0 D1  _ _ _ d0 d1 ).mono ?_
            rintro e wv22 ⟨y9, l9, j9, he, W3, hb⟩
            clear d0 d1 
            obtain rfl := Draw.wp_len W3
            rw [HF.out] at he
            obtain ⟨D9, r9⟩ := W3.read
            subst he
            clear W3
            have S2 := hide (S.out.below hb)
            clear S hb
            have S := S2
            clear S2
            have S2 := hide (Pit.add S.out r9)
            clear S r9
            have S := S2
            clear S2
            have FIN := hide S.out.bw
            clear S
            go_wp2
            go_ret
            exact ⟨rfl, FIN.out⟩
  | true =>
    have zB := (S.out.box (X2, .slice u2 pb.length k2, pb) (List.mem_cons_of_mem _ (List.mem_cons_of_mem _ List.mem_cons_self))).1.cell 0 _ rfl
    go_wp2_with fail
    clear zB
    obtain ⟨D0, d0⟩ := (S.out.box (X2, .slice u2 pb.length k2, pb) (List.mem_cons_of_mem _ (List.mem_cons_of_mem _ List.mem_cons_self))).2
    refine (specOk pb   D0  _ _ d0 ).mono ?_
    rintro e wv23 ⟨he, hb⟩
    clear d0 
    rw [Eb.out] at he
    subst he
    have S2 := hide (S.out.below hb)
    clear S hb
    have S := S2
    clear S2
    cases okb with
    | false =>
      go_wp2_with fail
      cases okc with
      | false =>
        refine (wpIn_wide (n := 0)).1 ?_
        have S2 := hide S.out.drew
        clear S
        refine PhaseIn.region (S := fun v => Pit w [(X4, .slice u4 pd.length k4, pd), (X3, .slice u3 pc.length k3, pc), (X2, .slice u2 pb.length k2, pb), (X1, .slice u1 pa.length k1, pa)] [] v) 26 (by kernel_rfl) ?_
        generalize wv23.drew = wv24 at *
        have hHeld := S2.out
        clear S2
        refine PhaseIn.takeD (i := 0) (v := ?_) [0, 1, 2, 3, 4, 5, 6, 7, 8, 9, 10, 11, 12, 13, 14, 15, 16, 17, 18, 19, 20, 21, 22, 23, 24, 25] 55 rfl (by rfl) (by kernel_rfl) (by kernel_rfl) (by kernel_rfl) (by kernel_rfl) (by kernel_rfl) (fun _ _ _ h => h) (Or.inl ⟨by kernel_rfl, ?_⟩) hHeld ?_
        rotate_left
        · intro w' hSw
          (try dsimp only at hSw)
          have z0 := (hSw.box (X3, .slice u3 pc.length k3, pc) (List.mem_cons_of_mem _ List.mem_cons_self)).1.cell 0 _ rfl
          go_simp
          first | done | with_reducible rfl
        try simp only [Act.put, List.setIfInBounds_toArray, List.set]
        obtain ⟨D0, d0⟩ := (hHeld.box (X3, .slice u3 pc.length k3, pc) (List.mem_cons_of_mem _ List.mem_cons_self)).2
        refine PhaseIn.one (i := 1) (by kernel_rfl) rfl (by kernel_rfl) (fun K hK => ?_)
        unfold Oper.wpIn
        refine ⟨fun _ _ => trivial, ?_⟩
        go_simp
        refine ⟨rfl, (callsIn_wide.2 (specOk pc D0 _ wv24 d0)).mono ?_⟩
        rintro e wv25 ⟨he, hb⟩
        rw [Ec.out] at he
        subst he
        clear d0
        replace hHeld := hHeld.below hb
        clear hb
        refine hK _ _ (fun _ => hHeld) ?_
        clear hK K
        try simp only [Act.put, List.setIfInBounds_toArray, List.set]
        refine PhaseIn.takeD (i := 2) (v := ?_) [2, 3, 4, 5, 6, 7, 8, 9, 10, 11, 12, 13, 14, 15, 16, 17, 18, 19, 20, 21, 22, 23, 24, 25] 57 rfl (by rfl) (by kernel_rfl) (by kernel_rfl) (by kernel_rfl) (by kernel_rfl) (by kernel_rfl) (fun _ _ _ h => h) (Or.inl ⟨by kernel_rfl, ?_⟩) hHeld ?_
        rotate_left
        · intro w' hSw
          (try dsimp only at hSw)
          go_simp
          first | done | with_reducible rfl
        try simp only [Act.put, List.setIfInBounds_toArray, List.set]
        refine PhaseIn.takeD (i := 3) (v := ?_) [3, 4, 5, 6, 7, 8, 9, 10, 11, 12, 13, 14, 15, 16, 17, 18, 19, 20, 21, 22, 23, 24, 25] 58 rfl (by rfl) (by kernel_rfl) (by kernel_rfl) (by kernel_rfl) (by kernel_rfl) (by kernel_rfl) (fun _ _ _ h => h) (Or.inl ⟨by kernel_rfl, ?_⟩) hHeld ?_
        rotate_left
        · intro w' hSw
          (try dsimp only at hSw)
          go_simp
          first | done | with_reducible rfl
        try simp only [Act.put, List.setIfInBounds_toArray, List.set]
        refine PhaseIn.takeD (i := 4) (v := undef) [4, 5, 6, 7, 8, 9, 10, 11, 12, 13, 14, 15, 16, 17, 18, 19, 20, 21, 22, 23, 24, 25] 59 rfl (by rfl) (by kernel_rfl) (by kernel_rfl) (by kernel_rfl) (by kernel_rfl) (by kernel_rfl) (fun _ _ _ h => h) (Or.inr ⟨by kernel_rfl, rfl⟩) hHeld ?_
        try simp only [Act.put, List.setIfInBounds_toArray, List.set]
        refine PhaseIn.takeD (i := 5) (v := undef) [5, 6, 7, 8, 9, 10, 11, 12, 13, 14, 15, 16, 17, 18, 19, 20, 21, 22, 23, 24, 25] 60 rfl (by rfl) (by kernel_rfl) (by kernel_rfl) (by kernel_rfl) (by kernel_rfl) (by kernel_rfl) (fun _ _ _ h => h) (Or.inr ⟨by kernel_rfl, rfl⟩) hHeld ?_
        try simp only [Act.put, List.setIfInBounds_toArray, List.set]
        refine PhaseIn.takeD (i := 6) (v := undef) [6, 7, 8, 9, 10, 11, 12, 13, 14, 15, 16, 17, 18, 19, 20, 21, 22, 23, 24, 25] 61 rfl (by rfl) (by kernel_rfl) (by kernel_rfl) (by kernel_rfl) (by kernel_rfl) (by kernel_rfl) (fun _ _ _ h => h) (Or.inr ⟨by kernel_rfl, rfl⟩) hHeld ?_
        try simp only [Act.put, List.setIfInBounds_toArray, List.set]
        refine PhaseIn.takeD (i := 7) (v := ?_) [7, 8, 9, 10, 11, 12, 13, 14, 15, 16, 17, 18, 19, 20, 21, 22, 23, 24, 25] 62 rfl (by rfl) (by kernel_rfl) (by kernel_rfl) (by kernel_rfl) (by kernel_rfl) (by kernel_rfl) (fun _ _ _ h => h) (Or.inl ⟨by kernel_rfl, ?_⟩) hHeld ?_
        rotate_left
        · intro w' hSw
          (try dsimp only at hSw)
          go_simp
          first | done | with_reducible rfl
        try simp only [Act.put, List.setIfInBounds_toArray, List.set]
        refine PhaseIn.takeD (i := 8) (v := ?_) [8, 9, 10, 11, 12, 13, 14, 15, 16, 17, 18, 19, 20, 21, 22, 23, 24, 25] 63 rfl (by rfl) (by kernel_rfl) (by kernel_rfl) (by kernel_rfl) (by kernel_rfl) (by kernel_rfl) (fun _ _ _ h => h) (Or.inl ⟨by kernel_rfl, ?_⟩) hHeld ?_
        rotate_left
        · intro w' hSw
          (try dsimp only at hSw)
          go_simp
          first | done | with_reducible rfl
        try simp only [Act.put, List.setIfInBounds_toArray, List.set]
        refine PhaseIn.takeD (i := 9) (v := undef) [9, 10, 11, 15, 16, 17, 18, 19, 20, 21, 22, 23, 24, 25] 64 rfl (by rfl) (by kernel_rfl) (by kernel_rfl) (by kernel_rfl) (by kernel_rfl) (by kernel_rfl) (fun _ _ _ h => h) (Or.inr ⟨by kernel_rfl, rfl⟩) hHeld ?_
        try simp only [Act.put, List.setIfInBounds_toArray, List.set]
        refine PhaseIn.takeD (i := 10) (v := undef) [10, 11, 15, 16, 17, 18, 19, 20, 21, 22, 23, 24, 25] 65 rfl (by rfl) (by kernel_rfl) (by kernel_rfl) (by kernel_rfl) (by kernel_rfl) (by kernel_rfl) (fun _ _ _ h => h) (Or.inr ⟨by kernel_rfl, rfl⟩) hHeld ?_
        try simp only [Act.put, List.setIfInBounds_toArray, List.set]
        refine PhaseIn.takeD (i := 11) (v := undef) [11, 15, 16, 17, 18, 19, 20, 21, 22, 23, 24, 25] 66 rfl (by rfl) (by kernel_rfl) (by kernel_rfl) (by kernel_rfl) (by kernel_rfl) (by kernel_rfl) (fun _ _ _ h => h) (Or.inr ⟨by kernel_rfl, rfl⟩) hHeld ?_
        try simp only [Act.put, List.setIfInBounds_toArray, List.set]
        refine PhaseIn.takeD (i := 12) (v := undef) [12, 13, 14, 15, 16, 17, 18, 19, 20, 21, 22, 23, 24, 25] 67 rfl (by rfl) (by kernel_rfl) (by kernel_rfl) (by kernel_rfl) (by kernel_rfl) (by kernel_rfl) (fun _ _ _ h => h) (Or.inr ⟨by kernel_rfl, rfl⟩) hHeld ?_
        try simp only [Act.put, List.setIfInBounds_toArray, List.set]
        refine PhaseIn.takeD (i := 13) (v := undef) [13, 14, 15, 16, 17, 18, 19, 20, 21, 22, 23, 24, 25] 68 rfl (by rfl) (by kernel_rfl) (by kernel_rfl) (by kernel_rfl) (by kernel_rfl) (by kernel_rfl) (fun _ _ _ h => h) (Or.inr ⟨by kernel_rfl, rfl⟩) hHeld ?_
        try simp only [Act.put, List.setIfInBounds_toArray, List.set]
        refine PhaseIn.takeD (i := 14) (v := undef) [14, 15, 16, 17, 18, 19, 20, 21, 22, 23, 24, 25] 69 rfl (by rfl) (by kernel_rfl) (by kernel_rfl) (by kernel_rfl) (by kernel_rfl) (by kernel_rfl) (fun _ _ _ h => h) (Or.inr ⟨by kernel_rfl, rfl⟩) hHeld ?_
        try simp only [Act.put, List.setIfInBounds_toArray, List.set]
        refine PhaseIn.takeD (i := 15) (v := undef) [15, 16, 17, 18, 19, 20, 21, 22, 23, 24, 25] 70 rfl (by rfl) (by kernel_rfl) (by kernel_rfl) (by kernel_rfl) (by kernel_rfl) (by kernel_rfl) (fun _ _ _ h => h) (Or.inr ⟨by kernel_rfl, rfl⟩) hHeld ?_
        try simp only [Act.put, List.setIfInBounds_toArray, List.set]
        refine PhaseIn.takeD (i := 16) (v := undef) [16, 17, 18, 19, 20, 21, 22, 23, 24, 25] 71 rfl (by rfl) (by kernel_rfl) (by kernel_rfl) (by kernel_rfl) (by kernel_rfl) (by kernel_rfl) (fun _ _ _ h => h) (Or.inr ⟨by kernel_rfl, rfl⟩) hHeld ?_
        try simp only [Act.put, List.setIfInBounds_toArray, List.set]
        refine PhaseIn.takeD (i := 17) (v := ?_) [17, 18, 19, 20, 21, 22, 23, 24, 25] 72 rfl (by rfl) (by kernel_rfl) (by kernel_rfl) (by kernel_rfl) (by kernel_rfl) (by kernel_rfl) (fun _ _ _ h => h) (Or.inl ⟨by kernel_rfl, ?_⟩) hHeld ?_
        rotate_left
        · intro w' hSw
          (try dsimp only at hSw)
          go_simp
          first | done | with_reducible rfl
        try simp only [Act.put, List.setIfInBounds_toArray, List.set]
        refine PhaseIn.takeD (i := 18) (v := ?_) [18, 19, 20, 21, 22, 23, 24, 25] 73 rfl (by rfl) (by kernel_rfl) (by kernel_rfl) (by kernel_rfl) (by kernel_rfl) (by kernel_rfl) (fun _ _ _ h => h) (Or.inl ⟨by kernel_rfl, ?_⟩) hHeld ?_
        rotate_left
        · intro w' hSw
          (try dsimp only at hSw)
          go_simp
          first | done | with_reducible rfl
        try simp only [Act.put, List.setIfInBounds_toArray, List.set]
        refine PhaseIn.takeD (i := 19) (v := undef) [19, 20, 22, 23, 24, 25] 74 rfl (by rfl) (by kernel_rfl) (by kernel_rfl) (by kernel_rfl) (by kernel_rfl) (by kernel_rfl) (fun _ _ _ h => h) (Or.inr ⟨by kernel_rfl, rfl⟩) hHeld ?_
        try simp only [Act.put, List.setIfInBounds_toArray, List.set]
        refine PhaseIn.takeD (i := 20) (v := undef) [20, 22, 23, 24, 25] 75 rfl (by rfl) (by kernel_rfl) (by kernel_rfl) (by kernel_rfl) (by kernel_rfl) (by kernel_rfl) (fun _ _ _ h => h) (Or.inr ⟨by kernel_rfl, rfl⟩) hHeld ?_
        try simp only [Act.put, List.setIfInBounds_toArray, List.set]
        refine PhaseIn.takeD (i := 21) (v := undef) [21, 22, 23, 24, 25] 76 rfl (by rfl) (by kernel_rfl) (by kernel_rfl) (by kernel_rfl) (by kernel_rfl) (by kernel_rfl) (fun _ _ _ h => h) (Or.inr ⟨by kernel_rfl, rfl⟩) hHeld ?_
        try simp only [Act.put, List.setIfInBounds_toArray, List.set]
        refine PhaseIn.takeD (i := 22) (v := undef) [22, 23, 24, 25] 77 rfl (by rfl) (by kernel_rfl) (by kernel_rfl) (by kernel_rfl) (by kernel_rfl) (by kernel_rfl) (fun _ _ _ h => h) (Or.inr ⟨by kernel_rfl, rfl⟩) hHeld ?_
        try simp only [Act.put, List.setIfInBounds_toArray, List.set]
        refine PhaseIn.takeD (i := 23) (v := undef) [23, 24, 25] 78 rfl (by rfl) (by kernel_rfl) (by kernel_rfl) (by kernel_rfl) (by kernel_rfl) (by kernel_rfl) (fun _ _ _ h => h) (Or.inr ⟨by kernel_rfl, rfl⟩) hHeld ?_
        try simp only [Act.put, List.setIfInBounds_toArray, List.set]
        refine PhaseIn.takeD (i := 24) (v := undef) [24, 25] 79 rfl (by rfl) (by kernel_rfl) (by kernel_rfl) (by kernel_rfl) (by kernel_rfl) (by kernel_rfl) (fun _ _ _ h => h) (Or.inr ⟨by kernel_rfl, rfl⟩) hHeld ?_
        try simp only [Act.put, List.setIfInBounds_toArray, List.set]
        refine PhaseIn.takeD (i := 25) (v := ?_) [25] 80 rfl (by rfl) (by kernel_rfl) (by kernel_rfl) (by kernel_rfl) (by kernel_rfl) (by kernel_rfl) (fun _ _ _ h => h) (Or.inl ⟨by kernel_rfl, ?_⟩) hHeld ?_
        rotate_left
        · intro w' hSw
          (try dsimp only at hSw)
          go_simp
          first | done | with_reducible rfl
        try simp only [Act.put, List.setIfInBounds_toArray, List.set]
        refine PhaseIn.done (by kernel_rfl) ?_ _
        have S := hide hHeld
        clear hHeld
        go_wp2_with fail
        refine (La.laOk wv25).mono ?_
        rintro e wz ⟨rfl, rfl⟩
        have FIN := hide S.out.bw
        clear S
        go_wp2
        go_ret
        exact ⟨rfl, FIN.out⟩
      | true =>
        cases okd with
        | false =>
          refine (wpIn_wide (n := 0)).1 ?_
          have S2 := hide S.out.drew
          clear S
          refine PhaseIn.region (S := fun v => Pit w [(X4, .slice u4 pd.length k4, pd), (X3, .slice u3 pc.length k3, pc), (X2, .slice u2 pb.length k2, pb), (X1, .slice u1 pa.length k1, pa)] [] v) 26 (by kernel_rfl) ?_
          generalize wv23.drew = wv26 at *
          have hHeld := S2.out
          clear S2
          refine PhaseIn.takeD (i := 0) (v := ?_) [0, 1, 2, 3, 4, 5, 6, 7, 8, 9, 10, 11, 12, 13, 14, 15, 16, 17, 18, 19, 20, 21, 22, 23, 24, 25] 55 rfl (by rfl) (by kernel_rfl) (by kernel_rfl) (by kernel_rfl) (by kernel_rfl) (by kernel_rfl) (fun _ _ _ h => h) (Or.inl ⟨by kernel_rfl, ?_⟩) hHeld ?_
          rotate_left
          · intro w' hSw
            (try dsimp only at hSw)
            have z0 := (hSw.box (X3, .slice u3 pc.length k3, pc) (List.mem_cons_of_mem _ List.mem_cons_self)).1.cell 0 _ rfl
            go_simp
            first | done | with_reducible rfl
          try simp only [Act.put, List.setIfInBounds_toArray, List.set]
          obtain ⟨D0, d0⟩ := (hHeld.box (X3, .slice u3 pc.length k3, pc) (List.mem_cons_of_mem _ List.mem_cons_self)).2
          refine PhaseIn.one (i := 1) (by kernel_rfl) rfl (by kernel_rfl) (fun K hK => ?_)
          unfold Oper.wpIn
          refine ⟨fun _ _ => trivial, ?_⟩
          go_simp
          refine ⟨rfl, (callsIn_wide.2 (specOk pc D0 _ wv26 d0)).mono ?_⟩
          rintro e wv27 ⟨he, hb⟩
          rw [Ec.out] at he
          subst he
          clear d0
          replace hHeld := hHeld.below hb
          clear hb
          refine hK _ _ (fun _ => hHeld) ?_
          clear hK K
          try simp only [Act.put, List.setIfInBounds_toArray, List.set]
          refine PhaseIn.takeD (i := 2) (v := ?_) [2, 3, 4, 5, 6, 7, 8, 9, 10, 11, 12, 13, 14, 15, 16, 17, 18, 19, 20, 21, 22, 23, 24, 25] 57 rfl (by rfl) (by kernel_rfl) (by kernel_rfl) (by kernel_rfl) (by kernel_rfl) (by kernel_rfl) (fun _ _ _ h => h) (Or.inl ⟨by kernel_rfl, ?_⟩) hHeld ?_
          rotate_left
          · intro w' hSw
            (try dsimp only at hSw)
            go_simp
            first | done | with_reducible rfl
          try simp only [Act.put, List.setIfInBounds_toArray, List.set]
          refine PhaseIn.takeD (i := 3) (v := ?_) [3, 4, 5, 6, 7, 8, 9, 10, 11, 12, 13, 14, 15, 16, 17, 18, 19, 20, 21, 22, 23, 24, 25] 58 rfl (by rfl) (by kernel_rfl) (by kernel_rfl) (by kernel_rfl) (by kernel_rfl) (by kernel_rfl) (fun _ _ _ h => h) (Or.inl ⟨by kernel_rfl, ?_⟩) hHeld ?_
          rotate_left
          · intro w' hSw
            (try dsimp only at hSw)
            go_simp
            first | done | with_reducible rfl
          try simp only [Act.put, List.setIfInBounds_toArray, List.set]
          refine PhaseIn.takeD (i := 4) (v := ?_) [4, 5, 6, 7, 8, 9, 10, 11, 12, 13, 14, 15, 16, 17, 18, 19, 20, 21, 22, 23, 24, 25] 59 rfl (by rfl) (by kernel_rfl) (by kernel_rfl) (by kernel_rfl) (by kernel_rfl) (by kernel_rfl) (fun _ _ _ h => h) (Or.inl ⟨by kernel_rfl, ?_⟩) hHeld ?_
          rotate_left
          · intro w' hSw
            (try dsimp only at hSw)
            have z0 := (hSw.box (X4, .slice u4 pd.length k4, pd) List.mem_cons_self).1.cell 0 _ rfl
            go_simp
            first | done | with_reducible rfl
          try simp only [Act.put, List.setIfInBounds_toArray, List.set]
          obtain ⟨D0, d0⟩ := (hHeld.box (X4, .slice u4 pd.length k4, pd) List.mem_cons_self).2
          refine PhaseIn.one (i := 5) (by kernel_rfl) rfl (by kernel_rfl) (fun K hK => ?_)
          unfold Oper.wpIn
          refine ⟨fun _ _ => trivial, ?_⟩
          go_simp
          refine ⟨rfl, (callsIn_wide.2 (specOk pd D0 _ wv27 d0)).mono ?_⟩
          rintro e wv28 ⟨he, hb⟩
          rw [Ed.out] at he
          subst he
          clear d0
          replace hHeld := hHeld.below hb
          clear hb
          refine hK _ _ (fun _ => hHeld) ?_
          clear hK K
          try simp only [Act.put, List.setIfInBounds_toArray, List.set]
          refine PhaseIn.takeD (i := 6) (v := ?_) [6, 7, 8, 9, 10, 11, 12, 13, 14, 15, 16, 17, 18, 19, 20, 21, 22, 23, 24, 25] 61 rfl (by rfl) (by kernel_rfl) (by kernel_rfl) (by kernel_rfl) (by kernel_rfl) (by kernel_rfl) (fun _ _ _ h => h) (Or.inl ⟨by kernel_rfl, ?_⟩) hHeld ?_
          rotate_left
          · intro w' hSw
            (try dsimp only at hSw)
            go_simp
            first | done | with_reducible rfl
          try simp only [Act.put, List.setIfInBounds_toArray, List.set]
          refine PhaseIn.takeD (i := 7) (v := ?_) [7, 8, 9, 10, 11, 12, 13, 14, 15, 16, 17, 18, 19, 20, 21, 22, 23, 24, 25] 62 rfl (by rfl) (by kernel_rfl) (by kernel_rfl) (by kernel_rfl) (by kernel_rfl) (by kernel_rfl) (fun _ _ _ h => h) (Or.inl ⟨by kernel_rfl, ?_⟩) hHeld ?_
          rotate_left
          · intro w' hSw
            (try dsimp only at hSw)
            go_simp
            first | done | with_reducible rfl
          try simp only [Act.put, List.setIfInBounds_toArray, List.set]
          refine PhaseIn.takeD (i := 8) (v := ?_) [8, 9, 10, 11, 12, 13, 14, 15, 16, 17, 18, 19, 20, 21, 22, 23, 24, 25] 63 rfl (by rfl) (by kernel_rfl) (by kernel_rfl) (by kernel_rfl) (by kernel_rfl) (by kernel_rfl) (fun _ _ _ h => h) (Or.inl ⟨by kernel_rfl, ?_⟩) hHeld ?_
          rotate_left
          · intro w' hSw
            (try dsimp only at hSw)
            go_simp
            first | done | with_reducible rfl
          try simp only [Act.put, List.setIfInBounds_toArray, List.set]
          refine PhaseIn.takeD (i := 9) (v := undef) [9, 10, 11, 15, 16, 17, 18, 19, 20, 21, 22, 23, 24, 25] 64 rfl (by rfl) (by kernel_rfl) (by kernel_rfl) (by kernel_rfl) (by kernel_rfl) (by kernel_rfl) (fun _ _ _ h => h) (Or.inr ⟨by kernel_rfl, rfl⟩) hHeld ?_
          try simp only [Act.put, List.setIfInBounds_toArray, List.set]
          refine PhaseIn.takeD (i := 10) (v := undef) [10, 11, 15, 16, 17, 18, 19, 20, 21, 22, 23, 24, 25] 65 rfl (by rfl) (by kernel_rfl) (by kernel_rfl) (by kernel_rfl) (by kernel_rfl) (by kernel_rfl) (fun _ _ _ h => h) (Or.inr ⟨by kernel_rfl, rfl⟩) hHeld ?_
          try simp only [Act.put, List.setIfInBounds_toArray, List.set]
          refine PhaseIn.takeD (i := 11) (v := undef) [11, 15, 16, 17, 18, 19, 20, 21, 22, 23, 24, 25] 66 rfl (by rfl) (by kernel_rfl) (by kernel_rfl) (by kernel_rfl) (by kernel_rfl) (by kernel_rfl) (fun _ _ _ h => h) (Or.inr ⟨by kernel_rfl, rfl⟩) hHeld ?_
          try simp only [Act.put, List.setIfInBounds_toArray, List.set]
          refine PhaseIn.takeD (i := 12) (v := undef) [12, 13, 14, 15, 16, 17, 18, 19, 20, 21, 22, 23, 24, 25] 67 rfl (by rfl) (by kernel_rfl) (by kernel_rfl) (by kernel_rfl) (by kernel_rfl) (by kernel_rfl) (fun _ _ _ h => h) (Or.inr ⟨by kernel_rfl, rfl⟩) hHeld ?_
          try simp only [Act.put, List.setIfInBounds_toArray, List.set]
          refine PhaseIn.takeD (i := 13) (v := undef) [13, 14, 15, 16, 17, 18, 19, 20, 21, 22, 23, 24, 25] 68 rfl (by rfl) (by kernel_rfl) (by kernel_rfl) (by kernel_rfl) (by kernel_rfl) (by kernel_rfl) (fun _ _ _ h => h) (Or.inr ⟨by kernel_rfl, rfl⟩) hHeld ?_
          try simp only [Act.put, List.setIfInBounds_toArray, List.set]
          refine PhaseIn.takeD (i := 14) (v := undef) [14, 15, 16, 17, 18, 19, 20, 21, 22, 23, 24, 25] 69 rfl (by rfl) (by kernel_rfl) (by kernel_rfl) (by kernel_rfl) (by kernel_rfl) (by kernel_rfl) (fun _ _ _ h => h) (Or.inr ⟨by kernel_rfl, rfl⟩) hHeld ?_
          try simp only [Act.put, List.setIfInBounds_toArray, List.set]
          refine PhaseIn.takeD (i := 15) (v := undef) [15, 16, 17, 18, 19, 20, 21, 22, 23, 24, 25] 70 rfl (by rfl) (by kernel_rfl) (by kernel_rfl) (by kernel_rfl) (by kernel_rfl) (by kernel_rfl) (fun _ _ _ h => h) (Or.inr ⟨by kernel_rfl, rfl⟩) hHeld ?_
          try simp only [Act.put, List.setIfInBounds_toArray, List.set]
          refine PhaseIn.takeD (i := 16) (v := undef) [16, 17, 18, 19, 20, 21, 22, 23, 24, 25] 71 rfl (by rfl) (by kernel_rfl) (by kernel_rfl) (by kernel_rfl) (by kernel_rfl) (by kernel_rfl) (fun _ _ _ h => h) (Or.inr ⟨by kernel_rfl, rfl⟩) hHeld ?_
          try simp only [Act.put, List.setIfInBounds_toArray, List.set]
          refine PhaseIn.takeD (i := 17) (v := ?_) [17, 18, 19, 20, 21, 22, 23, 24, 25] 72 rfl (by rfl) (by kernel_rfl) (by kernel_rfl) (by kernel_rfl) (by kernel_rfl) (by kernel_rfl) (fun _ _ _ h => h) (Or.inl ⟨by kernel_rfl, ?_⟩) hHeld ?_
          rotate_left
          · intro w' hSw
            (try dsimp only at hSw)
            go_simp
            first | done | with_reducible rfl
          try simp only [Act.put, List.setIfInBounds_toArray, List.set]
          refine PhaseIn.takeD (i := 18) (v := ?_) [18, 19, 20, 21, 22, 23, 24, 25] 73 rfl (by rfl) (by kernel_rfl) (by kernel_rfl) (by kernel_rfl) (by kernel_rfl) (by kernel_rfl) (fun _ _ _ h => h) (Or.inl ⟨by kernel_rfl, ?_⟩) hHeld ?_
          rotate_left
          · intro w' hSw
            (try dsimp only at hSw)
            go_simp
            first | done | with_reducible rfl
          try simp only [Act.put, List.setIfInBounds_toArray, List.set]
          refine PhaseIn.takeD (i := 19) (v := undef) [19, 20, 22, 23, 24, 25] 74 rfl (by rfl) (by kernel_rfl) (by kernel_rfl) (by kernel_rfl) (by kernel_rfl) (by kernel_rfl) (fun _ _ _ h => h) (Or.inr ⟨by kernel_rfl, rfl⟩) hHeld ?_
          try simp only [Act.put, List.setIfInBounds_toArray, List.set]
          refine PhaseIn.takeD (i := 20) (v := undef) [20, 22, 23, 24, 25] 75 rfl (by rfl) (by kernel_rfl) (by kernel_rfl) (by kernel_rfl) (by kernel_rfl) (by kernel_rfl) (fun _ _ _ h => h) (Or.inr ⟨by kernel_rfl, rfl⟩) hHeld ?_
          try simp only [Act.put, List.setIfInBounds_toArray, List.set]
          refine PhaseIn.takeD (i := 21) (v := undef) [21, 22, 23, 24, 25] 76 rfl (by rfl) (by kernel_rfl) (by kernel_rfl) (by kernel_rfl) (by kernel_rfl) (by kernel_rfl) (fun _ _ _ h => h) (Or.inr ⟨by kernel_rfl, rfl⟩) hHeld ?_
          try simp only [Act.put, List.setIfInBounds_toArray, List.set]
          refine PhaseIn.takeD (i := 22) (v := undef) [22, 23, 24, 25] 77 rfl (by rfl) (by kernel_rfl) (by kernel_rfl) (by kernel_rfl) (by kernel_rfl) (by kernel_rfl) (fun _ _ _ h => h) (Or.inr ⟨by kernel_rfl, rfl⟩) hHeld ?_
          try simp only [Act.put, List.setIfInBounds_toArray, List.set]
          refine PhaseIn.takeD (i := 23) (v := undef) [23, 24, 25] 78 rfl (by rfl) (by kernel_rfl) (by kernel_rfl) (by kernel_rfl) (by kernel_rfl) (by kernel_rfl) (fun _ _ _ h => h) (Or.inr ⟨by kernel_rfl, rfl⟩) hHeld ?_
          try simp only [Act.put, List.setIfInBounds_toArray, List.set]
          refine PhaseIn.takeD (i := 24) (v := undef) [24, 25] 79 rfl (by rfl) (by kernel_rfl) (by kernel_rfl) (by kernel_rfl) (by kernel_rfl) (by kernel_rfl) (fun _ _ _ h => h) (Or.inr ⟨by kernel_rfl, rfl⟩) hHeld ?_
          try simp only [Act.put, List.setIfInBounds_toArray, List.set]
          refine PhaseIn.takeD (i := 25) (v := ?_) [25] 80 rfl (by rfl) (by kernel_rfl) (by kernel_rfl) (by kernel_rfl) (by kernel_rfl) (by kernel_rfl) (fun _ _ _ h => h) (Or.inl ⟨by kernel_rfl, ?_⟩) hHeld ?_
          rotate_left
          · intro w' hSw
            (try dsimp only at hSw)
            go_simp
            first | done | with_reducible rfl
          try simp only [Act.put, List.setIfInBounds_toArray, List.set]
          refine PhaseIn.done (by kernel_rfl) ?_ _
          have S := hide hHeld
          clear hHeld
          go_wp2_with fail
          refine (La.laOk wv28).mono ?_
          rintro e wz ⟨rfl, rfl⟩
          have FIN := hide S.out.bw
          clear S
          go_wp2
          go_ret
          exact ⟨rfl, FIN.out⟩
        | true =>
          have hC := ok_len Ec.out
          have hD := ok_len Ed.out
          obtain ⟨m0, m1⟩ := prod_bd hC hD
          have kwm : IntKind.i64.wrap ((pc.length : Int) * (pd.length : Int)) = (pc.length : Int) * (pd.length : Int) := IntWalk.i64_in _ ⟨by omega, by omega⟩
          have q3 := deg_ok Ec.out
          have q4 := deg_ok Ed.out
          by_cases hp : (12 : Int) < (pc.length : Int) * (pd.length : Int)
          · have hpb : decide ((12 : Int) < (pc.length : Int) * (pd.length : Int)) = true := decide_eq_true hp
            refine (wpIn_wide (n := 0)).1 ?_
            have S2 := hide S.out.drew
            clear S
            refine PhaseIn.region (S := fun v => Pit w [(X4, .slice u4 pd.length k4, pd), (X3, .slice u3 pc.length k3, pc), (X2, .slice u2 pb.length k2, pb), (X1, .slice u1 pa.length k1, pa)] [] v) 26 (by kernel_rfl) ?_
            generalize wv23.drew = wv29 at *
            have hHeld := S2.out
            clear S2
            refine PhaseIn.takeD (i := 0) (v := ?_) [0, 1, 2, 3, 4, 5, 6, 7, 8, 9, 10, 11, 12, 13, 14, 15, 16, 17, 18, 19, 20, 21, 22, 23, 24, 25] 55 rfl (by rfl) (by kernel_rfl) (by kernel_rfl) (by kernel_rfl) (by kernel_rfl) (by kernel_rfl) (fun _ _ _ h => h) (Or.inl ⟨by kernel_rfl, ?_⟩) hHeld ?_
            rotate_left
            · intro w' hSw
              (try dsimp only at hSw)
              have z0 := (hSw.box (X3, .slice u3 pc.length k3, pc) (List.mem_cons_of_mem _ List.mem_cons_self)).1.cell 0 _ rfl
              go_simp
              first | done | with_reducible rfl
            try simp only [Act.put, List.setIfInBounds_toArray, List.set]
            obtain ⟨D0, d0⟩ := (hHeld.box (X3, .slice u3 pc.length k3, pc) (List.mem_cons_of_mem _ List.mem_cons_self)).2
            refine PhaseIn.one (i := 1) (by kernel_rfl) rfl (by kernel_rfl) (fun K hK => ?_)
            unfold Oper.wpIn
            refine ⟨fun _ _ => trivial, ?_⟩
            go_simp
            refine ⟨rfl, (callsIn_wide.2 (specOk pc D0 _ wv29 d0)).mono ?_⟩
            rintro e wv30 ⟨he, hb⟩
            rw [Ec.out] at he
            subst he
            clear d0
            replace hHeld := hHeld.below hb
            clear hb
            refine hK _ _ (fun _ => hHeld) ?_
            clear hK K
            try simp only [Act.put, List.setIfInBounds_toArray, List.set]
            refine PhaseIn.takeD (i := 2) (v := ?_) [2, 3, 4, 5, 6, 7, 8, 9, 10, 11, 12, 13, 14, 15, 16, 17, 18, 19, 20, 21, 22, 23, 24, 25] 57 rfl (by rfl) (by kernel_rfl) (by kernel_rfl) (by kernel_rfl) (by kernel_rfl) (by kernel_rfl) (fun _ _ _ h => h) (Or.inl ⟨by kernel_rfl, ?_⟩) hHeld ?_
            rotate_left
            · intro w' hSw
              (try dsimp only at hSw)
              go_simp
              first | done | with_reducible rfl
            try simp only [Act.put, List.setIfInBounds_toArray, List.set]
            refine PhaseIn.takeD (i := 3) (v := ?_) [3, 4, 5, 6, 7, 8, 9, 10, 11, 12, 13, 14, 15, 16, 17, 18, 19, 20, 21, 22, 23, 24, 25] 58 rfl (by rfl) (by kernel_rfl) (by kernel_rfl) (by kernel_rfl) (by kernel_rfl) (by kernel_rfl) (fun _ _ _ h => h) (Or.inl ⟨by kernel_rfl, ?_⟩) hHeld ?_
            rotate_left
            · intro w' hSw
              (try dsimp only at hSw)
              go_simp
              first | done | with_reducible rfl
            try simp only [Act.put, List.setIfInBounds_toArray, List.set]
            refine PhaseIn.takeD (i := 4) (v := ?_) [4, 5, 6, 7, 8, 9, 10, 11, 12, 13, 14, 15, 16, 17, 18, 19, 20, 21, 22, 23, 24, 25] 59 rfl (by rfl) (by kernel_rfl) (by kernel_rfl) (by kernel_rfl) (by kernel_rfl) (by kernel_rfl) (fun _ _ _ h => h) (Or.inl ⟨by kernel_rfl, ?_⟩) hHeld ?_
            rotate_left
            · intro w' hSw
              (try dsimp only at hSw)
              have z0 := (hSw.box (X4, .slice u4 pd.length k4, pd) List.mem_cons_self).1.cell 0 _ rfl
              go_simp
              first | done | with_reducible rfl
            try simp only [Act.put, List.setIfInBounds_toArray, List.set]
            obtain ⟨D0, d0⟩ := (hHeld.box (X4, .slice u4 pd.length k4, pd) List.mem_cons_self).2
            refine PhaseIn.one (i := 5) (by kernel_rfl) rfl (by kernel_rfl) (fun K hK => ?_)
            unfold Oper.wpIn
            refine ⟨fun _ _ => trivial, ?_⟩
            go_simp
            refine ⟨rfl, (callsIn_wide.2 (specOk pd D0 _ wv30 d0)).mono ?_⟩
            rintro e wv31 ⟨he, hb⟩
            rw [Ed.out] at he
            subst he
            clear d0
            replace hHeld := hHeld.below hb
            clear hb
            refine hK _ _ (fun _ => hHeld) ?_
            clear hK K
            try simp only [Act.put, List.setIfInBounds_toArray, List.set]
            refine PhaseIn.takeD (i := 6) (v := ?_) [6, 7, 8, 9, 10, 11, 12, 13, 14, 15, 16, 17, 18, 19, 20, 21, 22, 23, 24, 25] 61 rfl (by rfl) (by kernel_rfl) (by kernel_rfl) (by kernel_rfl) (by kernel_rfl) (by kernel_rfl) (fun _ _ _ h => h) (Or.inl ⟨by kernel_rfl, ?_⟩) hHeld ?_
            rotate_left
            · intro w' hSw
              (try dsimp only at hSw)
              go_simp
              first | done | with_reducible rfl
            try simp only [Act.put, List.setIfInBounds_toArray, List.set]
            refine PhaseIn.takeD (i := 7) (v := ?_) [7, 8, 9, 10, 11, 12, 13, 14, 15, 16, 17, 18, 19, 20, 21, 22, 23, 24, 25] 62 rfl (by rfl) (by kernel_rfl) (by kernel_rfl) (by kernel_rfl) (by kernel_rfl) (by kernel_rfl) (fun _ _ _ h => h) (Or.inl ⟨by kernel_rfl, ?_⟩) hHeld ?_
            rotate_left
            · intro w' hSw
              (try dsimp only at hSw)
              go_simp
              first | done | with_reducible rfl
            try simp only [Act.put, List.setIfInBounds_toArray, List.set]
            refine PhaseIn.takeD (i := 8) (v := ?_) [8, 9, 10, 11, 12, 13, 14, 15, 16, 17, 18, 19, 20, 21, 22, 23, 24, 25] 63 rfl (by rfl) (by kernel_rfl) (by kernel_rfl) (by kernel_rfl) (by kernel_rfl) (by kernel_rfl) (fun _ _ _ h => h) (Or.inl ⟨by kernel_rfl, ?_⟩) hHeld ?_
            rotate_left
            · intro w' hSw
              (try dsimp only at hSw)
              go_simp
              first | done | with_reducible rfl
            try simp only [Act.put, List.setIfInBounds_toArray, List.set]
            refine PhaseIn.takeD (i := 9) (v := ?_) [9, 10, 11, 15, 16, 17, 18, 19, 20, 21, 22, 23, 24, 25] 64 rfl (by rfl) (by kernel_rfl) (by kernel_rfl) (by kernel_rfl) (by kernel_rfl) (by kernel_rfl) (fun _ _ _ h => h) (Or.inl ⟨by kernel_rfl, ?_⟩) hHeld ?_
            rotate_left
            · intro w' hSw
              (try dsimp only at hSw)
              go_simp
              first | done | with_reducible rfl
            try simp only [Act.put, List.setIfInBounds_toArray, List.set]
            refine PhaseIn.takeD (i := 10) (v := ?_) [10, 11, 15, 16, 17, 18, 19, 20, 21, 22, 23, 24, 25] 65 rfl (by rfl) (by kernel_rfl) (by kernel_rfl) (by kernel_rfl) (by kernel_rfl) (by kernel_rfl) (fun _ _ _ h => h) (Or.inl ⟨by kernel_rfl, ?_⟩) hHeld ?_
            rotate_left
            · intro w' hSw
              (try dsimp only at hSw)
              have z0 := (hSw.box (X3, .slice u3 pc.length k3, pc) (List.mem_cons_of_mem _ List.mem_cons_self)).1.cell 0 _ rfl
              go_simp
              first | done | with_reducible rfl
            try simp only [Act.put, List.setIfInBounds_toArray, List.set]
            refine PhaseIn.takeD (i := 11) (v := ?_) [11, 15, 16, 17, 18, 19, 20, 21, 22, 23, 24, 25] 66 rfl (by rfl) (by kernel_rfl) (by kernel_rfl) (by kernel_rfl) (by kernel_rfl) (by kernel_rfl) (fun _ _ _ h => h) (Or.inl ⟨by kernel_rfl, ?_⟩) hHeld ?_
            rotate_left
            · intro w' hSw
              (try dsimp only at hSw)
              go_simp
              first | done | with_reducible rfl
            try simp only [Act.put, List.setIfInBounds_toArray, List.set]
            refine PhaseIn.takeD (i := 12) (v := ?_) [12, 13, 14, 15, 16, 17, 18, 19, 20, 21, 22, 23, 24, 25] 67 rfl (by rfl) (by kernel_rfl) (by kernel_rfl) (by kernel_rfl) (by kernel_rfl) (by kernel_rfl) (fun _ _ _ h => h) (Or.inl ⟨by kernel_rfl, ?_⟩) hHeld ?_
            rotate_left
            · intro w' hSw
              (try dsimp only at hSw)
              go_simp
              first | done | with_reducible rfl
            try simp only [Act.put, List.setIfInBounds_toArray, List.set]
            refine PhaseIn.takeD (i := 13) (v := ?_) [13, 14, 15, 16, 17, 18, 19, 20, 21, 22, 23, 24, 25] 68 rfl (by rfl) (by kernel_rfl) (by kernel_rfl) (by kernel_rfl) (by kernel_rfl) (by kernel_rfl) (fun _ _ _ h => h) (Or.inl ⟨by kernel_rfl, ?_⟩) hHeld ?_
            rotate_left
            · intro w' hSw
              (try dsimp only at hSw)
              have z0 := (hSw.box (X4, .slice u4 pd.length k4, pd) List.mem_cons_self).1.cell 0 _ rfl
              go_simp
              first | done | with_reducible rfl
            try simp only [Act.put, List.setIfInBounds_toArray, List.set]
            refine PhaseIn.takeD (i := 14) (v := ?_) [14, 15, 16, 17, 18, 19, 20, 21, 22, 23, 24, 25] 69 rfl (by rfl) (by kernel_rfl) (by kernel_rfl) (by kernel_rfl) (by kernel_rfl) (by kernel_rfl) (fun _ _ _ h => h) (Or.inl ⟨by kernel_rfl, ?_⟩) hHeld ?_
            rotate_left
            · intro w' hSw
              (try dsimp only at hSw)
              go_simp
              first | done | with_reducible rfl
            try simp only [Act.put, List.setIfInBounds_toArray, List.set]
            refine PhaseIn.takeD (i := 15) (v := (.int .i64 ((pc.length : Int) * (pd.length : Int)))) [15, 16, 17, 18, 19, 20, 21, 22, 23, 24, 25] 70 rfl (by rfl) (by kernel_rfl) (by kernel_rfl) (by kernel_rfl) (by kernel_rfl) (by kernel_rfl) (fun _ _ _ h => h) (Or.inl ⟨by kernel_rfl, ?_⟩) hHeld ?_
            · intro w' hSw
              (try dsimp only at hSw)
              go_simp
              first | done | with_reducible rfl | (rw [kwm]; done) | (simp [kwm]; done)
            try simp only [Act.put, List.setIfInBounds_toArray, List.set]
            refine PhaseIn.takeD (i := 16) (v := (.bool true)) [16, 17, 18, 19, 20, 21, 22, 23, 24, 25] 71 rfl (by rfl) (by kernel_rfl) (by kernel_rfl) (by kernel_rfl) (by kernel_rfl) (by kernel_rfl) (fun _ _ _ h => h) (Or.inl ⟨by kernel_rfl, ?_⟩) hHeld ?_
            · intro w' hSw
              (try dsimp only at hSw)
              go_simp
              first | done | with_reducible rfl
            try simp only [Act.put, List.setIfInBounds_toArray, List.set]
            refine PhaseIn.takeD (i := 17) (v := ?_) [17, 18, 19, 20, 21, 22, 23, 24, 25] 72 rfl (by rfl) (by kernel_rfl) (by kernel_rfl) (by kernel_rfl) (by kernel_rfl) (by kernel_rfl) (fun _ _ _ h => h) (Or.inl ⟨by kernel_rfl, ?_⟩) hHeld ?_
            rotate_left
            · intro w' hSw
              (try dsimp only at hSw)
              go_simp
              first | done | with_reducible rfl
            try simp only [Act.put, List.setIfInBounds_toArray, List.set]
            refine PhaseIn.takeD (i := 18) (v := ?_) [18, 19, 20, 21, 22, 23, 24, 25] 73 rfl (by rfl) (by kernel_rfl) (by kernel_rfl) (by kernel_rfl) (by kernel_rfl) (by kernel_rfl) (fun _ _ _ h => h) (Or.inl ⟨by kernel_rfl, ?_⟩) hHeld ?_
            rotate_left
            · intro w' hSw
              (try dsimp only at hSw)
              go_simp
              first | done | with_reducible rfl
            try simp only [Act.put, List.setIfInBounds_toArray, List.set]
            refine PhaseIn.takeD (i := 19) (v := undef) [19, 20, 22, 23, 24, 25] 74 rfl (by rfl) (by kernel_rfl) (by kernel_rfl) (by kernel_rfl) (by kernel_rfl) (by kernel_rfl) (fun _ _ _ h => h) (Or.inr ⟨by kernel_rfl, rfl⟩) hHeld ?_
            try simp only [Act.put, List.setIfInBounds_toArray, List.set]
            refine PhaseIn.takeD (i := 20) (v := undef) [20, 22, 23, 24, 25] 75 rfl (by rfl) (by kernel_rfl) (by kernel_rfl) (by kernel_rfl) (by kernel_rfl) (by kernel_rfl) (fun _ _ _ h => h) (Or.inr ⟨by kernel_rfl, rfl⟩) hHeld ?_
            try simp only [Act.put, List.setIfInBounds_toArray, List.set]
            refine PhaseIn.takeD (i := 21) (v := undef) [21, 22, 23, 24, 25] 76 rfl (by rfl) (by kernel_rfl) (by kernel_rfl) (by kernel_rfl) (by kernel_rfl) (by kernel_rfl) (fun _ _ _ h => h) (Or.inr ⟨by kernel_rfl, rfl⟩) hHeld ?_
            try simp only [Act.put, List.setIfInBounds_toArray, List.set]
            refine PhaseIn.takeD (i := 22) (v := undef) [22, 23, 24, 25] 77 rfl (by rfl) (by kernel_rfl) (by kernel_rfl) (by kernel_rfl) (by kernel_rfl) (by kernel_rfl) (fun _ _ _ h => h) (Or.inr ⟨by kernel_rfl, rfl⟩) hHeld ?_
            try simp only [Act.put, List.setIfInBounds_toArray, List.set]
            refine PhaseIn.takeD (i := 23) (v := undef) [23, 24, 25] 78 rfl (by rfl) (by kernel_rfl) (by kernel_rfl) (by kernel_rfl) (by kernel_rfl) (by kernel_rfl) (fun _ _ _ h => h) (Or.inr ⟨by kernel_rfl, rfl⟩) hHeld ?_
            try simp only [Act.put, List.setIfInBounds_toArray, List.set]
            refine PhaseIn.takeD (i := 24) (v := undef) [24, 25] 79 rfl (by rfl) (by kernel_rfl) (by kernel_rfl) (by kernel_rfl) (by kernel_rfl) (by kernel_rfl) (fun _ _ _ h => h) (Or.inr ⟨by kernel_rfl, rfl⟩) hHeld ?_
            try simp only [Act.put, List.setIfInBounds_toArray, List.set]
            refine PhaseIn.takeD (i := 25) (v := ?_) [25] 80 rfl (by rfl) (by kernel_rfl) (by kernel_rfl) (by kernel_rfl) (by kernel_rfl) (by kernel_rfl) (fun _ _ _ h => h) (Or.inl ⟨by kernel_rfl, ?_⟩) hHeld ?_
            rotate_left
            · intro w' hSw
              (try dsimp only at hSw)
              go_simp
              first | done | with_reducible rfl
            try simp only [Act.put, List.setIfInBounds_toArray, List.set]
            refine PhaseIn.done (by kernel_rfl) ?_ _
            have S := hide hHeld
            clear hHeld
            go_wp2_with fail
            refine (La.laOk wv31).mono ?_
            rintro e wz ⟨rfl, rfl⟩
            have FIN := hide S.out.bw
            clear S
            go_wp2
            go_ret
            exact ⟨rfl, FIN.out⟩
          · have hpb : decide ((12 : Int) < (pc.length : Int) * (pd.length : Int)) = false := decide_eq_false hp
            have HP := hide (prod_le hp)
            obtain ⟨dc, edc⟩ : ∃ dc, degL pc 0 = dc := ⟨_, rfl⟩
            obtain ⟨dd, edd⟩ : ∃ dd, degL pd 0 = dd := ⟨_, rfl⟩
            rw [edc] at q3
            rw [edd] at q4
            have kws : IntKind.i64.wrap ((dc : Int) + (dd : Int)) = (dc : Int) + (dd : Int) := IntWalk.i64_in _ ⟨by omega, by omega⟩
            have EDC := hide edc
            have EDD := hide edd
            clear edc edd
            by_cases hg : (4 : Int) < (dc : Int) + (dd : Int)
            · have hx := trivial
              refine (wpIn_wide (n := 0)).1 ?_
              have S2 := hide S.out.drew
              clear S
              refine PhaseIn.region (S := fun v => Pit w [(X4, .slice u4 pd.length k4, pd), (X3, .slice u3 pc.length k3, pc), (X2, .slice u2 pb.length k2, pb), (X1, .slice u1 pa.length k1, pa)] [] v) 26 (by kernel_rfl) ?_
              generalize wv23.drew = wv32 at *
              have hHeld := S2.out
              clear S2
              refine PhaseIn.takeD (i := 0) (v := ?_) [0, 1, 2, 3, 4, 5, 6, 7, 8, 9, 10, 11, 12, 13, 14, 15, 16, 17, 18, 19, 20, 21, 22, 23, 24, 25] 55 rfl (by rfl) (by kernel_rfl) (by kernel_rfl) (by kernel_rfl) (by kernel_rfl) (by kernel_rfl) (fun _ _ _ h => h) (Or.inl ⟨by kernel_rfl, ?_⟩) hHeld ?_
              rotate_left
              · intro w' hSw
                (try dsimp only at hSw)
                have z0 := (hSw.box (X3, .slice u3 pc.length k3, pc) (List.mem_cons_of_mem _ List.mem_cons_self)).1.cell 0 _ rfl
                go_simp
                first | done | with_reducible rfl
              try simp only [Act.put, List.setIfInBounds_toArray, List.set]
              obtain ⟨D0, d0⟩ := (hHeld.box (X3, .slice u3 pc.length k3, pc) (List.mem_cons_of_mem _ List.mem_cons_self)).2
              refine PhaseIn.one (i := 1) (by kernel_rfl) rfl (by kernel_rfl) (fun K hK => ?_)
              unfold Oper.wpIn
              refine ⟨fun _ _ => trivial, ?_⟩
              go_simp
              refine ⟨rfl, (callsIn_wide.2 (specOk pc D0 _ wv32 d0)).mono ?_⟩
              rintro e wv33 ⟨he, hb⟩
              rw [Ec.out] at he
              subst he
              clear d0
              replace hHeld := hHeld.below hb
              clear hb
              refine hK _ _ (fun _ => hHeld) ?_
              clear hK K
              try simp only [Act.put, List.setIfInBounds_toArray, List.set]
              refine PhaseIn.takeD (i := 2) (v := ?_) [2, 3, 4, 5, 6, 7, 8, 9, 10, 11, 12, 13, 14, 15, 16, 17, 18, 19, 20, 21, 22, 23, 24, 25] 57 rfl (by rfl) (by kernel_rfl) (by kernel_rfl) (by kernel_rfl) (by kernel_rfl) (by kernel_rfl) (fun _ _ _ h => h) (Or.inl ⟨by kernel_rfl, ?_⟩) hHeld ?_
              rotate_left
              · intro w' hSw
                (try dsimp only at hSw)
                go_simp
                first | done | with_reducible rfl
              try simp only [Act.put, List.setIfInBounds_toArray, List.set]
              refine PhaseIn.takeD (i := 3) (v := ?_) [3, 4, 5, 6, 7, 8, 9, 10, 11, 12, 13, 14, 15, 16, 17, 18, 19, 20, 21, 22, 23, 24, 25] 58 rfl (by rfl) (by kernel_rfl) (by kernel_rfl) (by kernel_rfl) (by kernel_rfl) (by kernel_rfl) (fun _ _ _ h => h) (Or.inl ⟨by kernel_rfl, ?_⟩) hHeld ?_
              rotate_left
              · intro w' hSw
                (try dsimp only at hSw)
                go_simp
                first | done | with_reducible rfl
              try simp only [Act.put, List.setIfInBounds_toArray, List.set]
              refine PhaseIn.takeD (i := 4) (v := ?_) [4, 5, 6, 7, 8, 9, 10, 11, 12, 13, 14, 15, 16, 17, 18, 19, 20, 21, 22, 23, 24, 25] 59 rfl (by rfl) (by kernel_rfl) (by kernel_rfl) (by kernel_rfl) (by kernel_rfl) (by kernel_rfl) (fun _ _ _ h => h) (Or.inl ⟨by kernel_rfl, ?_⟩) hHeld ?_
              rotate_left
              · intro w' hSw
                (try dsimp only at hSw)
                have z0 := (hSw.box (X4, .slice u4 pd.length k4, pd) List.mem_cons_self).1.cell 0 _ rfl
                go_simp
                first | done | with_reducible rfl
              try simp only [Act.put, List.setIfInBounds_toArray, List.set]
              obtain ⟨D0, d0⟩ := (hHeld.box (X4, .slice u4 pd.length k4, pd) List.mem_cons_self).2
              refine PhaseIn.one (i := 5) (by kernel_rfl) rfl (by kernel_rfl) (fun K hK => ?_)
              unfold Oper.wpIn
              refine ⟨fun _ _ => trivial, ?_⟩
              go_simp
              refine ⟨rfl, (callsIn_wide.2 (specOk pd D0 _ wv33 d0)).mono ?_⟩
              rintro e wv34 ⟨he, hb⟩
              rw [Ed.out] at he
              subst he
              clear d0
              replace hHeld := hHeld.below hb
              clear hb
              refine hK _ _ (fun _ => hHeld) ?_
              clear hK K
              try simp only [Act.put, List.setIfInBounds_toArray, List.set]
              refine PhaseIn.takeD (i := 6) (v := ?_) [6, 7, 8, 9, 10, 11, 12, 13, 14, 15, 16, 17, 18, 19, 20, 21, 22, 23, 24, 25] 61 rfl (by rfl) (by kernel_rfl) (by kernel_rfl) (by kernel_rfl) (by kernel_rfl) (by kernel_rfl) (fun _ _ _ h => h) (Or.inl ⟨by kernel_rfl, ?_⟩) hHeld ?_
              rotate_left
              · intro w' hSw
                (try dsimp only at hSw)
                go_simp
                first | done | with_reducible rfl
              try simp only [Act.put, List.setIfInBounds_toArray, List.set]
              refine PhaseIn.takeD (i := 7) (v := ?_) [7, 8, 9, 10, 11, 12, 13, 14, 15, 16, 17, 18, 19, 20, 21, 22, 23, 24, 25] 62 rfl (by rfl) (by kernel_rfl) (by kernel_rfl) (by kernel_rfl) (by kernel_rfl) (by kernel_rfl) (fun _ _ _ h => h) (Or.inl ⟨by kernel_rfl, ?_⟩) hHeld ?_
              rotate_left
              · intro w' hSw
                (try dsimp only at hSw)
                go_simp
                first | done | with_reducible rfl
              try simp only [Act.put, List.setIfInBounds_toArray, List.set]
              refine PhaseIn.takeD (i := 8) (v := ?_) [8, 9, 10, 11, 12, 13, 14, 15, 16, 17, 18, 19, 20, 21, 22, 23, 24, 25] 63 rfl (by rfl) (by kernel_rfl) (by kernel_rfl) (by kernel_rfl) (by kernel_rfl) (by kernel_rfl) (fun _ _ _ h => h) (Or.inl ⟨by kernel_rfl, ?_⟩) hHeld ?_
              rotate_left
              · intro w' hSw
                (try dsimp only at hSw)
                go_simp
                first | done | with_reducible rfl
              try simp only [Act.put, List.setIfInBounds_toArray, List.set]
              refine PhaseIn.takeD (i := 9) (v := ?_) [9, 10, 11, 15, 16, 17, 18, 19, 20, 21, 22, 23, 24, 25] 64 rfl (by rfl) (by kernel_rfl) (by kernel_rfl) (by kernel_rfl) (by kernel_rfl) (by kernel_rfl) (fun _ _ _ h => h) (Or.inl ⟨by kernel_rfl, ?_⟩) hHeld ?_
              rotate_left
              · intro w' hSw
                (try dsimp only at hSw)
                go_simp
                first | done | with_reducible rfl
              try simp only [Act.put, List.setIfInBounds_toArray, List.set]
              refine PhaseIn.takeD (i := 10) (v := ?_) [10, 11, 15, 16, 17, 18, 19, 20, 21, 22, 23, 24, 25] 65 rfl (by rfl) (by kernel_rfl) (by kernel_rfl) (by kernel_rfl) (by kernel_rfl) (by kernel_rfl) (fun _ _ _ h => h) (Or.inl ⟨by kernel_rfl, ?_⟩) hHeld ?_
              rotate_left
              · intro w' hSw
                (try dsimp only at hSw)
                have z0 := (hSw.box (X3, .slice u3 pc.length k3, pc) (List.mem_cons_of_mem _ List.mem_cons_self)).1.cell 0 _ rfl
                go_simp
                first | done | with_reducible rfl
              try simp only [Act.put, List.setIfInBounds_toArray, List.set]
              refine PhaseIn.takeD (i := 11) (v := ?_) [11, 15, 16, 17, 18, 19, 20, 21, 22, 23, 24, 25] 66 rfl (by rfl) (by kernel_rfl) (by kernel_rfl) (by kernel_rfl) (by kernel_rfl) (by kernel_rfl) (fun _ _ _ h => h) (Or.inl ⟨by kernel_rfl, ?_⟩) hHeld ?_
              rotate_left
              · intro w' hSw
                (try dsimp only at hSw)
                go_simp
                first | done | with_reducible rfl
              try simp only [Act.put, List.setIfInBounds_toArray, List.set]
              refine PhaseIn.takeD (i := 12) (v := ?_) [12, 13, 14, 15, 16, 17, 18, 19, 20, 21, 22, 23, 24, 25] 67 rfl (by rfl) (by kernel_rfl) (by kernel_rfl) (by kernel_rfl) (by kernel_rfl) (by kernel_rfl) (fun _ _ _ h => h) (Or.inl ⟨by kernel_rfl, ?_⟩) hHeld ?_
              rotate_left
              · intro w' hSw
                (try dsimp only at hSw)
                go_simp
                first | done | with_reducible rfl
              try simp only [Act.put, List.setIfInBounds_toArray, List.set]
              refine PhaseIn.takeD (i := 13) (v := ?_) [13, 14, 15, 16, 17, 18, 19, 20, 21, 22, 23, 24, 25] 68 rfl (by rfl) (by kernel_rfl) (by kernel_rfl) (by kernel_rfl) (by kernel_rfl) (by kernel_rfl) (fun _ _ _ h => h) (Or.inl ⟨by kernel_rfl, ?_⟩) hHeld ?_
              rotate_left
              · intro w' hSw
                (try dsimp only at hSw)
                have z0 := (hSw.box (X4, .slice u4 pd.length k4, pd) List.mem_cons_self).1.cell 0 _ rfl
                go_simp
                first | done | with_reducible rfl
              try simp only [Act.put, List.setIfInBounds_toArray, List.set]
              refine PhaseIn.takeD (i := 14) (v := ?_) [14, 15, 16, 17, 18, 19, 20, 21, 22, 23, 24, 25] 69 rfl (by rfl) (by kernel_rfl) (by kernel_rfl) (by kernel_rfl) (by kernel_rfl) (by kernel_rfl) (fun _ _ _ h => h) (Or.inl ⟨by kernel_rfl, ?_⟩) hHeld ?_
              rotate_left
              · intro w' hSw
                (try dsimp only at hSw)
                go_simp
                first | done | with_reducible rfl
              try simp only [Act.put, List.setIfInBounds_toArray, List.set]
              refine PhaseIn.takeD (i := 15) (v := (.int .i64 ((pc.length : Int) * (pd.length : Int)))) [15, 16, 17, 18, 19, 20, 21, 22, 23, 24, 25] 70 rfl (by rfl) (by kernel_rfl) (by kernel_rfl) (by kernel_rfl) (by kernel_rfl) (by kernel_rfl) (fun _ _ _ h => h) (Or.inl ⟨by kernel_rfl, ?_⟩) hHeld ?_
              · intro w' hSw
                (try dsimp only at hSw)
                go_simp
                first | done | with_reducible rfl | (rw [kwm]; done) | (simp [kwm]; done)
              try simp only [Act.put, List.setIfInBounds_toArray, List.set]
              refine PhaseIn.takeD (i := 16) (v := (.bool false)) [16, 17, 18, 19, 20, 21, 22, 23, 24, 25] 71 rfl (by rfl) (by kernel_rfl) (by kernel_rfl) (by kernel_rfl) (by kernel_rfl) (by kernel_rfl) (fun _ _ _ h => h) (Or.inl ⟨by kernel_rfl, ?_⟩) hHeld ?_
              · intro w' hSw
                (try dsimp only at hSw)
                go_simp
                first | done | with_reducible rfl
              try simp only [Act.put, List.setIfInBounds_toArray, List.set]
              refine PhaseIn.takeD (i := 17) (v := ?_) [17, 18, 19, 20, 21, 22, 23, 24, 25] 72 rfl (by rfl) (by kernel_rfl) (by kernel_rfl) (by kernel_rfl) (by kernel_rfl) (by kernel_rfl) (fun _ _ _ h => h) (Or.inl ⟨by kernel_rfl, ?_⟩) hHeld ?_
              rotate_left
              · intro w' hSw
                (try dsimp only at hSw)
                go_simp
                first | done | with_reducible rfl
              try simp only [Act.put, List.setIfInBounds_toArray, List.set]
              refine PhaseIn.takeD (i := 18) (v := ?_) [18, 19, 20, 21, 22, 23, 24, 25] 73 rfl (by rfl) (by kernel_rfl) (by kernel_rfl) (by kernel_rfl) (by kernel_rfl) (by kernel_rfl) (fun _ _ _ h => h) (Or.inl ⟨by kernel_rfl, ?_⟩) hHeld ?_
              rotate_left
              · intro w' hSw
                (try dsimp only at hSw)
                go_simp
                first | done | with_reducible rfl
              try simp only [Act.put, List.setIfInBounds_toArray, List.set]
              refine PhaseIn.takeD (i := 19) (v := ?_) [19, 20, 22, 23, 24, 25] 74 rfl (by rfl) (by kernel_rfl) (by kernel_rfl) (by kernel_rfl) (by kernel_rfl) (by kernel_rfl) (fun _ _ _ h => h) (Or.inl ⟨by kernel_rfl, ?_⟩) hHeld ?_
              rotate_left
              · intro w' hSw
                (try dsimp only at hSw)
                have z0 := (hSw.box (X3, .slice u3 pc.length k3, pc) (List.mem_cons_of_mem _ List.mem_cons_self)).1.cell 0 _ rfl
                go_simp
                first | done | with_reducible rfl
              try simp only [Act.put, List.setIfInBounds_toArray, List.set]
              refine PhaseIn.takeD (i := 21) (v := ?_) [21, 22, 23, 24, 25] 76 rfl (by rfl) (by kernel_rfl) (by kernel_rfl) (by kernel_rfl) (by kernel_rfl) (by kernel_rfl) (fun _ _ _ h => h) (Or.inl ⟨by kernel_rfl, ?_⟩) hHeld ?_
              rotate_left
              · intro w' hSw
                (try dsimp only at hSw)
                have z0 := (hSw.box (X4, .slice u4 pd.length k4, pd) List.mem_cons_self).1.cell 0 _ rfl
                go_simp
                first | done | with_reducible rfl
              try simp only [Act.put, List.setIfInBounds_toArray, List.set]
              obtain ⟨D0, d0⟩ := (hHeld.box (X3, .slice u3 pc.length k3, pc) (List.mem_cons_of_mem _ List.mem_cons_self)).2
              refine PhaseIn.one (i := 20) (by kernel_rfl) rfl (by kernel_rfl) (fun K hK => ?_)
              unfold Oper.wpIn
              refine ⟨fun _ _ => trivial, ?_⟩
              go_simp
              refine ⟨rfl, (callsIn_wide.2 (La.laDeg pc D0 _ wv34 d0)).mono ?_⟩
              rintro e wv35 ⟨he, hb⟩
              rw [EDC.out] at he
              subst he
              clear d0
              replace hHeld := hHeld.below hb
              clear hb
              refine hK _ _ (fun _ => hHeld) ?_
              clear hK K
              try simp only [Act.put, List.setIfInBounds_toArray, List.set]
              obtain ⟨D1, d1⟩ := (hHeld.box (X4, .slice u4 pd.length k4, pd) List.mem_cons_self).2
              refine PhaseIn.one (i := 22) (by kernel_rfl) rfl (by kernel_rfl) (fun K hK => ?_)
              unfold Oper.wpIn
              refine ⟨fun _ _ => trivial, ?_⟩
              go_simp
              refine ⟨rfl, (callsIn_wide.2 (La.laDeg pd D1 _ wv35 d1)).mono ?_⟩
              rintro e wv36 ⟨he, hb⟩
              rw [EDD.out] at he
              subst he
              clear d1
              replace hHeld := hHeld.below hb
              clear hb
              refine hK _ _ (fun _ => hHeld) ?_
              clear hK K
              try simp only [Act.put, List.setIfInBounds_toArray, List.set]
              refine PhaseIn.takeD (i := 23) (v := (.int .i64 ((dc : Int) + (dd : Int)))) [23, 24, 25] 78 rfl (by rfl) (by kernel_rfl) (by kernel_rfl) (by kernel_rfl) (by kernel_rfl) (by kernel_rfl) (fun _ _ _ h => h) (Or.inl ⟨by kernel_rfl, ?_⟩) hHeld ?_
              · intro w' hSw
                (try dsimp only at hSw)
                go_simp
                first | done | with_reducible rfl | (rw [kws]; done) | (simp [kws]; done) | omega
              try simp only [Act.put, List.setIfInBounds_toArray, List.set]
              refine PhaseIn.takeD (i := 24) (v := ?_) [24, 25] 79 rfl (by rfl) (by kernel_rfl) (by kernel_rfl) (by kernel_rfl) (by kernel_rfl) (by kernel_rfl) (fun _ _ _ h => h) (Or.inl ⟨by kernel_rfl, ?_⟩) hHeld ?_
              rotate_left
              · intro w' hSw
                (try dsimp only at hSw)
                go_simp
                first | done | with_reducible rfl
              try simp only [Act.put, List.setIfInBounds_toArray, List.set]
              refine PhaseIn.takeD (i := 25) (v := ?_) [25] 80 rfl (by rfl) (by kernel_rfl) (by kernel_rfl) (by kernel_rfl) (by kernel_rfl) (by kernel_rfl) (fun _ _ _ h => h) (Or.inl ⟨by kernel_rfl, ?_⟩) hHeld ?_
              rotate_left
              · intro w' hSw
                (try dsimp only at hSw)
                go_simp
                first | done | with_reducible rfl
              try simp only [Act.put, List.setIfInBounds_toArray, List.set]
              refine PhaseIn.done (by kernel_rfl) ?_ _
              have S := hide hHeld
              clear hHeld
              go_wp2_with fail
              refine (La.laOk wv36).mono ?_
              rintro e wz ⟨rfl, rfl⟩
              have FIN := hide S.out.bw
              clear S
              go_wp2
              go_ret
              exact ⟨rfl, FIN.out⟩
            · have hx := trivial
              have HF := hide (mul_fit Ec.out Ed.out HP.out (by rw [EDC.out, EDD.out]; omega))
              refine (wpIn_wide (n := 0)).1 ?_
              have S2 := hide S.out.drew
              clear S
              refine PhaseIn.region (S := fun v => Pit w [(X4, .slice u4 pd.length k4, pd), (X3, .slice u3 pc.length k3, pc), (X2, .slice u2 pb.length k2, pb), (X1, .slice u1 pa.length k1, pa)] [] v) 26 (by kernel_rfl) ?_
              generalize wv23.drew = wv37 at *
              have hHeld := S2.out
              clear S2
              refine PhaseIn.takeD (i := 0) (v := ?_) [0, 1, 2, 3, 4, 5, 6, 7, 8, 9, 10, 11, 12, 13, 14, 15, 16, 17, 18, 19, 20, 21, 22, 23, 24, 25] 55 rfl (by rfl) (by kernel_rfl) (by kernel_rfl) (by kernel_rfl) (by kernel_rfl) (by kernel_rfl) (fun _ _ _ h => h) (Or.inl ⟨by kernel_rfl, ?_⟩) hHeld ?_
              rotate_left
              · intro w' hSw
                (try dsimp only at hSw)
                have z0 := (hSw.box (X3, .slice u3 pc.length k3, pc) (List.mem_cons_of_mem _ List.mem_cons_self)).1.cell 0 _ rfl
                go_simp
                first | done | with_reducible rfl
              try simp only [Act.put, List.setIfInBounds_toArray, List.set]
              obtain ⟨D0, d0⟩ := (hHeld.box (X3, .slice u3 pc.length k3, pc) (List.mem_cons_of_mem _ List.mem_cons_self)).2
              refine PhaseIn.one (i := 1) (by kernel_rfl) rfl (by kernel_rfl) (fun K hK => ?_)
              unfold Oper.wpIn
              refine ⟨fun _ _ => trivial, ?_⟩
              go_simp
              refine ⟨rfl, (callsIn_wide.2 (specOk pc D0 _ wv37 d0)).mono ?_⟩
              rintro e wv38 ⟨he, hb⟩
              rw [Ec.out] at he
              subst he
              clear d0
              replace hHeld := hHeld.below hb
              clear hb
              refine hK _ _ (fun _ => hHeld) ?_
              clear hK K
              try simp only [Act.put, List.setIfInBounds_toArray, List.set]
              refine PhaseIn.takeD (i := 2) (v := ?_) [2, 3, 4, 5, 6, 7, 8, 9, 10, 11, 12, 13, 14, 15, 16, 17, 18, 19, 20, 21, 22, 23, 24, 25] 57 rfl (by rfl) (by kernel_rfl) (by kernel_rfl) (by kernel_rfl) (by kernel_rfl) (by kernel_rfl) (fun _ _ _ h => h) (Or.inl ⟨by kernel_rfl, ?_⟩) hHeld ?_
              rotate_left
              · intro w' hSw
                (try dsimp only at hSw)
                go_simp
                first | done | with_reducible rfl
              try simp only [Act.put, List.setIfInBounds_toArray, List.set]
              refine PhaseIn.takeD (i := 3) (v := ?_) [3, 4, 5, 6, 7, 8, 9, 10, 11, 12, 13, 14, 15, 16, 17, 18, 19, 20, 21, 22, 23, 24, 25] 58 rfl (by rfl) (by kernel_rfl) (by kernel_rfl) (by kernel_rfl) (by kernel_rfl) (by kernel_rfl) (fun _ _ _ h => h) (Or.inl ⟨by kernel_rfl, ?_⟩) hHeld ?_
              rotate_left
              · intro w' hSw
                (try dsimp only at hSw)
                go_simp
                first | done | with_reducible rfl
              try simp only [Act.put, List.setIfInBounds_toArray, List.set]
              refine PhaseIn.takeD (i := 4) (v := ?_) [4, 5, 6, 7, 8, 9, 10, 11, 12, 13, 14, 15, 16, 17, 18, 19, 20, 21, 22, 23, 24, 25] 59 rfl (by rfl) (by kernel_rfl) (by kernel_rfl) (by kernel_rfl) (by kernel_rfl) (by kernel_rfl) (fun _ _ _ h => h) (Or.inl ⟨by kernel_rfl, ?_⟩) hHeld ?_
              rotate_left
              · intro w' hSw
                (try dsimp only at hSw)
                have z0 := (hSw.box (X4, .slice u4 pd.length k4, pd) List.mem_cons_self).1.cell 0 _ rfl
                go_simp
                first | done | with_reducible rfl
              try simp only [Act.put, List.setIfInBounds_toArray, List.set]
              obtain ⟨D0, d0⟩ := (hHeld.box (X4, .slice u4 pd.length k4, pd) List.mem_cons_self).2
              refine PhaseIn.one (i := 5) (by kernel_rfl) rfl (by kernel_rfl) (fun K hK => ?_)
              unfold Oper.wpIn
              refine ⟨fun _ _ => trivial, ?_⟩
              go_simp
              refine ⟨rfl, (callsIn_wide.2 (specOk pd D0 _ wv38 d0)).mono ?_⟩
              rintro e wv39 ⟨he, hb⟩
              rw [Ed.out] at he
              subst he
              clear d0
              replace hHeld := hHeld.below hb
              clear hb
              refine hK _ _ (fun _ => hHeld) ?_
              clear hK K
              try simp only [Act.put, List.setIfInBounds_toArray, List.set]
              refine PhaseIn.takeD (i := 6) (v := ?_) [6, 7, 8, 9, 10, 11, 12, 13, 14, 15, 16, 17, 18, 19, 20, 21, 22, 23, 24, 25] 61 rfl (by rfl) (by kernel_rfl) (by kernel_rfl) (by kernel_rfl) (by kernel_rfl) (by kernel_rfl) (fun _ _ _ h => h) (Or.inl ⟨by kernel_rfl, ?_⟩) hHeld ?_
              rotate_left
              · intro w' hSw
                (try dsimp only at hSw)
                go_simp
                first | done | with_reducible rfl
              try simp only [Act.put, List.setIfInBounds_toArray, List.set]
              refine PhaseIn.takeD (i := 7) (v := ?_) [7, 8, 9, 10, 11, 12, 13, 14, 15, 16, 17, 18, 19, 20, 21, 22, 23, 24, 25] 62 rfl (by rfl) (by kernel_rfl) (by kernel_rfl) (by kernel_rfl) (by kernel_rfl) (by kernel_rfl) (fun _ _ _ h => h) (Or.inl ⟨by kernel_rfl, ?_⟩) hHeld ?_
              rotate_left
              · intro w' hSw
                (try dsimp only at hSw)
                go_simp
                first | done | with_reducible rfl
              try simp only [Act.put, List.setIfInBounds_toArray, List.set]
              refine PhaseIn.takeD (i := 8) (v := ?_) [8, 9, 10, 11, 12, 13, 14, 15, 16, 17, 18, 19, 20, 21, 22, 23, 24, 25] 63 rfl (by rfl) (by kernel_rfl) (by kernel_rfl) (by kernel_rfl) (by kernel_rfl) (by kernel_rfl) (fun _ _ _ h => h) (Or.inl ⟨by kernel_rfl, ?_⟩) hHeld ?_
              rotate_left
              · intro w' hSw
                (try dsimp only at hSw)
                go_simp
                first | done | with_reducible rfl
              try simp only [Act.put, List.setIfInBounds_toArray, List.set]
              refine PhaseIn.takeD (i := 9) (v := ?_) [9, 10, 11, 15, 16, 17, 18, 19, 20, 21, 22, 23, 24, 25] 64 rfl (by rfl) (by kernel_rfl) (by kernel_rfl) (by kernel_rfl) (by kernel_rfl) (by kernel_rfl) (fun _ _ _ h => h) (Or.inl ⟨by kernel_rfl, ?_⟩) hHeld ?_
              rotate_left
              · intro w' hSw
                (try dsimp only at hSw)
                go_simp
                first | done | with_reducible rfl
              try simp only [Act.put, List.setIfInBounds_toArray, List.set]
              refine PhaseIn.takeD (i := 10) (v := ?_) [10, 11, 15, 16, 17, 18, 19, 20, 21, 22, 23, 24, 25] 65 rfl (by rfl) (by kernel_rfl) (by kernel_rfl) (by kernel_rfl) (by kernel_rfl) (by kernel_rfl) (fun _ _ _ h => h) (Or.inl ⟨by kernel_rfl, ?_⟩) hHeld ?_
              rotate_left
              · intro w' hSw
                (try dsimp only at hSw)
                have z0 := (hSw.box (X3, .slice u3 pc.length k3, pc) (List.mem_cons_of_mem _ List.mem_cons_self)).1.cell 0 _ rfl
                go_simp
                first | done | with_reducible rfl
              try simp only [Act.put, List.setIfInBounds_toArray, List.set]
              refine PhaseIn.takeD (i := 11) (v := ?_) [11, 15, 16, 17, 18, 19, 20, 21, 22, 23, 24, 25] 66 rfl (by rfl) (by kernel_rfl) (by kernel_rfl) (by kernel_rfl) (by kernel_rfl) (by kernel_rfl) (fun _ _ _ h => h) (Or.inl ⟨by kernel_rfl, ?_⟩) hHeld ?_
              rotate_left
              · intro w' hSw
                (try dsimp only at hSw)
                go_simp
                first | done | with_reducible rfl
              try simp only [Act.put, List.setIfInBounds_toArray, List.set]
              refine PhaseIn.takeD (i := 12) (v := ?_) [12, 13, 14, 15, 16, 17, 18, 19, 20, 21, 22, 23, 24, 25] 67 rfl (by rfl) (by kernel_rfl) (by kernel_rfl) (by kernel_rfl) (by kernel_rfl) (by kernel_rfl) (fun _ _ _ h => h) (Or.inl ⟨by kernel_rfl, ?_⟩) hHeld ?_
              rotate_left
              · intro w' hSw
                (try dsimp only at hSw)
                go_simp
                first | done | with_reducible rfl
              try simp only [Act.put, List.setIfInBounds_toArray, List.set]
              refine PhaseIn.takeD (i := 13) (v := ?_) [13, 14, 15, 16, 17, 18, 19, 20, 21, 22, 23, 24, 25] 68 rfl (by rfl) (by kernel_rfl) (by kernel_rfl) (by kernel_rfl) (by kernel_rfl) (by kernel_rfl) (fun _ _ _ h => h) (Or.inl ⟨by kernel_rfl, ?_⟩) hHeld ?_
              rotate_left
              · intro w' hSw
                (try dsimp only at hSw)
                have z0 := (hSw.box (X4, .slice u4 pd.length k4, pd) List.mem_cons_self).1.cell 0 _ rfl
                go_simp
                first | done | with_reducible rfl
              try simp only [Act.put, List.setIfInBounds_toArray, List.set]
              refine PhaseIn.takeD (i := 14) (v := ?_) [14, 15, 16, 17, 18, 19, 20, 21, 22, 23, 24, 25] 69 rfl (by rfl) (by kernel_rfl) (by kernel_rfl) (by kernel_rfl) (by kernel_rfl) (by kernel_rfl) (fun _ _ _ h => h) (Or.inl ⟨by kernel_rfl, ?_⟩) hHeld ?_
              rotate_left
              · intro w' hSw
                (try dsimp only at hSw)
                go_simp
                first | done | with_reducible rfl
              try simp only [Act.put, List.setIfInBounds_toArray, List.set]
              refine PhaseIn.takeD (i := 15) (v := (.int .i64 ((pc.length : Int) * (pd.length : Int)))) [15, 16, 17, 18, 19, 20, 21, 22, 23, 24, 25] 70 rfl (by rfl) (by kernel_rfl) (by kernel_rfl) (by kernel_rfl) (by kernel_rfl) (by kernel_rfl) (fun _ _ _ h => h) (Or.inl ⟨by kernel_rfl, ?_⟩) hHeld ?_
              · intro w' hSw
                (try dsimp only at hSw)
                go_simp
                first | done | with_reducible rfl | (rw [kwm]; done) | (simp [kwm]; done)
              try simp only [Act.put, List.setIfInBounds_toArray, List.set]
              refine PhaseIn.takeD (i := 16) (v := (.bool false)) [16, 17, 18, 19, 20, 21, 22, 23, 24, 25] 71 rfl (by rfl) (by kernel_rfl) (by kernel_rfl) (by kernel_rfl) (by kernel_rfl) (by kernel_rfl) (fun _ _ _ h => h) (Or.inl ⟨by kernel_rfl, ?_⟩) hHeld ?_
              · intro w' hSw
                (try dsimp only at hSw)
                go_simp
                first | done | with_reducible rfl
              try simp only [Act.put, List.setIfInBounds_toArray, List.set]
              refine PhaseIn.takeD (i := 17) (v := ?_) [17, 18, 19, 20, 21, 22, 23, 24, 25] 72 rfl (by rfl) (by kernel_rfl) (by kernel_rfl) (by kernel_rfl) (by kernel_rfl) (by kernel_rfl) (fun _ _ _ h => h) (Or.inl ⟨by kernel_rfl, ?_⟩) hHeld ?_
              rotate_left
              · intro w' hSw
                (try dsimp only at hSw)
                go_simp
                first | done | with_reducible rfl
              try simp only [Act.put, List.setIfInBounds_toArray, List.set]
              refine PhaseIn.takeD (i := 18) (v := ?_) [18, 19, 20, 21, 22, 23, 24, 25] 73 rfl (by rfl) (by kernel_rfl) (by kernel_rfl) (by kernel_rfl) (by kernel_rfl) (by kernel_rfl) (fun _ _ _ h => h) (Or.inl ⟨by kernel_rfl, ?_⟩) hHeld ?_
              rotate_left
              · intro w' hSw
                (try dsimp only at hSw)
                go_simp
                first | done | with_reducible rfl
              try simp only [Act.put, List.setIfInBounds_toArray, List.set]
              refine PhaseIn.takeD (i := 19) (v := ?_) [19, 20, 22, 23, 24, 25] 74 rfl (by rfl) (by kernel_rfl) (by kernel_rfl) (by kernel_rfl) (by kernel_rfl) (by kernel_rfl) (fun _ _ _ h => h) (Or.inl ⟨by kernel_rfl, ?_⟩) hHeld ?_
              rotate_left
              · intro w' hSw
                (try dsimp only at hSw)
                have z0 := (hSw.box (X3, .slice u3 pc.length k3, pc) (List.mem_cons_of_mem _ List.mem_cons_self)).1.cell 0 _ rfl
                go_simp
                first | done | with_reducible rfl
              try simp only [Act.put, List.setIfInBounds_toArray, List.set]
              refine PhaseIn.takeD (i := 21) (v := ?_) [21, 22, 23, 24, 25] 76 rfl (by rfl) (by kernel_rfl) (by kernel_rfl) (by kernel_rfl) (by kernel_rfl) (by kernel_rfl) (fun _ _ _ h => h) (Or.inl ⟨by kernel_rfl, ?_⟩) hHeld ?_
              rotate_left
              · intro w' hSw
                (try dsimp only at hSw)
                have z0 := (hSw.box (X4, .slice u4 pd.length k4, pd) List.mem_cons_self).1.cell 0 _ rfl
                go_simp
                first | done | with_reducible rfl
              try simp only [Act.put, List.setIfInBounds_toArray, List.set]
              obtain ⟨D0, d0⟩ := (hHeld.box (X3, .slice u3 pc.length k3, pc) (List.mem_cons_of_mem _ List.mem_cons_self)).2
              refine PhaseIn.one (i := 20) (by kernel_rfl) rfl (by kernel_rfl) (fun K hK => ?_)
              unfold Oper.wpIn
              refine ⟨fun _ _ => trivial, ?_⟩
              go_simp
              refine ⟨rfl, (callsIn_wide.2 (La.laDeg pc D0 _ wv39 d0)).mono ?_⟩
              rintro e wv40 ⟨he, hb⟩
              rw [EDC.out] at he
              subst he
              clear d0
              replace hHeld := hHeld.below hb
              clear hb
              refine hK _ _ (fun _ => hHeld) ?_
              clear hK K
              try simp only [Act.put, List.setIfInBounds_toArray, List.set]
              obtain ⟨D1, d1⟩ := (hHeld.box (X4, .slice u4 pd.length k4, pd) List.mem_cons_self).2
              refine PhaseIn.one (i := 22) (by kernel_rfl) rfl (by kernel_rfl) (fun K hK => ?_)
              unfold Oper.wpIn
              refine ⟨fun _ _ => trivial, ?_⟩
              go_simp
              refine ⟨rfl, (callsIn_wide.2 (La.laDeg pd D1 _ wv40 d1)).mono ?_⟩
              rintro e wv41 ⟨he, hb⟩
              rw [EDD.out] at he
              subst he
              clear d1
              replace hHeld := hHeld.below hb
              clear hb
              refine hK _ _ (fun _ => hHeld) ?_
              clear hK K
              try simp only [Act.put, List.setIfInBounds_toArray, List.set]
              refine PhaseIn.takeD (i := 23) (v := (.int .i64 ((dc : Int) + (dd : Int)))) [23, 24, 25] 78 rfl (by rfl) (by kernel_rfl) (by kernel_rfl) (by kernel_rfl) (by kernel_rfl) (by kernel_rfl) (fun _ _ _ h => h) (Or.inl ⟨by kernel_rfl, ?_⟩) hHeld ?_
              · intro w' hSw
                (try dsimp only at hSw)
                go_simp
                first | done | with_reducible rfl | (rw [kws]; done) | (simp [kws]; done) | omega
              try simp only [Act.put, List.setIfInBounds_toArray, List.set]
              refine PhaseIn.takeD (i := 24) (v := ?_) [24, 25] 79 rfl (by rfl) (by kernel_rfl) (by kernel_rfl) (by kernel_rfl) (by kernel_rfl) (by kernel_rfl) (fun _ _ _ h => h) (Or.inl ⟨by kernel_rfl, ?_⟩) hHeld ?_
              rotate_left
              · intro w' hSw
                (try dsimp only at hSw)
                go_simp
                first | done | with_reducible rfl
              try simp only [Act.put, List.setIfInBounds_toArray, List.set]
              refine PhaseIn.takeD (i := 25) (v := ?_) [25] 80 rfl (by rfl) (by kernel_rfl) (by kernel_rfl) (by kernel_rfl) (by kernel_rfl) (by kernel_rfl) (fun _ _ _ h => h) (Or.inl ⟨by kernel_rfl, ?_⟩) hHeld ?_
              rotate_left
              · intro w' hSw
                (try dsimp only at hSw)
                go_simp
                first | done | with_reducible rfl
              try simp only [Act.put, List.setIfInBounds_toArray, List.set]
              refine PhaseIn.done (by kernel_rfl) ?_ _
              have S := hide hHeld
              clear hHeld
              have zC := (S.out.box (X3, .slice u3 pc.length k3, pc) (List.mem_cons_of_mem _ List.mem_cons_self)).1.cell 0 _ rfl
              have zD := (S.out.box (X4, .slice u4 pd.length k4, pd) List.mem_cons_self).1.cell 0 _ rfl
              go_wp2_with fail
              clear zC zD
              obtain ⟨D0, d0⟩ := (S.out.box (X3, .slice u3 pc.length k3, pc) (List.mem_cons_of_mem _ List.mem_cons_self)).2
              obtain ⟨D1, d1⟩ := (S.out.box (X4, .slice u4 pd.length k4, pd) List.mem_cons_self).2
              refine (implMul pc pd   D0 D1  _ _ _ d0 d1 ).mono ?_
              rintro e wv42 ⟨y9, l9, j9, he, W3, hb⟩
              clear d0 d1 
              obtain rfl := Draw.wp_len W3
              rw [HF.out] at he
              obtain ⟨D9, r9⟩ := W3.read
              subst he
              clear W3
              have S2 := hide (S.out.below hb)
              clear S hb
              have S := S2
              clear S2
              have S2 := hide (Pit.add S.out r9)
              clear S r9
              have S := S2
              clear S2
              have FIN := hide S.out.bw
              clear S
              go_wp2
              go_ret
              exact ⟨rfl, FIN.out⟩
    | true =>
      have hA := ok_len Ea.out
      have hB := ok_len Eb.out
      by_cases hs : (pa.length : Int) + (pb.length : Int) ≤ 12
      · have HF := hide (add_fit Ea.out Eb.out (by omega))
        have zA := (S.out.box (X1, .slice u1 pa.length k1, pa) (List.mem_cons_of_mem _ (List.mem_cons_of_mem _ (List.mem_cons_of_mem _ List.mem_cons_self)))).1.cell 0 _ rfl
        have zB := (S.out.box (X2, .slice u2 pb.length k2, pb) (List.mem_cons_of_mem _ (List.mem_cons_of_mem _ List.mem_cons_self))).1.cell 0 _ rfl
        go_wp2_with fail
        clear zA zB
        obtain ⟨D0, d0⟩ := (S.out.box (X1, .slice u1 pa.length k1, pa) (List.mem_cons_of_mem _ (List.mem_cons_of_mem _ (List.mem_cons_of_mem _ List.mem_cons_self)))).2
        obtain ⟨D1, d1⟩ := (S.out.box (X2, .slice u2 pb.length k2, pb) (List.mem_cons_of_mem _ (List.mem_cons_of_mem _ List.mem_cons_self))).2
        refine (implAdd pa pb   D0 D1  _ _ _ d0 d1 ).mono ?_
        rintro e wv43 ⟨y8, l8, j8, he, W3, hb⟩
        clear d0 d1 
        obtain rfl := Draw.wp_len W3
        rw [HF.out] at he
        obtain ⟨D9, r9⟩ := W3.read
        subst he
        clear W3
        have S2 := hide (S.out.below hb)
        clear S hb
        have S := S2
        clear S2
        have S2 := hide (Pit.add S.out r9)
        clear S r9
        have S := S2
        clear S2
        go_wp2_with fail
        generalize hZ0 : wv43.heap.size = X5 at S ⊢
        clear hZ0
        generalize (wv43.alloc (.cells #[.slice y8 (addP pa pb).length j8] 25)) = wv44 at S ⊢
        cases okc with
        | false =>
          refine (wpIn_wide (n := 0)).1 ?_
          have S2 := hide S.out.drew
          clear S
          refine PhaseIn.region (S := fun v => Pit w [(X5, .slice y8 (addP pa pb).length j8, addP pa pb), (X4, .slice u4 pd.length k4, pd), (X3, .slice u3 pc.length k3, pc), (X2, .slice u2 pb.length k2, pb), (X1, .slice u1 pa.length k1, pa)] [] v) 26 (by kernel_rfl) ?_
          generalize wv44.drew = wv45 at *
          have hHeld := S2.out
          clear S2
          refine PhaseIn.takeD (i := 0) (v := ?_) [0, 1, 2, 3, 4, 5, 6, 7, 8, 9, 10, 11, 12, 13, 14, 15, 16, 17, 18, 19, 20, 21, 22, 23, 24, 25] 55 rfl (by rfl) (by kernel_rfl) (by kernel_rfl) (by kernel_rfl) (by kernel_rfl) (by kernel_rfl) (fun _ _ _ h => h) (Or.inl ⟨by kernel_rfl, ?_⟩) hHeld ?_
          rotate_left
          · intro w' hSw
            (try dsimp only at hSw)
            have z0 := (hSw.box (X3, .slice u3 pc.length k3, pc) (List.mem_cons_of_mem _ (List.mem_cons_of_mem _ List.mem_cons_self))).1.cell 0 _ rfl
            go_simp
            first | done | with_reducible rfl
          try simp only [Act.put, List.setIfInBounds_toArray, List.set]
          obtain ⟨D0, d0⟩ := (hHeld.box (X3, .slice u3 pc.length k3, pc) (List.mem_cons_of_mem _ (List.mem_cons_of_mem _ List.mem_cons_self))).2
          refine PhaseIn.one (i := 1) (by kernel_rfl) rfl (by kernel_rfl) (fun K hK => ?_)
          unfold Oper.wpIn
          refine ⟨fun _ _ => trivial, ?_⟩
          go_simp
          refine ⟨rfl, (callsIn_wide.2 (specOk pc D0 _ wv45 d0)).mono ?_⟩
          rintro e wv46 ⟨he, hb⟩
          rw [Ec.out] at he
          subst he
          clear d0
          replace hHeld := hHeld.below hb
          clear hb
          refine hK _ _ (fun _ => hHeld) ?_
          clear hK K
          try simp only [Act.put, List.setIfInBounds_toArray, List.set]
          refine PhaseIn.takeD (i := 2) (v := ?_) [2, 3, 4, 5, 6, 7, 8, 9, 10, 11, 12, 13, 14, 15, 16, 17, 18, 19, 20, 21, 22, 23, 24, 25] 57 rfl (by rfl) (by kernel_rfl) (by kernel_rfl) (by kernel_rfl) (by kernel_rfl) (by kernel_rfl) (fun _ _ _ h => h) (Or.inl ⟨by kernel_rfl, ?_⟩) hHeld ?_
          rotate_left
          · intro w' hSw
            (try dsimp only at hSw)
            go_simp
            first | done | with_reducible rfl
          try simp only [Act.put, List.setIfInBounds_toArray, List.set]
          refine PhaseIn.takeD (i := 3) (v := ?_) [3, 4, 5, 6, 7, 8, 9, 10, 11, 12, 13, 14, 15, 16, 17, 18, 19, 20, 21, 22, 23, 24, 25] 58 rfl (by rfl) (by kernel_rfl) (by kernel_rfl) (by kernel_rfl) (by kernel_rfl) (by kernel_rfl) (fun _ _ _ h => h) (Or.inl ⟨by kernel_rfl, ?_⟩) hHeld ?_
          rotate_left
          · intro w' hSw
            (try dsimp only at hSw)
            go_simp
            first | done | with_reducible rfl
          try simp only [Act.put, List.setIfInBounds_toArray, List.set]
          refine PhaseIn.takeD (i := 4) (v := undef) [4, 5, 6, 7, 8, 9, 10, 11, 12, 13, 14, 15, 16, 17, 18, 19, 20, 21, 22, 23, 24, 25] 59 rfl (by rfl) (by kernel_rfl) (by kernel_rfl) (by kernel_rfl) (by kernel_rfl) (by kernel_rfl) (fun _ _ _ h => h) (Or.inr ⟨by kernel_rfl, rfl⟩) hHeld ?_
          try simp only [Act.put, List.setIfInBounds_toArray, List.set]
          refine PhaseIn.takeD (i := 5) (v := undef) [5, 6, 7, 8, 9, 10, 11, 12, 13, 14, 15, 16, 17, 18, 19, 20, 21, 22, 23, 24, 25] 60 rfl (by rfl) (by kernel_rfl) (by kernel_rfl) (by kernel_rfl) (by kernel_rfl) (by kernel_rfl) (fun _ _ _ h => h) (Or.inr ⟨by kernel_rfl, rfl⟩) hHeld ?_
          try simp only [Act.put, List.setIfInBounds_toArray, List.set]
          refine PhaseIn.takeD (i := 6) (v := undef) [6, 7, 8, 9, 10, 11, 12, 13, 14, 15, 16, 17, 18, 19, 20, 21, 22, 23, 24, 25] 61 rfl (by rfl) (by kernel_rfl) (by kernel_rfl) (by kernel_rfl) (by kernel_rfl) (by kernel_rfl) (fun _ _ _ h => h) (Or.inr ⟨by kernel_rfl, rfl⟩) hHeld ?_
          try simp only [Act.put, List.setIfInBounds_toArray, List.set]
          refine PhaseIn.takeD (i := 7) (v := ?_) [7, 8, 9, 10, 11, 12, 13, 14, 15, 16, 17, 18, 19, 20, 21, 22, 23, 24, 25] 62 rfl (by rfl) (by kernel_rfl) (by kernel_rfl) (by kernel_rfl) (by kernel_rfl) (by kernel_rfl) (fun _ _ _ h => h) (Or.inl ⟨by kernel_rfl, ?_⟩) hHeld ?_
          rotate_left
          · intro w' hSw
            (try dsimp only at hSw)
            go_simp
            first | done | with_reducible rfl
          try simp only [Act.put, List.setIfInBounds_toArray, List.set]
          refine PhaseIn.takeD (i := 8) (v := ?_) [8, 9, 10, 11, 12, 13, 14, 15, 16, 17, 18, 19, 20, 21, 22, 23, 24, 25] 63 rfl (by rfl) (by kernel_rfl) (by kernel_rfl) (by kernel_rfl) (by kernel_rfl) (by kernel_rfl) (fun _ _ _ h => h) (Or.inl ⟨by kernel_rfl, ?_⟩) hHeld ?_
          rotate_left
          · intro w' hSw
            (try dsimp only at hSw)
            go_simp
            first | done | with_reducible rfl
          try simp only [Act.put, List.setIfInBounds_toArray, List.set]
          refine PhaseIn.takeD (i := 9) (v := undef) [9, 10, 11, 15, 16, 17, 18, 19, 20, 21, 22, 23, 24, 25] 64 rfl (by rfl) (by kernel_rfl) (by kernel_rfl) (by kernel_rfl) (by kernel_rfl) (by kernel_rfl) (fun _ _ _ h => h) (Or.inr ⟨by kernel_rfl, rfl⟩) hHeld ?_
          try simp only [Act.put, List.setIfInBounds_toArray, List.set]
          refine PhaseIn.takeD (i := 10) (v := undef) [10, 11, 15, 16, 17, 18, 19, 20, 21, 22, 23, 24, 25] 65 rfl (by rfl) (by kernel_rfl) (by kernel_rfl) (by kernel_rfl) (by kernel_rfl) (by kernel_rfl) (fun _ _ _ h => h) (Or.inr ⟨by kernel_rfl, rfl⟩) hHeld ?_
          try simp only [Act.put, List.setIfInBounds_toArray, List.set]
          refine PhaseIn.takeD (i := 11) (v := undef) [11, 15, 16, 17, 18, 19, 20, 21, 22, 23, 24, 25] 66 rfl (by rfl) (by kernel_rfl) (by kernel_rfl) (by kernel_rfl) (by kernel_rfl) (by kernel_rfl) (fun _ _ _ h => h) (Or.inr ⟨by kernel_rfl, rfl⟩) hHeld ?_
          try simp only [Act.put, List.setIfInBounds_toArray, List.set]
          refine PhaseIn.takeD (i := 12) (v := undef) [12, 13, 14, 15, 16, 17, 18, 19, 20, 21, 22, 23, 24, 25] 67 rfl (by rfl) (by kernel_rfl) (by kernel_rfl) (by kernel_rfl) (by kernel_rfl) (by kernel_rfl) (fun _ _ _ h => h) (Or.inr ⟨by kernel_rfl, rfl⟩) hHeld ?_
          try simp only [Act.put, List.setIfInBounds_toArray, List.set]
          refine PhaseIn.takeD (i := 13) (v := undef) [13, 14, 15, 16, 17, 18, 19, 20, 21, 22, 23, 24, 25] 68 rfl (by rfl) (by kernel_rfl) (by kernel_rfl) (by kernel_rfl) (by kernel_rfl) (by kernel_rfl) (fun _ _ _ h => h) (Or.inr ⟨by kernel_rfl, rfl⟩) hHeld ?_
          try simp only [Act.put, List.setIfInBounds_toArray, List.set]
          refine PhaseIn.takeD (i := 14) (v := undef) [14, 15, 16, 17, 18, 19, 20, 21, 22, 23, 24, 25] 69 rfl (by rfl) (by kernel_rfl) (by kernel_rfl) (by kernel_rfl) (by kernel_rfl) (by kernel_rfl) (fun _ _ _ h => h) (Or.inr ⟨by kernel_rfl, rfl⟩) hHeld ?_
          try simp only [Act.put, List.setIfInBounds_toArray, List.set]
          refine PhaseIn.takeD (i := 15) (v := undef) [15, 16, 17, 18, 19, 20, 21, 22, 23, 24, 25] 70 rfl (by rfl) (by kernel_rfl) (by kernel_rfl) (by kernel_rfl) (by kernel_rfl) (by kernel_rfl) (fun _ _ _ h => h) (Or.inr ⟨by kernel_rfl, rfl⟩) hHeld ?_
          try simp only [Act.put, List.setIfInBounds_toArray, List.set]
          refine PhaseIn.takeD (i := 16) (v := undef) [16, 17, 18, 19, 20, 21, 22, 23, 24, 25] 71 rfl (by rfl) (by kernel_rfl) (by kernel_rfl) (by kernel_rfl) (by kernel_rfl) (by kernel_rfl) (fun _ _ _ h => h) (Or.inr ⟨by kernel_rfl, rfl⟩) hHeld ?_
          try simp only [Act.put, List.setIfInBounds_toArray, List.set]
          refine PhaseIn.takeD (i := 17) (v := ?_) [17, 18, 19, 20, 21, 22, 23, 24, 25] 72 rfl (by rfl) (by kernel_rfl) (by kernel_rfl) (by kernel_rfl) (by kernel_rfl) (by kernel_rfl) (fun _ _ _ h => h) (Or.inl ⟨by kernel_rfl, ?_⟩) hHeld ?_
          rotate_left
          · intro w' hSw
            (try dsimp only at hSw)
            go_simp
            first | done | with_reducible rfl
          try simp only [Act.put, List.setIfInBounds_toArray, List.set]
          refine PhaseIn.takeD (i := 18) (v := ?_) [18, 19, 20, 21, 22, 23, 24, 25] 73 rfl (by rfl) (by kernel_rfl) (by kernel_rfl) (by kernel_rfl) (by kernel_rfl) (by kernel_rfl) (fun _ _ _ h => h) (Or.inl ⟨by kernel_rfl, ?_⟩) hHeld ?_
          rotate_left
          · intro w' hSw
            (try dsimp only at hSw)
            go_simp
            first | done | with_reducible rfl
          try simp only [Act.put, List.setIfInBounds_toArray, List.set]
          refine PhaseIn.takeD (i := 19) (v := undef) [19, 20, 22, 23, 24, 25] 74 rfl (by rfl) (by kernel_rfl) (by kernel_rfl) (by kernel_rfl) (by kernel_rfl) (by kernel_rfl) (fun _ _ _ h => h) (Or.inr ⟨by kernel_rfl, rfl⟩) hHeld ?_
          try simp only [Act.put, List.setIfInBounds_toArray, List.set]
          refine PhaseIn.takeD (i := 20) (v := undef) [20, 22, 23, 24, 25] 75 rfl (by rfl) (by kernel_rfl) (by kernel_rfl) (by kernel_rfl) (by kernel_rfl) (by kernel_rfl) (fun _ _ _ h => h) (Or.inr ⟨by kernel_rfl, rfl⟩) hHeld ?_
          try simp only [Act.put, List.setIfInBounds_toArray, List.set]
          refine PhaseIn.takeD (i := 21) (v := undef) [21, 22, 23, 24, 25] 76 rfl (by rfl) (by kernel_rfl) (by kernel_rfl) (by kernel_rfl) (by kernel_rfl) (by kernel_rfl) (fun _ _ _ h => h) (Or.inr ⟨by kernel_rfl, rfl⟩) hHeld ?_
          try simp only [Act.put, List.setIfInBounds_toArray, List.set]
          refine PhaseIn.takeD (i := 22) (v := undef) [22, 23, 24, 25] 77 rfl (by rfl) (by kernel_rfl) (by kernel_rfl) (by kernel_rfl) (by kernel_rfl) (by kernel_rfl) (fun _ _ _ h => h) (Or.inr ⟨by kernel_rfl, rfl⟩) hHeld ?_
          try simp only [Act.put, List.setIfInBounds_toArray, List.set]
          refine PhaseIn.takeD (i := 23) (v := undef) [23, 24, 25] 78 rfl (by rfl) (by kernel_rfl) (by kernel_rfl) (by kernel_rfl) (by kernel_rfl) (by kernel_rfl) (fun _ _ _ h => h) (Or.inr ⟨by kernel_rfl, rfl⟩) hHeld ?_
          try simp only [Act.put, List.setIfInBounds_toArray, List.set]
          refine PhaseIn.takeD (i := 24) (v := undef) [24, 25] 79 rfl (by rfl) (by kernel_rfl) (by kernel_rfl) (by kernel_rfl) (by kernel_rfl) (by kernel_rfl) (fun _ _ _ h => h) (Or.inr ⟨by kernel_rfl, rfl⟩) hHeld ?_
          try simp only [Act.put, List.setIfInBounds_toArray, List.set]
          refine PhaseIn.takeD (i := 25) (v := ?_) [25] 80 rfl (by rfl) (by kernel_rfl) (by kernel_rfl) (by kernel_rfl) (by kernel_rfl) (by kernel_rfl) (fun _ _ _ h => h) (Or.inl ⟨by kernel_rfl, ?_⟩) hHeld ?_
          rotate_left
          · intro w' hSw
            (try dsimp only at hSw)
            go_simp
            first | done | with_reducible rfl
          try simp only [Act.put, List.setIfInBounds_toArray, List.set]
          refine PhaseIn.done (by kernel_rfl) ?_ _
          have S := hide hHeld
          clear hHeld
          go_wp2_with fail
          refine (La.laOk wv46).mono ?_
          rintro e wz ⟨rfl, rfl⟩
          have FIN := hide S.out.bw
          clear S
          go_wp2
          go_ret
          exact ⟨rfl, FIN.out⟩
        | true =>
          cases okd with
          | false =>
            refine (wpIn_wide (n := 0)).1 ?_
            have S2 := hide S.out.drew
            clear S
            refine PhaseIn.region (S := fun v => Pit w [(X5, .slice y8 (addP pa pb).length j8, addP pa pb), (X4, .slice u4 pd.length k4, pd), (X3, .slice u3 pc.length k3, pc), (X2, .slice u2 pb.length k2, pb), (X1, .slice u1 pa.length k1, pa)] [] v) 26 (by kernel_rfl) ?_
            generalize wv44.drew = wv47 at *
            have hHeld := S2.out
            clear S2
            refine PhaseIn.takeD (i := 0) (v := ?_) [0, 1, 2, 3, 4, 5, 6, 7, 8, 9, 10, 11, 12, 13, 14, 15, 16, 17, 18, 19, 20, 21, 22, 23, 24, 25] 55 rfl (by rfl) (by kernel_rfl) (by kernel_rfl) (by kernel_rfl) (by kernel_rfl) (by kernel_rfl) (fun _ _ _ h => h) (Or.inl ⟨by kernel_rfl, ?_⟩) hHeld ?_
            rotate_left
            · intro w' hSw
              (try dsimp only at hSw)
              have z0 := (hSw.box (X3, .slice u3 pc.length k3, pc) (List.mem_cons_of_mem _ (List.mem_cons_of_mem _ List.mem_cons_self))).1.cell 0 _ rfl
              go_simp
              first | done | with_reducible rfl
            try simp only [Act.put, List.setIfInBounds_toArray, List.set]
            obtain ⟨D0, d0⟩ := (hHeld.box (X3, .slice u3 pc.length k3, pc) (List.mem_cons_of_mem _ (List.mem_cons_of_mem _ List.mem_cons_self))).2
            refine PhaseIn.one (i := 1) (by kernel_rfl) rfl (by kernel_rfl) (fun K hK => ?_)
            unfold Oper.wpIn
            refine ⟨fun _ _ => trivial, ?_⟩
            go_simp
            refine ⟨rfl, (callsIn_wide.2 (specOk pc D0 _ wv47 d0)).mono ?_⟩
            rintro e wv48 ⟨he, hb⟩
            rw [Ec.out] at he
            subst he
            clear d0
            replace hHeld := hHeld.below hb
            clear hb
            refine hK _ _ (fun _ => hHeld) ?_
            clear hK K
            try simp only [Act.put, List.setIfInBounds_toArray, List.set]
            refine PhaseIn.takeD (i := 2) (v := ?_) [2, 3, 4, 5, 6, 7, 8, 9, 10, 11, 12, 13, 14, 15, 16, 17, 18, 19, 20, 21, 22, 23, 24, 25] 57 rfl (by rfl) (by kernel_rfl) (by kernel_rfl) (by kernel_rfl) (by kernel_rfl) (by kernel_rfl) (fun _ _ _ h => h) (Or.inl ⟨by kernel_rfl, ?_⟩) hHeld ?_
            rotate_left
            · intro w' hSw
              (try dsimp only at hSw)
              go_simp
              first | done | with_reducible rfl
            try simp only [Act.put, List.setIfInBounds_toArray, List.set]
            refine PhaseIn.takeD (i := 3) (v := ?_) [3, 4, 5, 6, 7, 8, 9, 10, 11, 12, 13, 14, 15, 16, 17, 18, 19, 20, 21, 22, 23, 24, 25] 58 rfl (by rfl) (by kernel_rfl) (by kernel_rfl) (by kernel_rfl) (by kernel_rfl) (by kernel_rfl) (fun _ _ _ h => h) (Or.inl ⟨by kernel_rfl, ?_⟩) hHeld ?_
            rotate_left
            · intro w' hSw
              (try dsimp only at hSw)
              go_simp
              first | done | with_reducible rfl
            try simp only [Act.put, List.setIfInBounds_toArray, List.set]
            refine PhaseIn.takeD (i := 4) (v := ?_) [4, 5, 6, 7, 8, 9, 10, 11, 12, 13, 14, 15, 16, 17, 18, 19, 20, 21, 22, 23, 24, 25] 59 rfl (by rfl) (by kernel_rfl) (by kernel_rfl) (by kernel_rfl) (by kernel_rfl) (by kernel_rfl) (fun _ _ _ h => h) (Or.inl ⟨by kernel_rfl, ?_⟩) hHeld ?_
            rotate_left
            · intro w' hSw
              (try dsimp only at hSw)
              have z0 := (hSw.box (X4, .slice u4 pd.length k4, pd) (List.mem_cons_of_mem _ List.mem_cons_self)).1.cell 0 _ rfl
              go_simp
              first | done | with_reducible rfl
            try simp only [Act.put, List.setIfInBounds_toArray, List.set]
            obtain ⟨D0, d0⟩ := (hHeld.box (X4, .slice u4 pd.length k4, pd) (List.mem_cons_of_mem _ List.mem_cons_self)).2
            refine PhaseIn.one (i := 5) (by kernel_rfl) rfl (by kernel_rfl) (fun K hK => ?_)
            unfold Oper.wpIn
            refine ⟨fun _ _ => trivial, ?_⟩
            go_simp
            refine ⟨rfl, (callsIn_wide.2 (specOk pd D0 _ wv48 d0)).mono ?_⟩
            rintro e wv49 ⟨he, hb⟩
            rw [Ed.out] at he
            subst he
            clear d0
            replace hHeld := hHeld.below hb
            clear hb
            refine hK _ _ (fun _ => hHeld) ?_
            clear hK K
            try simp only [Act.put, List.setIfInBounds_toArray, List.set]
            refine PhaseIn.takeD (i := 6) (v := ?_) [6, 7, 8, 9, 10, 11, 12, 13, 14, 15, 16, 17, 18, 19, 20, 21, 22, 23, 24, 25] 61 rfl (by rfl) (by kernel_rfl) (by kernel_rfl) (by kernel_rfl) (by kernel_rfl) (by kernel_rfl) (fun _ _ _ h => h) (Or.inl ⟨by kernel_rfl, ?_⟩) hHeld ?_
            rotate_left
            · intro w' hSw
              (try dsimp only at hSw)
              go_simp
              first | done | with_reducible rfl
            try simp only [Act.put, List.setIfInBounds_toArray, List.set]
            refine PhaseIn.takeD (i := 7) (v := ?_) [7, 8, 9, 10, 11, 12, 13, 14, 15, 16, 17, 18, 19, 20, 21, 22, 23, 24, 25] 62 rfl (by rfl) (by kernel_rfl) (by kernel_rfl) (by kernel_rfl) (by kernel_rfl) (by kernel_rfl) (fun _ _ _ h => h) (Or.inl ⟨by kernel_rfl, ?_⟩) hHeld ?_
            rotate_left
            · intro w' hSw
              (try dsimp only at hSw)
              go_simp
              first | done | with_reducible rfl
            try simp only [Act.put, List.setIfInBounds_toArray, List.set]
            refine PhaseIn.takeD (i := 8) (v := ?_) [8, 9, 10, 11, 12, 13, 14, 15, 16, 17, 18, 19, 20, 21, 22, 23, 24, 25] 63 rfl (by rfl) (by kernel_rfl) (by kernel_rfl) (by kernel_rfl) (by kernel_rfl) (by kernel_rfl) (fun _ _ _ h => h) (Or.inl ⟨by kernel_rfl, ?_⟩) hHeld ?_
            rotate_left
            · intro w' hSw
              (try dsimp only at hSw)
              go_simp
              first | done | with_reducible rfl
            try simp only [Act.put, List.setIfInBounds_toArray, List.set]
            refine PhaseIn.takeD (i := 9) (v := undef) [9, 10, 11, 15, 16, 17, 18, 19, 20, 21, 22, 23, 24, 25] 64 rfl (by rfl) (by kernel_rfl) (by kernel_rfl) (by kernel_rfl) (by kernel_rfl) (by kernel_rfl) (fun _ _ _ h => h) (Or.inr ⟨by kernel_rfl, rfl⟩) hHeld ?_
            try simp only [Act.put, List.setIfInBounds_toArray, List.set]
            refine PhaseIn.takeD (i := 10) (v := undef) [10, 11, 15, 16, 17, 18, 19, 20, 21, 22, 23, 24, 25] 65 rfl (by rfl) (by kernel_rfl) (by kernel_rfl) (by kernel_rfl) (by kernel_rfl) (by kernel_rfl) (fun _ _ _ h => h) (Or.inr ⟨by kernel_rfl, rfl⟩) hHeld ?_
            try simp only [Act.put, List.setIfInBounds_toArray, List.set]
            refine PhaseIn.takeD (i := 11) (v := undef) [11, 15, 16, 17, 18, 19, 20, 21, 22, 23, 24, 25] 66 rfl (by rfl) (by kernel_rfl) (by kernel_rfl) (by kernel_rfl) (by kernel_rfl) (by kernel_rfl) (fun _ _ _ h => h) (Or.inr ⟨by kernel_rfl, rfl⟩) hHeld ?_
            try simp only [Act.put, List.setIfInBounds_toArray, List.set]
            refine PhaseIn.takeD (i := 12) (v := undef) [12, 13, 14, 15, 16, 17, 18, 19, 20, 21, 22, 23, 24, 25] 67 rfl (by rfl) (by kernel_rfl) (by kernel_rfl) (by kernel_rfl) (by kernel_rfl) (by kernel_rfl) (fun _ _ _ h => h) (Or.inr ⟨by kernel_rfl, rfl⟩) hHeld ?_
            try simp only [Act.put, List.setIfInBounds_toArray, List.set]
            refine PhaseIn.takeD (i := 13) (v := undef) [13, 14, 15, 16, 17, 18, 19, 20, 21, 22, 23, 24, 25] 68 rfl (by rfl) (by kernel_rfl) (by kernel_rfl) (by kernel_rfl) (by kernel_rfl) (by kernel_rfl) (fun _ _ _ h => h) (Or.inr ⟨by kernel_rfl, rfl⟩) hHeld ?_
            try simp only [Act.put, List.setIfInBounds_toArray, List.set]
            refine PhaseIn.takeD (i := 14) (v := undef) [14, 15, 16, 17, 18, 19, 20, 21, 22, 23, 24, 25] 69 rfl (by rfl) (by kernel_rfl) (by kernel_rfl) (by kernel_rfl) (by kernel_rfl) (by kernel_rfl) (fun _ _ _ h => h) (Or.inr ⟨by kernel_rfl, rfl⟩) hHeld ?_
            try simp only [Act.put, List.setIfInBounds_toArray, List.set]
            refine PhaseIn.takeD (i := 15) (v := undef) [15, 16, 17, 18, 19, 20, 21, 22, 23, 24, 25] 70 rfl (by rfl) (by kernel_rfl) (by kernel_rfl) (by kernel_rfl) (by kernel_rfl) (by kernel_rfl) (fun _ _ _ h => h) (Or.inr ⟨by kernel_rfl, rfl⟩) hHeld ?_
            try simp only [Act.put, List.setIfInBounds_toArray, List.set]
            refine PhaseIn.takeD (i := 16) (v := undef) [16, 17, 18, 19, 20, 21, 22, 23, 24, 25] 71 rfl (by rfl) (by kernel_rfl) (by kernel_rfl) (by kernel_rfl) (by kernel_rfl) (by kernel_rfl) (fun _ _ _ h => h) (Or.inr ⟨by kernel_rfl, rfl⟩) hHeld ?_
            try simp only [Act.put, List.setIfInBounds_toArray, List.set]
            refine PhaseIn.takeD (i := 17) (v := ?_) [17, 18, 19, 20, 21, 22, 23, 24, 25] 72 rfl (by rfl) (by kernel_rfl) (by kernel_rfl) (by kernel_rfl) (by kernel_rfl) (by kernel_rfl) (fun _ _ _ h => h) (Or.inl ⟨by kernel_rfl, ?_⟩) hHeld ?_
            rotate_left
            · intro w' hSw
              (try dsimp only at hSw)
              go_simp
              first | done | with_reducible rfl
            try simp only [Act.put, List.setIfInBounds_toArray, List.set]
            refine PhaseIn.takeD (i := 18) (v := ?_) [18, 19, 20, 21, 22, 23, 24, 25] 73 rfl (by rfl) (by kernel_rfl) (by kernel_rfl) (by kernel_rfl) (by kernel_rfl) (by kernel_rfl) (fun _ _ _ h => h) (Or.inl ⟨by kernel_rfl, ?_⟩) hHeld ?_
            rotate_left
            · intro w' hSw
              (try dsimp only at hSw)
              go_simp
              first | done | with_reducible rfl
            try simp only [Act.put, List.setIfInBounds_toArray, List.set]
            refine PhaseIn.takeD (i := 19) (v := undef) [19, 20, 22, 23, 24, 25] 74 rfl (by rfl) (by kernel_rfl) (by kernel_rfl) (by kernel_rfl) (by kernel_rfl) (by kernel_rfl) (fun _ _ _ h => h) (Or.inr ⟨by kernel_rfl, rfl⟩) hHeld ?_
            try simp only [Act.put, List.setIfInBounds_toArray, List.set]
            refine PhaseIn.takeD (i := 20) (v := undef) [20, 22, 23, 24, 25] 75 rfl (by rfl) (by kernel_rfl) (by kernel_rfl) (by kernel_rfl) (by kernel_rfl) (by kernel_rfl) (fun _ _ _ h => h) (Or.inr ⟨by kernel_rfl, rfl⟩) hHeld ?_
            try simp only [Act.put, List.setIfInBounds_toArray, List.set]
            refine PhaseIn.takeD (i := 21) (v := undef) [21, 22, 23, 24, 25] 76 rfl (by rfl) (by kernel_rfl) (by kernel_rfl) (by kernel_rfl) (by kernel_rfl) (by kernel_rfl) (fun _ _ _ h => h) (Or.inr ⟨by kernel_rfl, rfl⟩) hHeld ?_
            try simp only [Act.put, List.setIfInBounds_toArray, List.set]
            refine PhaseIn.takeD (i := 22) (v := undef) [22, 23, 24, 25] 77 rfl (by rfl) (by kernel_rfl) (by kernel_rfl) (by kernel_rfl) (by kernel_rfl) (by kernel_rfl) (fun _ _ _ h => h) (Or.inr ⟨by kernel_rfl, rfl⟩) hHeld ?_
            try simp only [Act.put, List.setIfInBounds_toArray, List.set]
            refine PhaseIn.takeD (i := 23) (v := undef) [23, 24, 25] 78 rfl (by rfl) (by kernel_rfl) (by kernel_rfl) (by kernel_rfl) (by kernel_rfl) (by kernel_rfl) (fun _ _ _ h => h) (Or.inr ⟨by kernel_rfl, rfl⟩) hHeld ?_
            try simp only [Act.put, List.setIfInBounds_toArray, List.set]
            refine PhaseIn.takeD (i := 24) (v := undef) [24, 25] 79 rfl (by rfl) (by kernel_rfl) (by kernel_rfl) (by kernel_rfl) (by kernel_rfl) (by kernel_rfl) (fun _ _ _ h => h) (Or.inr ⟨by kernel_rfl, rfl⟩) hHeld ?_
            try simp only [Act.put, List.setIfInBounds_toArray, List.set]
            refine PhaseIn.takeD (i := 25) (v := ?_) [25] 80 rfl (by rfl) (by kernel_rfl) (by kernel_rfl) (by kernel_rfl) (by kernel_rfl) (by kernel_rfl) (fun _ _ _ h => h) (Or.inl ⟨by kernel_rfl, ?_⟩) hHeld ?_
            rotate_left
            · intro w' hSw
              (try dsimp only at hSw)
              go_simp
              first | done | with_reducible rfl
            try simp only [Act.put, List.setIfInBounds_toArray, List.set]
            refine PhaseIn.done (by kernel_rfl) ?_ _
            have S := hide hHeld
            clear hHeld
            go_wp2_with fail
            refine (La.laOk wv49).mono ?_
            rintro e wz ⟨rfl, rfl⟩
            have FIN := hide S.out.bw
            clear S
            go_wp2
            go_ret
            exact ⟨rfl, FIN.out⟩
          | true =>
            have hC := ok_len Ec.out
            have hD := ok_len Ed.out
            obtain ⟨m0, m1⟩ := prod_bd hC hD
            have kwm : IntKind.i64.wrap ((pc.length : Int) * (pd.length : Int)) = (pc.length : Int) * (pd.length : Int) := IntWalk.i64_in _ ⟨by omega, by omega⟩
            have q3 := deg_ok Ec.out
            have q4 := deg_ok Ed.out
            by_cases hp : (12 : Int) < (pc.length : Int) * (pd.length : Int)
            · have hpb : decide ((12 : Int) < (pc.length : Int) * (pd.length : Int)) = true := decide_eq_true hp
              refine (wpIn_wide (n := 0)).1 ?_
              have S2 := hide S.out.drew
              clear S
              refine PhaseIn.region (S := fun v => Pit w [(X5, .slice y8 (addP pa pb).length j8, addP pa pb), (X4, .slice u4 pd.length k4, pd), (X3, .slice u3 pc.length k3, pc), (X2, .slice u2 pb.length k2, pb), (X1, .slice u1 pa.length k1, pa)] [] v) 26 (by kernel_rfl) ?_
              generalize wv44.drew = wv50 at *
              have hHeld := S2.out
              clear S2
              refine PhaseIn.takeD (i := 0) (v := ?_) [0, 1, 2, 3, 4, 5, 6, 7, 8, 9, 10, 11, 12, 13, 14, 15, 16, 17, 18, 19, 20, 21, 22, 23, 24, 25] 55 rfl (by rfl) (by kernel_rfl) (by kernel_rfl) (by kernel_rfl) (by kernel_rfl) (by kernel_rfl) (fun _ _ _ h => h) (Or.inl ⟨by kernel_rfl, ?_⟩) hHeld ?_
              rotate_left
              · intro w' hSw
                (try dsimp only at hSw)
                have z0 := (hSw.box (X3, .slice u3 pc.length k3, pc) (List.mem_cons_of_mem _ (List.mem_cons_of_mem _ List.mem_cons_self))).1.cell 0 _ rfl
                go_simp
                first | done | with_reducible rfl
              try simp only [Act.put, List.setIfInBounds_toArray, List.set]
              obtain ⟨D0, d0⟩ := (hHeld.box (X3, .slice u3 pc.length k3, pc) (List.mem_cons_of_mem _ (List.mem_cons_of_mem _ List.mem_cons_self))).2
              refine PhaseIn.one (i := 1) (by kernel_rfl) rfl (by kernel_rfl) (fun K hK => ?_)
              unfold Oper.wpIn
              refine ⟨fun _ _ => trivial, ?_⟩
              go_simp
              refine ⟨rfl, (callsIn_wide.2 (specOk pc D0 _ wv50 d0)).mono ?_⟩
              rintro e wv51 ⟨he, hb⟩
              rw [Ec.out] at he
              subst he
              clear d0
              replace hHeld := hHeld.below hb
              clear hb
              refine hK _ _ (fun _ => hHeld) ?_
              clear hK K
              try simp only [Act.put, List.setIfInBounds_toArray, List.set]
              refine PhaseIn.takeD (i := 2) (v := ?_) [2, 3, 4, 5, 6, 7, 8, 9, 10, 11, 12, 13, 14, 15, 16, 17, 18, 19, 20, 21, 22, 23, 24, 25] 57 rfl (by rfl) (by kernel_rfl) (by kernel_rfl) (by kernel_rfl) (by kernel_rfl) (by kernel_rfl) (fun _ _ _ h => h) (Or.inl ⟨by kernel_rfl, ?_⟩) hHeld ?_
              rotate_left
              · intro w' hSw
                (try dsimp only at hSw)
                go_simp
                first | done | with_reducible rfl
              try simp only [Act.put, List.setIfInBounds_toArray, List.set]
              refine PhaseIn.takeD (i := 3) (v := ?_) [3, 4, 5, 6, 7, 8, 9, 10, 11, 12, 13, 14, 15, 16, 17, 18, 19, 20, 21, 22, 23, 24, 25] 58 rfl (by rfl) (by kernel_rfl) (by kernel_rfl) (by kernel_rfl) (by kernel_rfl) (by kernel_rfl) (fun _ _ _ h => h) (Or.inl ⟨by kernel_rfl, ?_⟩) hHeld ?_
              rotate_left
              · intro w' hSw
                (try dsimp only at hSw)
                go_simp
                first | done | with_reducible rfl
              try simp only [Act.put, List.setIfInBounds_toArray, List.set]
              refine PhaseIn.takeD (i := 4) (v := ?_) [4, 5, 6, 7, 8, 9, 10, 11, 12, 13, 14, 15, 16, 17, 18, 19, 20, 21, 22, 23, 24, 25] 59 rfl (by rfl) (by kernel_rfl) (by kernel_rfl) (by kernel_rfl) (by kernel_rfl) (by kernel_rfl) (fun _ _ _ h => h) (Or.inl ⟨by kernel_rfl, ?_⟩) hHeld ?_
              rotate_left
              · intro w' hSw
                (try dsimp only at hSw)
                have z0 := (hSw.box (X4, .slice u4 pd.length k4, pd) (List.mem_cons_of_mem _ List.mem_cons_self)).1.cell 0 _ rfl
                go_simp
                first | done | with_reducible rfl
              try simp only [Act.put, List.setIfInBounds_toArray, List.set]
              obtain ⟨D0, d0⟩ := (hHeld.box (X4, .slice u4 pd.length k4, pd) (List.mem_cons_of_mem _ List.mem_cons_self)).2
              refine PhaseIn.one (i := 5) (by kernel_rfl) rfl (by kernel_rfl) (fun K hK => ?_)
              unfold Oper.wpIn
              refine ⟨fun _ _ => trivial, ?_⟩
              go_simp
              refine ⟨rfl, (callsIn_wide.2 (specOk pd D0 _ wv51 d0)).mono ?_⟩
              rintro e wv52 ⟨he, hb⟩
              rw [Ed.out] at he
              subst he
              clear d0
              replace hHeld := hHeld.below hb
              clear hb
              refine hK _ _ (fun _ => hHeld) ?_
              clear hK K
              try simp only [Act.put, List.setIfInBounds_toArray, List.set]
              refine PhaseIn.takeD (i := 6) (v := ?_) [6, 7, 8, 9, 10, 11, 12, 13, 14, 15, 16, 17, 18, 19, 20, 21, 22, 23, 24, 25] 61 rfl (by rfl) (by kernel_rfl) (by kernel_rfl) (by kernel_rfl) (by kernel_rfl) (by kernel_rfl) (fun _ _ _ h => h) (Or.inl ⟨by kernel_rfl, ?_⟩) hHeld ?_
              rotate_left
              · intro w' hSw
                (try dsimp only at hSw)
                go_simp
                first | done | with_reducible rfl
              try simp only [Act.put, List.setIfInBounds_toArray, List.set]
              refine PhaseIn.takeD (i := 7) (v := ?_) [7, 8, 9, 10, 11, 12, 13, 14, 15, 16, 17, 18, 19, 20, 21, 22, 23, 24, 25] 62 rfl (by rfl) (by kernel_rfl) (by kernel_rfl) (by kernel_rfl) (by kernel_rfl) (by kernel_rfl) (fun _ _ _ h => h) (Or.inl ⟨by kernel_rfl, ?_⟩) hHeld ?_
              rotate_left
              · intro w' hSw
                (try dsimp only at hSw)
                go_simp
                first | done | with_reducible rfl
              try simp only [Act.put, List.setIfInBounds_toArray, List.set]
              refine PhaseIn.takeD (i := 8) (v := ?_) [8, 9, 10, 11, 12, 13, 14, 15, 16, 17, 18, 19, 20, 21, 22, 23, 24, 25] 63 rfl (by rfl) (by kernel_rfl) (by kernel_rfl) (by kernel_rfl) (by kernel_rfl) (by kernel_rfl) (fun _ _ _ h => h) (Or.inl ⟨by kernel_rfl, ?_⟩) hHeld ?_
              rotate_left
              · intro w' hSw
                (try dsimp only at hSw)
                go_simp
                first | done | with_reducible rfl
              try simp only [Act.put, List.setIfInBounds_toArray, List.set]
              refine PhaseIn.takeD (i := 9) (v := ?_) [9, 10, 11, 15, 16, 17, 18, 19, 20, 21, 22, 23, 24, 25] 64 rfl (by rfl) (by kernel_rfl) (by kernel_rfl) (by kernel_rfl) (by kernel_rfl) (by kernel_rfl) (fun _ _ _ h => h) (Or.inl ⟨by kernel_rfl, ?_⟩) hHeld ?_
              rotate_left
              · intro w' hSw
                (try dsimp only at hSw)
                go_simp
                first | done | with_reducible rfl
              try simp only [Act.put, List.setIfInBounds_toArray, List.set]
              refine PhaseIn.takeD (i := 10) (v := ?_) [10, 11, 15, 16, 17, 18, 19, 20, 21, 22, 23, 24, 25] 65 rfl (by rfl) (by kernel_rfl) (by kernel_rfl) (by kernel_rfl) (by kernel_rfl) (by kernel_rfl) (fun _ _ _ h => h) (Or.inl ⟨by kernel_rfl, ?_⟩) hHeld ?_
              rotate_left
              · intro w' hSw
                (try dsimp only at hSw)
                have z0 := (hSw.box (X3, .slice u3 pc.length k3, pc) (List.mem_cons_of_mem _ (List.mem_cons_of_mem _ List.mem_cons_self))).1.cell 0 _ rfl
                go_simp
                first | done | with_reducible rfl
              try simp only [Act.put, List.setIfInBounds_toArray, List.set]
              refine PhaseIn.takeD (i := 11) (v := ?_) [11, 15, 16, 17, 18, 19, 20, 21, 22, 23, 24, 25] 66 rfl (by rfl) (by kernel_rfl) (by kernel_rfl) (by kernel_rfl) (by kernel_rfl) (by kernel_rfl) (fun _ _ _ h => h) (Or.inl ⟨by kernel_rfl, ?_⟩) hHeld ?_
              rotate_left
              · intro w' hSw
                (try dsimp only at hSw)
                go_simp
                first | done | with_reducible rfl
              try simp only [Act.put, List.setIfInBounds_toArray, List.set]
              refine PhaseIn.takeD (i := 12) (v := ?_) [12, 13, 14, 15, 16, 17, 18, 19, 20, 21, 22, 23, 24, 25] 67 rfl (by rfl) (by kernel_rfl) (by kernel_rfl) (by kernel_rfl) (by kernel_rfl) (by kernel_rfl) (fun _ _ _ h => h) (Or.inl ⟨by kernel_rfl, ?_⟩) hHeld ?_
              rotate_left
              · intro w' hSw
                (try dsimp only at hSw)
                go_simp
                first | done | with_reducible rfl
              try simp only [Act.put, List.setIfInBounds_toArray, List.set]
              refine PhaseIn.takeD (i := 13) (v := ?_) [13, 14, 15, 16, 17, 18, 19, 20, 21, 22, 23, 24, 25] 68 rfl (by rfl) (by kernel_rfl) (by kernel_rfl) (by kernel_rfl) (by kernel_rfl) (by kernel_rfl) (fun _ _ _ h => h) (Or.inl ⟨by kernel_rfl, ?_⟩) hHeld ?_
              rotate_left
              · intro w' hSw
                (try dsimp only at hSw)
                have z0 := (hSw.box (X4, .slice u4 pd.length k4, pd) (List.mem_cons_of_mem _ List.mem_cons_self)).1.cell 0 _ rfl
                go_simp
                first | done | with_reducible rfl
              try simp only [Act.put, List.setIfInBounds_toArray, List.set]
              refine PhaseIn.takeD (i := 14) (v := ?_) [14, 15, 16, 17, 18, 19, 20, 21, 22, 23, 24, 25] 69 rfl (by rfl) (by kernel_rfl) (by kernel_rfl) (by kernel_rfl) (by kernel_rfl) (by kernel_rfl) (fun _ _ _ h => h) (Or.inl ⟨by kernel_rfl, ?_⟩) hHeld ?_
              rotate_left
              · intro w' hSw
                (try dsimp only at hSw)
                go_simp
                first | done | with_reducible rfl
              try simp only [Act.put, List.setIfInBounds_toArray, List.set]
              refine PhaseIn.takeD (i := 15) (v := (.int .i64 ((pc.length : Int) * (pd.length : Int)))) [15, 16, 17, 18, 19, 20, 21, 22, 23, 24, 25] 70 rfl (by rfl) (by kernel_rfl) (by kernel_rfl) (by kernel_rfl) (by kernel_rfl) (by kernel_rfl) (fun _ _ _ h => h) (Or.inl ⟨by kernel_rfl, ?_⟩) hHeld ?_
              · intro w' hSw
                (try dsimp only at hSw)
                go_simp
                first | done | with_reducible rfl | (rw [kwm]; done) | (simp [kwm]; done)
              try simp only [Act.put, List.setIfInBounds_toArray, List.set]
              refine PhaseIn.takeD (i := 16) (v := (.bool true)) [16, 17, 18, 19, 20, 21, 22, 23, 24, 25] 71 rfl (by rfl) (by kernel_rfl) (by kernel_rfl) (by kernel_rfl) (by kernel_rfl) (by kernel_rfl) (fun _ _ _ h => h) (Or.inl ⟨by kernel_rfl, ?_⟩) hHeld ?_
              · intro w' hSw
                (try dsimp only at hSw)
                go_simp
                first | done | with_reducible rfl
              try simp only [Act.put, List.setIfInBounds_toArray, List.set]
              refine PhaseIn.takeD (i := 17) (v := ?_) [17, 18, 19, 20, 21, 22, 23, 24, 25] 72 rfl (by rfl) (by kernel_rfl) (by kernel_rfl) (by kernel_rfl) (by kernel_rfl) (by kernel_rfl) (fun _ _ _ h => h) (Or.inl ⟨by kernel_rfl, ?_⟩) hHeld ?_
              rotate_left
              · intro w' hSw
                (try dsimp only at hSw)
                go_simp
                first | done | with_reducible rfl
              try simp only [Act.put, List.setIfInBounds_toArray, List.set]
              refine PhaseIn.takeD (i := 18) (v := ?_) [18, 19, 20, 21, 22, 23, 24, 25] 73 rfl (by rfl) (by kernel_rfl) (by kernel_rfl) (by kernel_rfl) (by kernel_rfl) (by kernel_rfl) (fun _ _ _ h => h) (Or.inl ⟨by kernel_rfl, ?_⟩) hHeld ?_
              rotate_left
              · intro w' hSw
                (try dsimp only at hSw)
                go_simp
                first | done | with_reducible rfl
              try simp only [Act.put, List.setIfInBounds_toArray, List.set]
              refine PhaseIn.takeD (i := 19) (v := undef) [19, 20, 22, 23, 24, 25] 74 rfl (by rfl) (by kernel_rfl) (by kernel_rfl) (by kernel_rfl) (by kernel_rfl) (by kernel_rfl) (fun _ _ _ h => h) (Or.inr ⟨by kernel_rfl, rfl⟩) hHeld ?_
              try simp only [Act.put, List.setIfInBounds_toArray, List.set]
              refine PhaseIn.takeD (i := 20) (v := undef) [20, 22, 23, 24, 25] 75 rfl (by rfl) (by kernel_rfl) (by kernel_rfl) (by kernel_rfl) (by kernel_rfl) (by kernel_rfl) (fun _ _ _ h => h) (Or.inr ⟨by kernel_rfl, rfl⟩) hHeld ?_
              try simp only [Act.put, List.setIfInBounds_toArray, List.set]
              refine PhaseIn.takeD (i := 21) (v := undef) [21, 22, 23, 24, 25] 76 rfl (by rfl) (by kernel_rfl) (by kernel_rfl) (by kernel_rfl) (by kernel_rfl) (by kernel_rfl) (fun _ _ _ h => h) (Or.inr ⟨by kernel_rfl, rfl⟩) hHeld ?_
              try simp only [Act.put, List.setIfInBounds_toArray, List.set]
              refine PhaseIn.takeD (i := 22) (v := undef) [22, 23, 24, 25] 77 rfl (by rfl) (by kernel_rfl) (by kernel_rfl) (by kernel_rfl) (by kernel_rfl) (by kernel_rfl) (fun _ _ _ h => h) (Or.inr ⟨by kernel_rfl, rfl⟩) hHeld ?_
              try simp only [Act.put, List.setIfInBounds_toArray, List.set]
              refine PhaseIn.takeD (i := 23) (v := undef) [23, 24, 25] 78 rfl (by rfl) (by kernel_rfl) (by kernel_rfl) (by kernel_rfl) (by kernel_rfl) (by kernel_rfl) (fun _ _ _ h => h) (Or.inr ⟨by kernel_rfl, rfl⟩) hHeld ?_
              try simp only [Act.put, List.setIfInBounds_toArray, List.set]
              refine PhaseIn.takeD (i := 24) (v := undef) [24, 25] 79 rfl (by rfl) (by kernel_rfl) (by kernel_rfl) (by kernel_rfl) (by kernel_rfl) (by kernel_rfl) (fun _ _ _ h => h) (Or.inr ⟨by kernel_rfl, rfl⟩) hHeld ?_
              try simp only [Act.put, List.setIfInBounds_toArray, List.set]
              refine PhaseIn.takeD (i := 25) (v := ?_) [25] 80 rfl (by rfl) (by kernel_rfl) (by kernel_rfl) (by kernel_rfl) (by kernel_rfl) (by kernel_rfl) (fun _ _ _ h => h) (Or.inl ⟨by kernel_rfl, ?_⟩) hHeld ?_
              rotate_left
              · intro w' hSw
                (try dsimp only at hSw)
                go_simp
                first | done | with_reducible rfl
              try simp only [Act.put, List.setIfInBounds_toArray, List.set]
              refine PhaseIn.done (by kernel_rfl) ?_ _
              have S := hide hHeld
              clear hHeld
              go_wp2_with fail
              refine (La.laOk wv52).mono ?_
              rintro e wz ⟨rfl, rfl⟩
              have FIN := hide S.out.bw
              clear S
              go_wp2
              go_ret
              exact ⟨rfl, FIN.out⟩
            · have hpb : decide ((12 : Int) < (pc.length : Int) * (pd.length : Int)) = false := decide_eq_false hp
              have HP := hide (prod_le hp)
              obtain ⟨dc, edc⟩ : ∃ dc, degL pc 0 = dc := ⟨_, rfl⟩
              obtain ⟨dd, edd⟩ : ∃ dd, degL pd 0 = dd := ⟨_, rfl⟩
              rw [edc] at q3
              rw [edd] at q4
              have kws : IntKind.i64.wrap ((dc : Int) + (dd : Int)) = (dc : Int) + (dd : Int) := IntWalk.i64_in _ ⟨by omega, by omega⟩
              have EDC := hide edc
              have EDD := hide edd
              clear edc edd
              by_cases hg : (4 : Int) < (dc : Int) + (dd : Int)
              · have hx := trivial
                refine (wpIn_wide (n := 0)).1 ?_
                have S2 := hide S.out.drew
                clear S
                refine PhaseIn.region (S := fun v => Pit w [(X5, .slice y8 (addP pa pb).length j8, addP pa pb), (X4, .slice u4 pd.length k4, pd), (X3, .slice u3 pc.length k3, pc), (X2, .slice u2 pb.length k2, pb), (X1, .slice u1 pa.length k1, pa)] [] v) 26 (by kernel_rfl) ?_
                generalize wv44.drew = wv53 at *
                have hHeld := S2.out
                clear S2
                refine PhaseIn.takeD (i := 0) (v := ?_) [0, 1, 2, 3, 4, 5, 6, 7, 8, 9, 10, 11, 12, 13, 14, 15, 16, 17, 18, 19, 20, 21, 22, 23, 24, 25] 55 rfl (by rfl) (by kernel_rfl) (by kernel_rfl) (by kernel_rfl) (by kernel_rfl) (by kernel_rfl) (fun _ _ _ h => h) (Or.inl ⟨by kernel_rfl, ?_⟩) hHeld ?_
                rotate_left
                · intro w' hSw
                  (try dsimp only at hSw)
                  have z0 := (hSw.box (X3, .slice u3 pc.length k3, pc) (List.mem_cons_of_mem _ (List.mem_cons_of_mem _ List.mem_cons_self))).1.cell 0 _ rfl
                  go_simp
                  first | done | with_reducible rfl
                try simp only [Act.put, List.setIfInBounds_toArray, List.set]
                obtain ⟨D0, d0⟩ := (hHeld.box (X3, .slice u3 pc.length k3, pc) (List.mem_cons_of_mem _ (List.mem_cons_of_mem _ List.mem_cons_self))).2
                refine PhaseIn.one (i := 1) (by kernel_rfl) rfl (by kernel_rfl) (fun K hK => ?_)
                unfold Oper.wpIn
                refine ⟨fun _ _ => trivial, ?_⟩
                go_simp
                refine ⟨rfl, (callsIn_wide.2 (specOk pc D0 _ wv53 d0)).mono ?_⟩
                rintro e wv54 ⟨he, hb⟩
                rw [Ec.out] at he
                subst he
                clear d0
                replace hHeld := hHeld.below hb
                clear hb
                refine hK _ _ (fun _ => hHeld) ?_
                clear hK K
                try simp only [Act.put, List.setIfInBounds_toArray, List.set]
                refine PhaseIn.takeD (i := 2) (v := ?_) [2, 3, 4, 5, 6, 7, 8, 9, 10, 11, 12, 13, 14, 15, 16, 17, 18, 19, 20, 21, 22, 23, 24, 25] 57 rfl (by rfl) (by kernel_rfl) (by kernel_rfl) (by kernel_rfl) (by kernel_rfl) (by kernel_rfl) (fun _ _ _ h => h) (Or.inl ⟨by kernel_rfl, ?_⟩) hHeld ?_
                rotate_left
                · intro w' hSw
                  (try dsimp only at hSw)
                  go_simp
                  first | done | with_reducible rfl
                try simp only [Act.put, List.setIfInBounds_toArray, List.set]
                refine PhaseIn.takeD (i := 3) (v := ?_) [3, 4, 5, 6, 7, 8, 9, 10, 11, 12, 13, 14, 15, 16, 17, 18, 19, 20, 21, 22, 23, 24, 25] 58 rfl (by rfl) (by kernel_rfl) (by kernel_rfl) (by kernel_rfl) (by kernel_rfl) (by kernel_rfl) (fun _ _ _ h => h) (Or.inl ⟨by kernel_rfl, ?_⟩) hHeld ?_
                rotate_left
                · intro w' hSw
                  (try dsimp only at hSw)
                  go_simp
                  first | done | with_reducible rfl
                try simp only [Act.put, List.setIfInBounds_toArray, List.set]
                refine PhaseIn.takeD (i := 4) (v := ?_) [4, 5, 6, 7, 8, 9, 10, 11, 12, 13, 14, 15, 16, 17, 18, 19, 20, 21, 22, 23, 24, 25] 59 rfl (by rfl) (by kernel_rfl) (by kernel_rfl) (by kernel_rfl) (by kernel_rfl) (by kernel_rfl) (fun _ _ _ h => h) (Or.inl ⟨by kernel_rfl, ?_⟩) hHeld ?_
                rotate_left
                · intro w' hSw
                  (try dsimp only at hSw)
                  have z0 := (hSw.box (X4, .slice u4 pd.length k4, pd) (List.mem_cons_of_mem _ List.mem_cons_self)).1.cell 0 _ rfl
                  go_simp
                  first | done | with_reducible rfl
                try simp only [Act.put, List.setIfInBounds_toArray, List.set]
                obtain ⟨D0, d0⟩ := (hHeld.box (X4, .slice u4 pd.length k4, pd) (List.mem_cons_of_mem _ List.mem_cons_self)).2
                refine PhaseIn.one (i := 5) (by kernel_rfl) rfl (by kernel_rfl) (fun K hK => ?_)
                unfold Oper.wpIn
                refine ⟨fun _ _ => trivial, ?_⟩
                go_simp
                refine ⟨rfl, (callsIn_wide.2 (specOk pd D0 _ wv54 d0)).mono ?_⟩
                rintro e wv55 ⟨he, hb⟩
                rw [Ed.out] at he
                subst he
                clear d0
                replace hHeld := hHeld.below hb
                clear hb
                refine hK _ _ (fun _ => hHeld) ?_
                clear hK K
                try simp only [Act.put, List.setIfInBounds_toArray, List.set]
                refine PhaseIn.takeD (i := 6) (v := ?_) [6, 7, 8, 9, 10, 11, 12, 13, 14, 15, 16, 17, 18, 19, 20, 21, 22, 23, 24, 25] 61 rfl (by rfl) (by kernel_rfl) (by kernel_rfl) (by kernel_rfl) (by kernel_rfl) (by kernel_rfl) (fun _ _ _ h => h) (Or.inl ⟨by kernel_rfl, ?_⟩) hHeld ?_
                rotate_left
                · intro w' hSw
                  (try dsimp only at hSw)
                  go_simp
                  first | done | with_reducible rfl
                try simp only [Act.put, List.setIfInBounds_toArray, List.set]
                refine PhaseIn.takeD (i := 7) (v := ?_) [7, 8, 9, 10, 11, 12, 13, 14, 15, 16, 17, 18, 19, 20, 21, 22, 23, 24, 25] 62 rfl (by rfl) (by kernel_rfl) (by kernel_rfl) (by kernel_rfl) (by kernel_rfl) (by kernel_rfl) (fun _ _ _ h => h) (Or.inl ⟨by kernel_rfl, ?_⟩) hHeld ?_
                rotate_left
                · intro w' hSw
                  (try dsimp only at hSw)
                  go_simp
                  first | done | with_reducible rfl
                try simp only [Act.put, List.setIfInBounds_toArray, List.set]
                refine PhaseIn.takeD (i := 8) (v := ?_) [8, 9, 10, 11, 12, 13, 14, 15, 16, 17, 18, 19, 20, 21, 22, 23, 24, 25] 63 rfl (by rfl) (by kernel_rfl) (by kernel_rfl) (by kernel_rfl) (by kernel_rfl) (by kernel_rfl) (fun _ _ _ h => h) (Or.inl ⟨by kernel_rfl, ?_⟩) hHeld ?_
                rotate_left
                · intro w' hSw
                  (try dsimp only at hSw)
                  go_simp
                  first | done | with_reducible rfl
                try simp only [Act.put, List.setIfInBounds_toArray, List.set]
                refine PhaseIn.takeD (i := 9) (v := ?_) [9, 10, 11, 15, 16, 17, 18, 19, 20, 21, 22, 23, 24, 25] 64 rfl (by rfl) (by kernel_rfl) (by kernel_rfl) (by kernel_rfl) (by kernel_rfl) (by kernel_rfl) (fun _ _ _ h => h) (Or.inl ⟨by kernel_rfl, ?_⟩) hHeld ?_
                rotate_left
                · intro w' hSw
                  (try dsimp only at hSw)
                  go_simp
                  first | done | with_reducible rfl
                try simp only [Act.put, List.setIfInBounds_toArray, List.set]
                refine PhaseIn.takeD (i := 10) (v := ?_) [10, 11, 15, 16, 17, 18, 19, 20, 21, 22, 23, 24, 25] 65 rfl (by rfl) (by kernel_rfl) (by kernel_rfl) (by kernel_rfl) (by kernel_rfl) (by kernel_rfl) (fun _ _ _ h => h) (Or.inl ⟨by kernel_rfl, ?_⟩) hHeld ?_
                rotate_left
                · intro w' hSw
                  (try dsimp only at hSw)
                  have z0 := (hSw.box (X3, .slice u3 pc.length k3, pc) (List.mem_cons_of_mem _ (List.mem_cons_of_mem _ List.mem_cons_self))).1.cell 0 _ rfl
                  go_simp
                  first | done | with_reducible rfl
                try simp only [Act.put, List.setIfInBounds_toArray, List.set]
                refine PhaseIn.takeD (i := 11) (v := ?_) [11, 15, 16, 17, 18, 19, 20, 21, 22, 23, 24, 25] 66 rfl (by rfl) (by kernel_rfl) (by kernel_rfl) (by kernel_rfl) (by kernel_rfl) (by kernel_rfl) (fun _ _ _ h => h) (Or.inl ⟨by kernel_rfl, ?_⟩) hHeld ?_
                rotate_left
                · intro w' hSw
                  (try dsimp only at hSw)
                  go_simp
                  first | done | with_reducible rfl
                try simp only [Act.put, List.setIfInBounds_toArray, List.set]
                refine PhaseIn.takeD (i := 12) (v := ?_) [12, 13, 14, 15, 16, 17, 18, 19, 20, 21, 22, 23, 24, 25] 67 rfl (by rfl) (by kernel_rfl) (by kernel_rfl) (by kernel_rfl) (by kernel_rfl) (by kernel_rfl) (fun _ _ _ h => h) (Or.inl ⟨by kernel_rfl, ?_⟩) hHeld ?_
                rotate_left
                · intro w' hSw
                  (try dsimp only at hSw)
                  go_simp
                  first | done | with_reducible rfl
                try simp only [Act.put, List.setIfInBounds_toArray, List.set]
                refine PhaseIn.takeD (i := 13) (v := ?_) [13, 14, 15, 16, 17, 18, 19, 20, 21, 22, 23, 24, 25] 68 rfl (by rfl) (by kernel_rfl) (by kernel_rfl) (by kernel_rfl) (by kernel_rfl) (by kernel_rfl) (fun _ _ _ h => h) (Or.inl ⟨by kernel_rfl, ?_⟩) hHeld ?_
                rotate_left
                · intro w' hSw
                  (try dsimp only at hSw)
                  have z0 := (hSw.box (X4, .slice u4 pd.length k4, pd) (List.mem_cons_of_mem _ List.mem_cons_self)).1.cell 0 _ rfl
                  go_simp
                  first | done | with_reducible rfl
                try simp only [Act.put, List.setIfInBounds_toArray, List.set]
                refine PhaseIn.takeD (i := 14) (v := ?_) [14, 15, 16, 17, 18, 19, 20, 21, 22, 23, 24, 25] 69 rfl (by rfl) (by kernel_rfl) (by kernel_rfl) (by kernel_rfl) (by kernel_rfl) (by kernel_rfl) (fun _ _ _ h => h) (Or.inl ⟨by kernel_rfl, ?_⟩) hHeld ?_
                rotate_left
                · intro w' hSw
                  (try dsimp only at hSw)
                  go_simp
                  first | done | with_reducible rfl
                try simp only [Act.put, List.setIfInBounds_toArray, List.set]
                refine PhaseIn.takeD (i := 15) (v := (.int .i64 ((pc.length : Int) * (pd.length : Int)))) [15, 16, 17, 18, 19, 20, 21, 22, 23, 24, 25] 70 rfl (by rfl) (by kernel_rfl) (by kernel_rfl) (by kernel_rfl) (by kernel_rfl) (by kernel_rfl) (fun _ _ _ h => h) (Or.inl ⟨by kernel_rfl, ?_⟩) hHeld ?_
                · intro w' hSw
                  (try dsimp only at hSw)
                  go_simp
                  first | done | with_reducible rfl | (rw [kwm]; done) | (simp [kwm]; done)
                try simp only [Act.put, List.setIfInBounds_toArray, List.set]
                refine PhaseIn.takeD (i := 16) (v := (.bool false)) [16, 17, 18, 19, 20, 21, 22, 23, 24, 25] 71 rfl (by rfl) (by kernel_rfl) (by kernel_rfl) (by kernel_rfl) (by kernel_rfl) (by kernel_rfl) (fun _ _ _ h => h) (Or.inl ⟨by kernel_rfl, ?_⟩) hHeld ?_
                · intro w' hSw
                  (try dsimp only at hSw)
                  go_simp
                  first | done | with_reducible rfl
                try simp only [Act.put, List.setIfInBounds_toArray, List.set]
                refine PhaseIn.takeD (i := 17) (v := ?_) [17, 18, 19, 20, 21, 22, 23, 24, 25] 72 rfl (by rfl) (by kernel_rfl) (by kernel_rfl) (by kernel_rfl) (by kernel_rfl) (by kernel_rfl) (fun _ _ _ h => h) (Or.inl ⟨by kernel_rfl, ?_⟩) hHeld ?_
                rotate_left
                · intro w' hSw
                  (try dsimp only at hSw)
                  go_simp
                  first | done | with_reducible rfl
                try simp only [Act.put, List.setIfInBounds_toArray, List.set]
                refine PhaseIn.takeD (i := 18) (v := ?_) [18, 19, 20, 21, 22, 23, 24, 25] 73 rfl (by rfl) (by kernel_rfl) (by kernel_rfl) (by kernel_rfl) (by kernel_rfl) (by kernel_rfl) (fun _ _ _ h => h) (Or.inl ⟨by kernel_rfl, ?_⟩) hHeld ?_
                rotate_left
                · intro w' hSw
                  (try dsimp only at hSw)
                  go_simp
                  first | done | with_reducible rfl
                try simp only [Act.put, List.setIfInBounds_toArray, List.set]
                refine PhaseIn.takeD (i := 19) (v := ?_) [19, 20, 22, 23, 24, 25] 74 rfl (by rfl) (by kernel_rfl) (by kernel_rfl) (by kernel_rfl) (by kernel_rfl) (by kernel_rfl) (fun _ _ _ h => h) (Or.inl ⟨by kernel_rfl, ?_⟩) hHeld ?_
                rotate_left
                · intro w' hSw
                  (try dsimp only at hSw)
                  have z0 := (hSw.box (X3, .slice u3 pc.length k3, pc) (List.mem_cons_of_mem _ (List.mem_cons_of_mem _ List.mem_cons_self))).1.cell 0 _ rfl
                  go_simp
                  first | done | with_reducible rfl
                try simp only [Act.put, List.setIfInBounds_toArray, List.set]
                refine PhaseIn.takeD (i := 21) (v := ?_) [21, 22, 23, 24, 25] 76 rfl (by rfl) (by kernel_rfl) (by kernel_rfl) (by kernel_rfl) (by kernel_rfl) (by kernel_rfl) (fun _ _ _ h => h) (Or.inl ⟨by kernel_rfl, ?_⟩) hHeld ?_
                rotate_left
                · intro w' hSw
                  (try dsimp only at hSw)
                  have z0 := (hSw.box (X4, .slice u4 pd.length k4, pd) (List.mem_cons_of_mem _ List.mem_cons_self)).1.cell 0 _ rfl
                  go_simp
                  first | done | with_reducible rfl
                try simp only [Act.put, List.setIfInBounds_toArray, List.set]
                obtain ⟨D0, d0⟩ := (hHeld.box (X3, .slice u3 pc.length k3, pc) (List.mem_cons_of_mem _ (List.mem_cons_of_mem _ List.mem_cons_self))).2
                refine PhaseIn.one (i := 20) (by kernel_rfl) rfl (by kernel_rfl) (fun K hK => ?_)
                unfold Oper.wpIn
                refine ⟨fun _ _ => trivial, ?_⟩
                go_simp
                refine ⟨rfl, (callsIn_wide.2 (La.laDeg pc D0 _ wv55 d0)).mono ?_⟩
                rintro e wv56 ⟨he, hb⟩
                rw [EDC.out] at he
                subst he
                clear d0
                replace hHeld := hHeld.below hb
                clear hb
                refine hK _ _ (fun _ => hHeld) ?_
                clear hK K
                try simp only [Act.put, List.setIfInBounds_toArray, List.set]
                obtain ⟨D1, d1⟩ := (hHeld.box (X4, .slice u4 pd.length k4, pd) (List.mem_cons_of_mem _ List.mem_cons_self)).2
                refine PhaseIn.one (i := 22) (by kernel_rfl) rfl (by kernel_rfl) (fun K hK => ?_)
                unfold Oper.wpIn
                refine ⟨fun _ _ => trivial, ?_⟩
                go_simp
                refine ⟨rfl, (callsIn_wide.2 (La.laDeg pd D1 _ wv56 d1)).mono ?_⟩
                rintro e wv57 ⟨he, hb⟩
                rw [EDD.out] at he
                subst he
                clear d1
                replace hHeld := hHeld.below hb
                clear hb
                refine hK _ _ (fun _ => hHeld) ?_
                clear hK K
                try simp only [Act.put, List.setIfInBounds_toArray, List.set]
                refine PhaseIn.takeD (i := 23) (v := (.int .i64 ((dc : Int) + (dd : Int)))) [23, 24, 25] 78 rfl (by rfl) (by kernel_rfl) (by kernel_rfl) (by kernel_rfl) (by kernel_rfl) (by kernel_rfl) (fun _ _ _ h => h) (Or.inl ⟨by kernel_rfl, ?_⟩) hHeld ?_
                · intro w' hSw
                  (try dsimp only at hSw)
                  go_simp
                  first | done | with_reducible rfl | (rw [kws]; done) | (simp [kws]; done) | omega
                try simp only [Act.put, List.setIfInBounds_toArray, List.set]
                refine PhaseIn.takeD (i := 24) (v := ?_) [24, 25] 79 rfl (by rfl) (by kernel_rfl) (by kernel_rfl) (by kernel_rfl) (by kernel_rfl) (by kernel_rfl) (fun _ _ _ h => h) (Or.inl ⟨by kernel_rfl, ?_⟩) hHeld ?_
                rotate_left
                · intro w' hSw
                  (try dsimp only at hSw)
                  go_simp
                  first | done | with_reducible rfl
                try simp only [Act.put, List.setIfInBounds_toArray, List.set]
                refine PhaseIn.takeD (i := 25) (v := ?_) [25] 80 rfl (by rfl) (by kernel_rfl) (by kernel_rfl) (by kernel_rfl) (by kernel_rfl) (by kernel_rfl) (fun _ _ _ h => h) (Or.inl ⟨by kernel_rfl, ?_⟩) hHeld ?_
                rotate_left
                · intro w' hSw
                  (try dsimp only at hSw)
                  go_simp
                  first | done | with_reducible rfl
                try simp only [Act.put, List.setIfInBounds_toArray, List.set]
                refine PhaseIn.done (by kernel_rfl) ?_ _
                have S := hide hHeld
                clear hHeld
                go_wp2_with fail
                refine (La.laOk wv57).mono ?_
                rintro e wz ⟨rfl, rfl⟩
                have FIN := hide S.out.bw
                clear S
                go_wp2
                go_ret
                exact ⟨rfl, FIN.out⟩
              · have hx := trivial
                have HF := hide (mul_fit Ec.out Ed.out HP.out (by rw [EDC.out, EDD.out]; omega))
                refine (wpIn_wide (n := 0)).1 ?_
                have S2 := hide S.out.drew
                clear S
                refine PhaseIn.region (S := fun v => Pit w [(X5, .slice y8 (addP pa pb).length j8, addP pa pb), (X4, .slice u4 pd.length k4, pd), (X3, .slice u3 pc.length k3, pc), (X2, .slice u2 pb.length k2, pb), (X1, .slice u1 pa.length k1, pa)] [] v) 26 (by kernel_rfl) ?_
                generalize wv44.drew = wv58 at *
                have hHeld := S2.out
                clear S2
                refine PhaseIn.takeD (i := 0) (v := ?_) [0, 1, 2, 3, 4, 5, 6, 7, 8, 9, 10, 11, 12, 13, 14, 15, 16, 17, 18, 19, 20, 21, 22, 23, 24, 25] 55 rfl (by rfl) (by kernel_rfl) (by kernel_rfl) (by kernel_rfl) (by kernel_rfl) (by kernel_rfl) (fun _ _ _ h => h) (Or.inl ⟨by kernel_rfl, ?_⟩) hHeld ?_
                rotate_left
                · intro w' hSw
                  (try dsimp only at hSw)
                  have z0 := (hSw.box (X3, .slice u3 pc.length k3, pc) (List.mem_cons_of_mem _ (List.mem_cons_of_mem _ List.mem_cons_self))).1.cell 0 _ rfl
                  go_simp
                  first | done | with_reducible rfl
                try simp only [Act.put, List.setIfInBounds_toArray, List.set]
                obtain ⟨D0, d0⟩ := (hHeld.box (X3, .slice u3 pc.length k3, pc) (List.mem_cons_of_mem _ (List.mem_cons_of_mem _ List.mem_cons_self))).2
                refine PhaseIn.one (i := 1) (by kernel_rfl) rfl (by kernel_rfl) (fun K hK => ?_)
                unfold Oper.wpIn
                refine ⟨fun _ _ => trivial, ?_⟩
                go_simp
                refine ⟨rfl, (callsIn_wide.2 (specOk pc D0 _ wv58 d0)).mono ?_⟩
                rintro e wv59 ⟨he, hb⟩
                rw [Ec.out] at he
                subst he
                clear d0
                replace hHeld := hHeld.below hb
                clear hb
                refine hK _ _ (fun _ => hHeld) ?_
                clear hK K
                try simp only [Act.put, List.setIfInBounds_toArray, List.set]
                refine PhaseIn.takeD (i := 2) (v := ?_) [2, 3, 4, 5, 6, 7, 8, 9, 10, 11, 12, 13, 14, 15, 16, 17, 18, 19, 20, 21, 22, 23, 24, 25] 57 rfl (by rfl) (by kernel_rfl) (by kernel_rfl) (by kernel_rfl) (by kernel_rfl) (by kernel_rfl) (fun _ _ _ h => h) (Or.inl ⟨by kernel_rfl, ?_⟩) hHeld ?_
                rotate_left
                · intro w' hSw
                  (try dsimp only at hSw)
                  go_simp
                  first | done | with_reducible rfl
                try simp only [Act.put, List.setIfInBounds_toArray, List.set]
                refine PhaseIn.takeD (i := 3) (v := ?_) [3, 4, 5, 6, 7, 8, 9, 10, 11, 12, 13, 14, 15, 16, 17, 18, 19, 20, 21, 22, 23, 24, 25] 58 rfl (by rfl) (by kernel_rfl) (by kernel_rfl) (by kernel_rfl) (by kernel_rfl) (by kernel_rfl) (fun _ _ _ h => h) (Or.inl ⟨by kernel_rfl, ?_⟩) hHeld ?_
                rotate_left
                · intro w' hSw
                  (try dsimp only at hSw)
                  go_simp
                  first | done | with_reducible rfl
                try simp only [Act.put, List.setIfInBounds_toArray, List.set]
                refine PhaseIn.takeD (i := 4) (v := ?_) [4, 5, 6, 7, 8, 9, 10, 11, 12, 13, 14, 15, 16, 17, 18, 19, 20, 21, 22, 23, 24, 25] 59 rfl (by rfl) (by kernel_rfl) (by kernel_rfl) (by kernel_rfl) (by kernel_rfl) (by kernel_rfl) (fun _ _ _ h => h) (Or.inl ⟨by kernel_rfl, ?_⟩) hHeld ?_
                rotate_left
                · intro w' hSw
                  (try dsimp only at hSw)
                  have z0 := (hSw.box (X4, .slice u4 pd.length k4, pd) (List.mem_cons_of_mem _ List.mem_cons_self)).1.cell 0 _ rfl
                  go_simp
                  first | done | with_reducible rfl
                try simp only [Act.put, List.setIfInBounds_toArray, List.set]
                obtain ⟨D0, d0⟩ := (hHeld.box (X4, .slice u4 pd.length k4, pd) (List.mem_cons_of_mem _ List.mem_cons_self)).2
                refine PhaseIn.one (i := 5) (by kernel_rfl) rfl (by kernel_rfl) (fun K hK => ?_)
                unfold Oper.wpIn
                refine ⟨fun _ _ => trivial, ?_⟩
                go_simp
                refine ⟨rfl, (callsIn_wide.2 (specOk pd D0 _ wv59 d0)).mono ?_⟩
                rintro e wv60 ⟨he, hb⟩
                rw [Ed.out] at he
                subst he
                clear d0
                replace hHeld := hHeld.below hb
                clear hb
                refine hK _ _ (fun _ => hHeld) ?_
                clear hK K
                try simp only [Act.put, List.setIfInBounds_toArray, List.set]
                refine PhaseIn.takeD (i := 6) (v := ?_) [6, 7, 8, 9, 10, 11, 12, 13, 14, 15, 16, 17, 18, 19, 20, 21, 22, 23, 24, 25] 61 rfl (by rfl) (by kernel_rfl) (by kernel_rfl) (by kernel_rfl) (by kernel_rfl) (by kernel_rfl) (fun _ _ _ h => h) (Or.inl ⟨by kernel_rfl, ?_⟩) hHeld ?_
                rotate_left
                · intro w' hSw
                  (try dsimp only at hSw)
                  go_simp
                  first | done | with_reducible rfl
                try simp only [Act.put, List.setIfInBounds_toArray, List.set]
                refine PhaseIn.takeD (i := 7) (v := ?_) [7, 8, 9, 10, 11, 12, 13, 14, 15, 16, 17, 18, 19, 20, 21, 22, 23, 24, 25] 62 rfl (by rfl) (by kernel_rfl) (by kernel_rfl) (by kernel_rfl) (by kernel_rfl) (by kernel_rfl) (fun _ _ _ h => h) (Or.inl ⟨by kernel_rfl, ?_⟩) hHeld ?_
                rotate_left
                · intro w' hSw
                  (try dsimp only at hSw)
                  go_simp
                  first | done | with_reducible rfl
                try simp only [Act.put, List.setIfInBounds_toArray, List.set]
                refine PhaseIn.takeD (i := 8) (v := ?_) [8, 9, 10, 11, 12, 13, 14, 15, 16, 17, 18, 19, 20, 21, 22, 23, 24, 25] 63 rfl (by rfl) (by kernel_rfl) (by kernel_rfl) (by kernel_rfl) (by kernel_rfl) (by kernel_rfl) (fun _ _ _ h => h) (Or.inl ⟨by kernel_rfl, ?_⟩) hHeld ?_
                rotate_left
                · intro w' hSw
                  (try dsimp only at hSw)
                  go_simp
                  first | done | with_reducible rfl
                try simp only [Act.put, List.setIfInBounds_toArray, List.set]
                refine PhaseIn.takeD (i := 9) (v := ?_) [9, 10, 11, 15, 16, 17, 18, 19, 20, 21, 22, 23, 24, 25] 64 rfl (by rfl) (by kernel_rfl) (by kernel_rfl) (by kernel_rfl) (by kernel_rfl) (by kernel_rfl) (fun _ _ _ h => h) (Or.inl ⟨by kernel_rfl, ?_⟩) hHeld ?_
                rotate_left
                · intro w' hSw
                  (try dsimp only at hSw)
                  go_simp
                  first | done | with_reducible rfl
                try simp only [Act.put, List.setIfInBounds_toArray, List.set]
                refine PhaseIn.takeD (i := 10) (v := ?_) [10, 11, 15, 16, 17, 18, 19, 20, 21, 22, 23, 24, 25] 65 rfl (by rfl) (by kernel_rfl) (by kernel_rfl) (by kernel_rfl) (by kernel_rfl) (by kernel_rfl) (fun _ _ _ h => h) (Or.inl ⟨by kernel_rfl, ?_⟩) hHeld ?_
                rotate_left
                · intro w' hSw
                  (try dsimp only at hSw)
                  have z0 := (hSw.box (X3, .slice u3 pc.length k3, pc) (List.mem_cons_of_mem _ (List.mem_cons_of_mem _ List.mem_cons_self))).1.cell 0 _ rfl
                  go_simp
                  first | done | with_reducible rfl
                try simp only [Act.put, List.setIfInBounds_toArray, List.set]
                refine PhaseIn.takeD (i := 11) (v := ?_) [11, 15, 16, 17, 18, 19, 20, 21, 22, 23, 24, 25] 66 rfl (by rfl) (by kernel_rfl) (by kernel_rfl) (by kernel_rfl) (by kernel_rfl) (by kernel_rfl) (fun _ _ _ h => h) (Or.inl ⟨by kernel_rfl, ?_⟩) hHeld ?_
                rotate_left
                · intro w' hSw
                  (try dsimp only at hSw)
                  go_simp
                  first | done | with_reducible rfl
                try simp only [Act.put, List.setIfInBounds_toArray, List.set]
                refine PhaseIn.takeD (i := 12) (v := ?_) [12, 13, 14, 15, 16, 17, 18, 19, 20, 21, 22, 23, 24, 25] 67 rfl (by rfl) (by kernel_rfl) (by kernel_rfl) (by kernel_rfl) (by kernel_rfl) (by kernel_rfl) (fun _ _ _ h => h) (Or.inl ⟨by kernel_rfl, ?_⟩) hHeld ?_
                rotate_left
                · intro w' hSw
                  (try dsimp only at hSw)
                  go_simp
                  first | done | with_reducible rfl
                try simp only [Act.put, List.setIfInBounds_toArray, List.set]
                refine PhaseIn.takeD (i := 13) (v := ?_) [13, 14, 15, 16, 17, 18, 19, 20, 21, 22, 23, 24, 25] 68 rfl (by rfl) (by kernel_rfl) (by kernel_rfl) (by kernel_rfl) (by kernel_rfl) (by kernel_rfl) (fun _ _ _ h => h) (Or.inl ⟨by kernel_rfl, ?_⟩) hHeld ?_
                rotate_left
                · intro w' hSw
                  (try dsimp only at hSw)
                  have z0 := (hSw.box (X4, .slice u4 pd.length k4, pd) (List.mem_cons_of_mem _ List.mem_cons_self)).1.cell 0 _ rfl
                  go_simp
                  first | done | with_reducible rfl
                try simp only [Act.put, List.setIfInBounds_toArray, List.set]
                refine PhaseIn.takeD (i := 14) (v := ?_) [14, 15, 16, 17, 18, 19, 20, 21, 22, 23, 24, 25] 69 rfl (by rfl) (by kernel_rfl) (by kernel_rfl) (by kernel_rfl) (by kernel_rfl) (by kernel_rfl) (fun _ _ _ h => h) (Or.inl ⟨by kernel_rfl, ?_⟩) hHeld ?_
                rotate_left
                · intro w' hSw
                  (try dsimp only at hSw)
                  go_simp
                  first | done | with_reducible rfl
                try simp only [Act.put, List.setIfInBounds_toArray, List.set]
                refine PhaseIn.takeD (i := 15) (v := (.int .i64 ((pc.length : Int) * (pd.length : Int)))) [15, 16, 17, 18, 19, 20, 21, 22, 23, 24, 25] 70 rfl (by rfl) (by kernel_rfl) (by kernel_rfl) (by kernel_rfl) (by kernel_rfl) (by kernel_rfl) (fun _ _ _ h => h) (Or.inl ⟨by kernel_rfl, ?_⟩) hHeld ?_
                · intro w' hSw
                  (try dsimp only at hSw)
                  go_simp
                  first | done | with_reducible rfl | (rw [kwm]; done) | (simp [kwm]; done)
                try simp only [Act.put, List.setIfInBounds_toArray, List.set]
                refine PhaseIn.takeD (i := 16) (v := (.bool false)) [16, 17, 18, 19, 20, 21, 22, 23, 24, 25] 71 rfl (by rfl) (by kernel_rfl) (by kernel_rfl) (by kernel_rfl) (by kernel_rfl) (by kernel_rfl) (fun _ _ _ h => h) (Or.inl ⟨by kernel_rfl, ?_⟩) hHeld ?_
                · intro w' hSw
                  (try dsimp only at hSw)
                  go_simp
                  first | done | with_reducible rfl
                try simp only [Act.put, List.setIfInBounds_toArray, List.set]
                refine PhaseIn.takeD (i := 17) (v := ?_) [17, 18, 19, 20, 21, 22, 23, 24, 25] 72 rfl (by rfl) (by kernel_rfl) (by kernel_rfl) (by kernel_rfl) (by kernel_rfl) (by kernel_rfl) (fun _ _ _ h => h) (Or.inl ⟨by kernel_rfl, ?_⟩) hHeld ?_
                rotate_left
                · intro w' hSw
                  (try dsimp only at hSw)
                  go_simp
                  first | done | with_reducible rfl
                try simp only [Act.put, List.setIfInBounds_toArray, List.set]
                refine PhaseIn.takeD (i := 18) (v := ?_) [18, 19, 20, 21, 22, 23, 24, 25] 73 rfl (by rfl) (by kernel_rfl) (by kernel_rfl) (by kernel_rfl) (by kernel_rfl) (by kernel_rfl) (fun _ _ _ h => h) (Or.inl ⟨by kernel_rfl, ?_⟩) hHeld ?_
                rotate_left
                · intro w' hSw
                  (try dsimp only at hSw)
                  go_simp
                  first | done | with_reducible rfl
                try simp only [Act.put, List.setIfInBounds_toArray, List.set]
                refine PhaseIn.takeD (i := 19) (v := ?_) [19, 20, 22, 23, 24, 25] 74 rfl (by rfl) (by kernel_rfl) (by kernel_rfl) (by kernel_rfl) (by kernel_rfl) (by kernel_rfl) (fun _ _ _ h => h) (Or.inl ⟨by kernel_rfl, ?_⟩) hHeld ?_
                rotate_left
                · intro w' hSw
                  (try dsimp only at hSw)
                  have z0 := (hSw.box (X3, .slice u3 pc.length k3, pc) (List.mem_cons_of_mem _ (List.mem_cons_of_mem _ List.mem_cons_self))).1.cell 0 _ rfl
                  go_simp
                  first | done | with_reducible rfl
                try simp only [Act.put, List.setIfInBounds_toArray, List.set]
                refine PhaseIn.takeD (i := 21) (v := ?_) [21, 22, 23, 24, 25] 76 rfl (by rfl) (by kernel_rfl) (by kernel_rfl) (by kernel_rfl) (by kernel_rfl) (by kernel_rfl) (fun _ _ _ h => h) (Or.inl ⟨by kernel_rfl, ?_⟩) hHeld ?_
                rotate_left
                · intro w' hSw
                  (try dsimp only at hSw)
                  have z0 := (hSw.box (X4, .slice u4 pd.length k4, pd) (List.mem_cons_of_mem _ List.mem_cons_self)).1.cell 0 _ rfl
                  go_simp
                  first | done | with_reducible rfl
                try simp only [Act.put, List.setIfInBounds_toArray, List.set]
                obtain ⟨D0, d0⟩ := (hHeld.box (X3, .slice u3 pc.length k3, pc) (List.mem_cons_of_mem _ (List.mem_cons_of_mem _ List.mem_cons_self))).2
                refine PhaseIn.one (i := 20) (by kernel_rfl) rfl (by kernel_rfl) (fun K hK => ?_)
                unfold Oper.wpIn
                refine ⟨fun _ _ => trivial, ?_⟩
                go_simp
                refine ⟨rfl, (callsIn_wide.2 (La.laDeg pc D0 _ wv60 d0)).mono ?_⟩
                rintro e wv61 ⟨he, hb⟩
                rw [EDC.out] at he
                subst he
                clear d0
                replace hHeld := hHeld.below hb
                clear hb
                refine hK _ _ (fun _ => hHeld) ?_
                clear hK K
                try simp only [Act.put, List.setIfInBounds_toArray, List.set]
                obtain ⟨D1, d1⟩ := (hHeld.box (X4, .slice u4 pd.length k4, pd) (List.mem_cons_of_mem _ List.mem_cons_self)).2
                refine PhaseIn.one (i := 22) (by kernel_rfl) rfl (by kernel_rfl) (fun K hK => ?_)
                unfold Oper.wpIn
                refine ⟨fun _ _ => trivial, ?_⟩
                go_simp
                refine ⟨rfl, (callsIn_wide.2 (La.laDeg pd D1 _ wv61 d1)).mono ?_⟩
                rintro e wv62 ⟨he, hb⟩
                rw [EDD.out] at he
                subst he
                clear d1
                replace hHeld := hHeld.below hb
                clear hb
                refine hK _ _ (fun _ => hHeld) ?_
                clear hK K
                try simp only [Act.put, List.setIfInBounds_toArray, List.set]
                refine PhaseIn.takeD (i := 23) (v := (.int .i64 ((dc : Int) + (dd : Int)))) [23, 24, 25] 78 rfl (by rfl) (by kernel_rfl) (by kernel_rfl) (by kernel_rfl) (by kernel_rfl) (by kernel_rfl) (fun _ _ _ h => h) (Or.inl ⟨by kernel_rfl, ?_⟩) hHeld ?_
                · intro w' hSw
                  (try dsimp only at hSw)
                  go_simp
                  first | done | with_reducible rfl | (rw [kws]; done) | (simp [kws]; done) | omega
                try simp only [Act.put, List.setIfInBounds_toArray, List.set]
                refine PhaseIn.takeD (i := 24) (v := ?_) [24, 25] 79 rfl (by rfl) (by kernel_rfl) (by kernel_rfl) (by kernel_rfl) (by kernel_rfl) (by kernel_rfl) (fun _ _ _ h => h) (Or.inl ⟨by kernel_rfl, ?_⟩) hHeld ?_
                rotate_left
                · intro w' hSw
                  (try dsimp only at hSw)
                  go_simp
                  first | done | with_reducible rfl
                try simp only [Act.put, List.setIfInBounds_toArray, List.set]
                refine PhaseIn.takeD (i := 25) (v := ?_) [25] 80 rfl (by rfl) (by kernel_rfl) (by kernel_rfl) (by kernel_rfl) (by kernel_rfl) (by kernel_rfl) (fun _ _ _ h => h) (Or.inl ⟨by kernel_rfl, ?_⟩) hHeld ?_
                rotate_left
                · intro w' hSw
                  (try dsimp only at hSw)
                  go_simp
                  first | done | with_reducible rfl
                try simp only [Act.put, List.setIfInBounds_toArray, List.set]
                refine PhaseIn.done (by kernel_rfl) ?_ _
                have S := hide hHeld
                clear hHeld
                have zC := (S.out.box (X3, .slice u3 pc.length k3, pc) (List.mem_cons_of_mem _ (List.mem_cons_of_mem _ List.mem_cons_self))).1.cell 0 _ rfl
                have zD := (S.out.box (X4, .slice u4 pd.length k4, pd) (List.mem_cons_of_mem _ List.mem_cons_self)).1.cell 0 _ rfl
                go_wp2_with fail
                clear zC zD
                obtain ⟨D0, d0⟩ := (S.out.box (X3, .slice u3 pc.length k3, pc) (List.mem_cons_of_mem _ (List.mem_cons_of_mem _ List.mem_cons_self))).2
                obtain ⟨D1, d1⟩ := (S.out.box (X4, .slice u4 pd.length k4, pd) (List.mem_cons_of_mem _ List.mem_cons_self)).2
                refine (implMul pc pd   D0 D1  _ _ _ d0 d1 ).mono ?_
                rintro e wv63 ⟨y9, l9, j9, he, W3, hb⟩
                clear d0 d1 
                obtain rfl := Draw.wp_len W3
                rw [HF.out] at he
                obtain ⟨D9, r9⟩ := W3.read
                subst he
                clear W3
                have S2 := hide (S.out.below hb)
                clear S hb
                have S := S2
                clear S2
                have S2 := hide (Pit.add S.out r9)
                clear S r9
                have S := S2
                clear S2
                have FIN := hide S.out.bw
                clear S
                go_wp2
                go_ret
                exact ⟨rfl, FIN.out⟩
      · have hx := trivial
        have zA := (S.out.box (X1, .slice u1 pa.length k1, pa) (List.mem_cons_of_mem _ (List.mem_cons_of_mem _ (List.mem_cons_of_mem _ List.mem_cons_self)))).1.cell 0 _ rfl
        have zB := (S.out.box (X2, .slice u2 pb.length k2, pb) (List.mem_cons_of_mem _ (List.mem_cons_of_mem _ List.mem_cons_self))).1.cell 0 _ rfl
        go_wp2_with fail
        clear zA zB
        cases okc with
        | false =>
          refine (wpIn_wide (n := 0)).1 ?_
          have S2 := hide S.out.drew
          clear S
          refine PhaseIn.region (S := fun v => Pit w [(X4, .slice u4 pd.length k4, pd), (X3, .slice u3 pc.length k3, pc), (X2, .slice u2 pb.length k2, pb), (X1, .slice u1 pa.length k1, pa)] [] v) 26 (by kernel_rfl) ?_
          generalize wv23.drew = wv64 at *
          have hHeld := S2.out
          clear S2
          refine PhaseIn.takeD (i := 0) (v := ?_) [0, 1, 2, 3, 4, 5, 6, 7, 8, 9, 10, 11, 12, 13, 14, 15, 16, 17, 18, 19, 20, 21, 22, 23, 24, 25] 55 rfl (by rfl) (by kernel_rfl) (by kernel_rfl) (by kernel_rfl) (by kernel_rfl) (by kernel_rfl) (fun _ _ _ h => h) (Or.inl ⟨by kernel_rfl, ?_⟩) hHeld ?_
          rotate_left
          · intro w' hSw
            (try dsimp only at hSw)
            have z0 := (hSw.box (X3, .slice u3 pc.length k3, pc) (List.mem_cons_of_mem _ List.mem_cons_self)).1.cell 0 _ rfl
            go_simp
            first | done | with_reducible rfl
          try simp only [Act.put, List.setIfInBounds_toArray, List.set]
          obtain ⟨D0, d0⟩ := (hHeld.box (X3, .slice u3 pc.length k3, pc) (List.mem_cons_of_mem _ List.mem_cons_self)).2
          refine PhaseIn.one (i := 1) (by kernel_rfl) rfl (by kernel_rfl) (fun K hK => ?_)
          unfold Oper.wpIn
          refine ⟨fun _ _ => trivial, ?_⟩
          go_simp
          refine ⟨rfl, (callsIn_wide.2 (specOk pc D0 _ wv64 d0)).mono ?_⟩
          rintro e wv65 ⟨he, hb⟩
          rw [Ec.out] at he
          subst he
          clear d0
          replace hHeld := hHeld.below hb
          clear hb
          refine hK _ _ (fun _ => hHeld) ?_
          clear hK K
          try simp only [Act.put, List.setIfInBounds_toArray, List.set]
          refine PhaseIn.takeD (i := 2) (v := ?_) [2, 3, 4, 5, 6, 7, 8, 9, 10, 11, 12, 13, 14, 15, 16, 17, 18, 19, 20, 21, 22, 23, 24, 25] 57 rfl (by rfl) (by kernel_rfl) (by kernel_rfl) (by kernel_rfl) (by kernel_rfl) (by kernel_rfl) (fun _ _ _ h => h) (Or.inl ⟨by kernel_rfl, ?_⟩) hHeld ?_
          rotate_left
          · intro w' hSw
            (try dsimp only at hSw)
            go_simp
            first | done | with_reducible rfl
          try simp only [Act.put, List.setIfInBounds_toArray, List.set]
          refine PhaseIn.takeD (i := 3) (v := ?_) [3, 4, 5, 6, 7, 8, 9, 10, 11, 12, 13, 14, 15, 16, 17, 18, 19, 20, 21, 22, 23, 24, 25] 58 rfl (by rfl) (by kernel_rfl) (by kernel_rfl) (by kernel_rfl) (by kernel_rfl) (by kernel_rfl) (fun _ _ _ h => h) (Or.inl ⟨by kernel_rfl, ?_⟩) hHeld ?_
          rotate_left
          · intro w' hSw
            (try dsimp only at hSw)
            go_simp
            first | done | with_reducible rfl
          try simp only [Act.put, List.setIfInBounds_toArray, List.set]
          refine PhaseIn.takeD (i := 4) (v := undef) [4, 5, 6, 7, 8, 9, 10, 11, 12, 13, 14, 15, 16, 17, 18, 19, 20, 21, 22, 23, 24, 25] 59 rfl (by rfl) (by kernel_rfl) (by kernel_rfl) (by kernel_rfl) (by kernel_rfl) (by kernel_rfl) (fun _ _ _ h => h) (Or.inr ⟨by kernel_rfl, rfl⟩) hHeld ?_
          try simp only [Act.put, List.setIfInBounds_toArray, List.set]
          refine PhaseIn.takeD (i := 5) (v := undef) [5, 6, 7, 8, 9, 10, 11, 12, 13, 14, 15, 16, 17, 18, 19, 20, 21, 22, 23, 24, 25] 60 rfl (by rfl) (by kernel_rfl) (by kernel_rfl) (by kernel_rfl) (by kernel_rfl) (by kernel_rfl) (fun _ _ _ h => h) (Or.inr ⟨by kernel_rfl, rfl⟩) hHeld ?_
          try simp only [Act.put, List.setIfInBounds_toArray, List.set]
          refine PhaseIn.takeD (i := 6) (v := undef) [6, 7, 8, 9, 10, 11, 12, 13, 14, 15, 16, 17, 18, 19, 20, 21, 22, 23, 24, 25] 61 rfl (by rfl) (by kernel_rfl) (by kernel_rfl) (by kernel_rfl) (by kernel_rfl) (by kernel_rfl) (fun _ _ _ h => h) (Or.inr ⟨by kernel_rfl, rfl⟩) hHeld ?_
          try simp only [Act.put, List.setIfInBounds_toArray, List.set]
          refine PhaseIn.takeD (i := 7) (v := ?_) [7, 8, 9, 10, 11, 12, 13, 14, 15, 16, 17, 18, 19, 20, 21, 22, 23, 24, 25] 62 rfl (by rfl) (by kernel_rfl) (by kernel_rfl) (by kernel_rfl) (by kernel_rfl) (by kernel_rfl) (fun _ _ _ h => h) (Or.inl ⟨by kernel_rfl, ?_⟩) hHeld ?_
          rotate_left
          · intro w' hSw
            (try dsimp only at hSw)
            go_simp
            first | done | with_reducible rfl
          try simp only [Act.put, List.setIfInBounds_toArray, List.set]
          refine PhaseIn.takeD (i := 8) (v := ?_) [8, 9, 10, 11, 12, 13, 14, 15, 16, 17, 18, 19, 20, 21, 22, 23, 24, 25] 63 rfl (by rfl) (by kernel_rfl) (by kernel_rfl) (by kernel_rfl) (by kernel_rfl) (by kernel_rfl) (fun _ _ _ h => h) (Or.inl ⟨by kernel_rfl, ?_⟩) hHeld ?_
          rotate_left
          · intro w' hSw
            (try dsimp only at hSw)
            go_simp
            first | done | with_reducible rfl
          try simp only [Act.put, List.setIfInBounds_toArray, List.set]
          refine PhaseIn.takeD (i := 9) (v := undef) [9, 10, 11, 15, 16, 17, 18, 19, 20, 21, 22, 23, 24, 25] 64 rfl (by rfl) (by kernel_rfl) (by kernel_rfl) (by kernel_rfl) (by kernel_rfl) (by kernel_rfl) (fun _ _ _ h => h) (Or.inr ⟨by kernel_rfl, rfl⟩) hHeld ?_
          try simp only [Act.put, List.setIfInBounds_toArray, List.set]
          refine PhaseIn.takeD (i := 10) (v := undef) [10, 11, 15, 16, 17, 18, 19, 20, 21, 22, 23, 24, 25] 65 rfl (by rfl) (by kernel_rfl) (by kernel_rfl) (by kernel_rfl) (by kernel_rfl) (by kernel_rfl) (fun _ _ _ h => h) (Or.inr ⟨by kernel_rfl, rfl⟩) hHeld ?_
          try simp only [Act.put, List.setIfInBounds_toArray, List.set]
          refine PhaseIn.takeD (i := 11) (v := undef) [11, 15, 16, 17, 18, 19, 20, 21, 22, 23, 24, 25] 66 rfl (by rfl) (by kernel_rfl) (by kernel_rfl) (by kernel_rfl) (by kernel_rfl) (by kernel_rfl) (fun _ _ _ h => h) (Or.inr ⟨by kernel_rfl, rfl⟩) hHeld ?_
          try simp only [Act.put, List.setIfInBounds_toArray, List.set]
          refine PhaseIn.takeD (i := 12) (v := undef) [12, 13, 14, 15, 16, 17, 18, 19, 20, 21, 22, 23, 24, 25] 67 rfl (by rfl) (by kernel_rfl) (by kernel_rfl) (by kernel_rfl) (by kernel_rfl) (by kernel_rfl) (fun _ _ _ h => h) (Or.inr ⟨by kernel_rfl, rfl⟩) hHeld ?_
          try simp only [Act.put, List.setIfInBounds_toArray, List.set]
          refine PhaseIn.takeD (i := 13) (v := undef) [13, 14, 15, 16, 17, 18, 19, 20, 21, 22, 23, 24, 25] 68 rfl (by rfl) (by kernel_rfl) (by kernel_rfl) (by kernel_rfl) (by kernel_rfl) (by kernel_rfl) (fun _ _ _ h => h) (Or.inr ⟨by kernel_rfl, rfl⟩) hHeld ?_
          try simp only [Act.put, List.setIfInBounds_toArray, List.set]
          refine PhaseIn.takeD (i := 14) (v := undef) [14, 15, 16, 17, 18, 19, 20, 21, 22, 23, 24, 25] 69 rfl (by rfl) (by kernel_rfl) (by kernel_rfl) (by kernel_rfl) (by kernel_rfl) (by kernel_rfl) (fun _ _ _ h => h) (Or.inr ⟨by kernel_rfl, rfl⟩) hHeld ?_
          try simp only [Act.put, List.setIfInBounds_toArray, List.set]
          refine PhaseIn.takeD (i := 15) (v := undef) [15, 16, 17, 18, 19, 20, 21, 22, 23, 24, 25] 70 rfl (by rfl) (by kernel_rfl) (by kernel_rfl) (by kernel_rfl) (by kernel_rfl) (by kernel_rfl) (fun _ _ _ h => h) (Or.inr ⟨by kernel_rfl, rfl⟩) hHeld ?_
          try simp only [Act.put, List.setIfInBounds_toArray, List.set]
          refine PhaseIn.takeD (i := 16) (v := undef) [16, 17, 18, 19, 20, 21, 22, 23, 24, 25] 71 rfl (by rfl) (by kernel_rfl) (by kernel_rfl) (by kernel_rfl) (by kernel_rfl) (by kernel_rfl) (fun _ _ _ h => h) (Or.inr ⟨by kernel_rfl, rfl⟩) hHeld ?_
          try simp only [Act.put, List.setIfInBounds_toArray, List.set]
          refine PhaseIn.takeD (i := 17) (v := ?_) [17, 18, 19, 20, 21, 22, 23, 24, 25] 72 rfl (by rfl) (by kernel_rfl) (by kernel_rfl) (by kernel_rfl) (by kernel_rfl) (by kernel_rfl) (fun _ _ _ h => h) (Or.inl ⟨by kernel_rfl, ?_⟩) hHeld ?_
          rotate_left
          · intro w' hSw
            (try dsimp only at hSw)
            go_simp
            first | done | with_reducible rfl
          try simp only [Act.put, List.setIfInBounds_toArray, List.set]
          refine PhaseIn.takeD (i := 18) (v := ?_) [18, 19, 20, 21, 22, 23, 24, 25] 73 rfl (by rfl) (by kernel_rfl) (by kernel_rfl) (by kernel_rfl) (by kernel_rfl) (by kernel_rfl) (fun _ _ _ h => h) (Or.inl ⟨by kernel_rfl, ?_⟩) hHeld ?_
          rotate_left
          · intro w' hSw
            (try dsimp only at hSw)
            go_simp
            first | done | with_reducible rfl
          try simp only [Act.put, List.setIfInBounds_toArray, List.set]
          refine PhaseIn.takeD (i := 19) (v := undef) [19, 20, 22, 23, 24, 25] 74 rfl (by rfl) (by kernel_rfl) (by kernel_rfl) (by kernel_rfl) (by kernel_rfl) (by kernel_rfl) (fun _ _ _ h => h) (Or.inr ⟨by kernel_rfl, rfl⟩) hHeld ?_
          try simp only [Act.put, List.setIfInBounds_toArray, List.set]
          refine PhaseIn.takeD (i := 20) (v := undef) [20, 22, 23, 24, 25] 75 rfl (by rfl) (by kernel_rfl) (by kernel_rfl) (by kernel_rfl) (by kernel_rfl) (by kernel_rfl) (fun _ _ _ h => h) (Or.inr ⟨by kernel_rfl, rfl⟩) hHeld ?_
          try simp only [Act.put, List.setIfInBounds_toArray, List.set]
          refine PhaseIn.takeD (i := 21) (v := undef) [21, 22, 23, 24, 25] 76 rfl (by rfl) (by kernel_rfl) (by kernel_rfl) (by kernel_rfl) (by kernel_rfl) (by kernel_rfl) (fun _ _ _ h => h) (Or.inr ⟨by kernel_rfl, rfl⟩) hHeld ?_
          try simp only [Act.put, List.setIfInBounds_toArray, List.set]
          refine PhaseIn.takeD (i := 22) (v := undef) [22, 23, 24, 25] 77 rfl (by rfl) (by kernel_rfl) (by kernel_rfl) (by kernel_rfl) (by kernel_rfl) (by kernel_rfl) (fun _ _ _ h => h) (Or.inr ⟨by kernel_rfl, rfl⟩) hHeld ?_
          try simp only [Act.put, List.setIfInBounds_toArray, List.set]
          refine PhaseIn.takeD (i := 23) (v := undef) [23, 24, 25] 78 rfl (by rfl) (by kernel_rfl) (by kernel_rfl) (by kernel_rfl) (by kernel_rfl) (by kernel_rfl) (fun _ _ _ h => h) (Or.inr ⟨by kernel_rfl, rfl⟩) hHeld ?_
          try simp only [Act.put, List.setIfInBounds_toArray, List.set]
          refine PhaseIn.takeD (i := 24) (v := undef) [24, 25] 79 rfl (by rfl) (by kernel_rfl) (by kernel_rfl) (by kernel_rfl) (by kernel_rfl) (by kernel_rfl) (fun _ _ _ h => h) (Or.inr ⟨by kernel_rfl, rfl⟩) hHeld ?_
          try simp only [Act.put, List.setIfInBounds_toArray, List.set]
          refine PhaseIn.takeD (i := 25) (v := ?_) [25] 80 rfl (by rfl) (by kernel_rfl) (by kernel_rfl) (by kernel_rfl) (by kernel_rfl) (by kernel_rfl) (fun _ _ _ h => h) (Or.inl ⟨by kernel_rfl, ?_⟩) hHeld ?_
          rotate_left
          · intro w' hSw
            (try dsimp only at hSw)
            go_simp
            first | done | with_reducible rfl
          try simp only [Act.put, List.setIfInBounds_toArray, List.set]
          refine PhaseIn.done (by kernel_rfl) ?_ _
          have S := hide hHeld
          clear hHeld
          go_wp2_with fail
          refine (La.laOk wv65).mono ?_
          rintro e wz ⟨rfl, rfl⟩
          have FIN := hide S.out.bw
          clear S
          go_wp2
          go_ret
          exact ⟨rfl, FIN.out⟩
        | true =>
          cases okd with
          | false =>
            refine (wpIn_wide (n := 0)).1 ?_
            have S2 := hide S.out.drew
            clear S
            refine PhaseIn.region (S := fun v => Pit w [(X4, .slice u4 pd.length k4, pd), (X3, .slice u3 pc.length k3, pc), (X2, .slice u2 pb.length k2, pb), (X1, .slice u1 pa.length k1, pa)] [] v) 26 (by kernel_rfl) ?_
            generalize wv23.drew = wv66 at *
            have hHeld := S2.out
            clear S2
            refine PhaseIn.takeD (i := 0) (v := ?_) [0, 1, 2, 3, 4, 5, 6, 7, 8, 9, 10, 11, 12, 13, 14, 15, 16, 17, 18, 19, 20, 21, 22, 23, 24, 25] 55 rfl (by rfl) (by kernel_rfl) (by kernel_rfl) (by kernel_rfl) (by kernel_rfl) (by kernel_rfl) (fun _ _ _ h => h) (Or.inl ⟨by kernel_rfl, ?_⟩) hHeld ?_
            rotate_left
            · intro w' hSw
              (try dsimp only at hSw)
              have z0 := (hSw.box (X3, .slice u3 pc.length k3, pc) (List.mem_cons_of_mem _ List.mem_cons_self)).1.cell 0 _ rfl
              go_simp
              first | done | with_reducible rfl
            try simp only [Act.put, List.setIfInBounds_toArray, List.set]
            obtain ⟨D0, d0⟩ := (hHeld.box (X3, .slice u3 pc.length k3, pc) (List.mem_cons_of_mem _ List.mem_cons_self)).2
            refine PhaseIn.one (i := 1) (by kernel_rfl) rfl (by kernel_rfl) (fun K hK => ?_)
            unfold Oper.wpIn
            refine ⟨fun _ _ => trivial, ?_⟩
            go_simp
            refine ⟨rfl, (callsIn_wide.2 (specOk pc D0 _ wv66 d0)).mono ?_⟩
            rintro e wv67 ⟨he, hb⟩
            rw [Ec.out] at he
            subst he
            clear d0
            replace hHeld := hHeld.below hb
            clear hb
            refine hK _ _ (fun _ => hHeld) ?_
            clear hK K
            try simp only [Act.put, List.setIfInBounds_toArray, List.set]
            refine PhaseIn.takeD (i := 2) (v := ?_) [2, 3, 4, 5, 6, 7, 8, 9, 10, 11, 12, 13, 14, 15, 16, 17, 18, 19, 20, 21, 22, 23, 24, 25] 57 rfl (by rfl) (by kernel_rfl) (by kernel_rfl) (by kernel_rfl) (by kernel_rfl) (by kernel_rfl) (fun _ _ _ h => h) (Or.inl ⟨by kernel_rfl, ?_⟩) hHeld ?_
            rotate_left
            · intro w' hSw
              (try dsimp only at hSw)
              go_simp
              first | done | with_reducible rfl
            try simp only [Act.put, List.setIfInBounds_toArray, List.set]
            refine PhaseIn.takeD (i := 3) (v := ?_) [3, 4, 5, 6, 7, 8, 9, 10, 11, 12, 13, 14, 15, 16, 17, 18, 19, 20, 21, 22, 23, 24, 25] 58 rfl (by rfl) (by kernel_rfl) (by kernel_rfl) (by kernel_rfl) (by kernel_rfl) (by kernel_rfl) (fun _ _ _ h => h) (Or.inl ⟨by kernel_rfl, ?_⟩) hHeld ?_
            rotate_left
            · intro w' hSw
              (try dsimp only at hSw)
              go_simp
              first | done | with_reducible rfl
            try simp only [Act.put, List.setIfInBounds_toArray, List.set]
            refine PhaseIn.takeD (i := 4) (v := ?_) [4, 5, 6, 7, 8, 9, 10, 11, 12, 13, 14, 15, 16, 17, 18, 19, 20, 21, 22, 23, 24, 25] 59 rfl (by rfl) (by kernel_rfl) (by kernel_rfl) (by kernel_rfl) (by kernel_rfl) (by kernel_rfl) (fun _ _ _ h => h) (Or.inl ⟨by kernel_rfl, ?_⟩) hHeld ?_
            rotate_left
            · intro w' hSw
              (try dsimp only at hSw)
              have z0 := (hSw.box (X4, .slice u4 pd.length k4, pd) List.mem_cons_self).1.cell 0 _ rfl
              go_simp
              first | done | with_reducible rfl
            try simp only [Act.put, List.setIfInBounds_toArray, List.set]
            obtain ⟨D0, d0⟩ := (hHeld.box (X4, .slice u4 pd.length k4, pd) List.mem_cons_self).2
            refine PhaseIn.one (i := 5) (by kernel_rfl) rfl (by kernel_rfl) (fun K hK => ?_)
            unfold Oper.wpIn
            refine ⟨fun _ _ => trivial, ?_⟩
            go_simp
            refine ⟨rfl, (callsIn_wide.2 (specOk pd D0 _ wv67 d0)).mono ?_⟩
            rintro e wv68 ⟨he, hb⟩
            rw [Ed.out] at he
            subst he
            clear d0
            replace hHeld := hHeld.below hb
            clear hb
            refine hK _ _ (fun _ => hHeld) ?_
            clear hK K
            try simp only [Act.put, List.setIfInBounds_toArray, List.set]
            refine PhaseIn.takeD (i := 6) (v := ?_) [6, 7, 8, 9, 10, 11, 12, 13, 14, 15, 16, 17, 18, 19, 20, 21, 22, 23, 24, 25] 61 rfl (by rfl) (by kernel_rfl) (by kernel_rfl) (by kernel_rfl) (by kernel_rfl) (by kernel_rfl) (fun _ _ _ h => h) (Or.inl ⟨by kernel_rfl, ?_⟩) hHeld ?_
            rotate_left
            · intro w' hSw
              (try dsimp only at hSw)
              go_simp
              first | done | with_reducible rfl
            try simp only [Act.put, List.setIfInBounds_toArray, List.set]
            refine PhaseIn.takeD (i := 7) (v := ?_) [7, 8, 9, 10, 11, 12, 13, 14, 15, 16, 17, 18, 19, 20, 21, 22, 23, 24, 25] 62 rfl (by rfl) (by kernel_rfl) (by kernel_rfl) (by kernel_rfl) (by kernel_rfl) (by kernel_rfl) (fun _ _ _ h => h) (Or.inl ⟨by kernel_rfl, ?_⟩) hHeld ?_
            rotate_left
            · intro w' hSw
              (try dsimp only at hSw)
              go_simp
              first | done | with_reducible rfl
            try simp only [Act.put, List.setIfInBounds_toArray, List.set]
            refine PhaseIn.takeD (i := 8) (v := ?_) [8, 9, 10, 11, 12, 13, 14, 15, 16, 17, 18, 19, 20, 21, 22, 23, 24, 25] 63 rfl (by rfl) (by kernel_rfl) (by kernel_rfl) (by kernel_rfl) (by kernel_rfl) (by kernel_rfl) (fun _ _ _ h => h) (Or.inl ⟨by kernel_rfl, ?_⟩) hHeld ?_
            rotate_left
            · intro w' hSw
              (try dsimp only at hSw)
              go_simp
              first | done | with_reducible rfl
            try simp only [Act.put, List.setIfInBounds_toArray, List.set]
            refine PhaseIn.takeD (i := 9) (v := undef) [9, 10, 11, 15, 16, 17, 18, 19, 20, 21, 22, 23, 24, 25] 64 rfl (by rfl) (by kernel_rfl) (by kernel_rfl) (by kernel_rfl) (by kernel_rfl) (by kernel_rfl) (fun _ _ _ h => h) (Or.inr ⟨by kernel_rfl, rfl⟩) hHeld ?_
            try simp only [Act.put, List.setIfInBounds_toArray, List.set]
            refine PhaseIn.takeD (i := 10) (v := undef) [10, 11, 15, 16, 17, 18, 19, 20, 21, 22, 23, 24, 25] 65 rfl (by rfl) (by kernel_rfl) (by kernel_rfl) (by kernel_rfl) (by kernel_rfl) (by kernel_rfl) (fun _ _ _ h => h) (Or.inr ⟨by kernel_rfl, rfl⟩) hHeld ?_
            try simp only [Act.put, List.setIfInBounds_toArray, List.set]
            refine PhaseIn.takeD (i := 11) (v := undef) [11, 15, 16, 17, 18, 19, 20, 21, 22, 23, 24, 25] 66 rfl (by rfl) (by kernel_rfl) (by kernel_rfl) (by kernel_rfl) (by kernel_rfl) (by kernel_rfl) (fun _ _ _ h => h) (Or.inr ⟨by kernel_rfl, rfl⟩) hHeld ?_
            try simp only [Act.put, List.setIfInBounds_toArray, List.set]
            refine PhaseIn.takeD (i := 12) (v := undef) [12, 13, 14, 15, 16, 17, 18, 19, 20, 21, 22, 23, 24, 25] 67 rfl (by rfl) (by kernel_rfl) (by kernel_rfl) (by kernel_rfl) (by kernel_rfl) (by kernel_rfl) (fun _ _ _ h => h) (Or.inr ⟨by kernel_rfl, rfl⟩) hHeld ?_
            try simp only [Act.put, List.setIfInBounds_toArray, List.set]
            refine PhaseIn.takeD (i := 13) (v := undef) [13, 14, 15, 16, 17, 18, 19, 20, 21, 22, 23, 24, 25] 68 rfl (by rfl) (by kernel_rfl) (by kernel_rfl) (by kernel_rfl) (by kernel_rfl) (by kernel_rfl) (fun _ _ _ h => h) (Or.inr ⟨by kernel_rfl, rfl⟩) hHeld ?_
            try simp only [Act.put, List.setIfInBounds_toArray, List.set]
            refine PhaseIn.takeD (i := 14) (v := undef) [14, 15, 16, 17, 18, 19, 20, 21, 22, 23, 24, 25] 69 rfl (by rfl) (by kernel_rfl) (by kernel_rfl) (by kernel_rfl) (by kernel_rfl) (by kernel_rfl) (fun _ _ _ h => h) (Or.inr ⟨by kernel_rfl, rfl⟩) hHeld ?_
            try simp only [Act.put, List.setIfInBounds_toArray, List.set]
            refine PhaseIn.takeD (i := 15) (v := undef) [15, 16, 17, 18, 19, 20, 21, 22, 23, 24, 25] 70 rfl (by rfl) (by kernel_rfl) (by kernel_rfl) (by kernel_rfl) (by kernel_rfl) (by kernel_rfl) (fun _ _ _ h => h) (Or.inr ⟨by kernel_rfl, rfl⟩) hHeld ?_
            try simp only [Act.put, List.setIfInBounds_toArray, List.set]
            refine PhaseIn.takeD (i := 16) (v := undef) [16, 17, 18, 19, 20, 21, 22, 23, 24, 25] 71 rfl (by rfl) (by kernel_rfl) (by kernel_rfl) (by kernel_rfl) (by kernel_rfl) (by kernel_rfl) (fun _ _ _ h => h) (Or.inr ⟨by kernel_rfl, rfl⟩) hHeld ?_
            try simp only [Act.put, List.setIfInBounds_toArray, List.set]
            refine PhaseIn.takeD (i := 17) (v := ?_) [17, 18, 19, 20, 21, 22, 23, 24, 25] 72 rfl (by rfl) (by kernel_rfl) (by kernel_rfl) (by kernel_rfl) (by kernel_rfl) (by kernel_rfl) (fun _ _ _ h => h) (Or.inl ⟨by kernel_rfl, ?_⟩) hHeld ?_
            rotate_left
            · intro w' hSw
              (try dsimp only at hSw)
              go_simp
              first | done | with_reducible rfl
            try simp only [Act.put, List.setIfInBounds_toArray, List.set]
            refine PhaseIn.takeD (i := 18) (v := ?_) [18, 19, 20, 21, 22, 23, 24, 25] 73 rfl (by rfl) (by kernel_rfl) (by kernel_rfl) (by kernel_rfl) (by kernel_rfl) (by kernel_rfl) (fun _ _ _ h => h) (Or.inl ⟨by kernel_rfl, ?_⟩) hHeld ?_
            rotate_left
            · intro w' hSw
              (try dsimp only at hSw)
              go_simp
              first | done | with_reducible rfl
            try simp only [Act.put, List.setIfInBounds_toArray, List.set]
            refine PhaseIn.takeD (i := 19) (v := undef) [19, 20, 22, 23, 24, 25] 74 rfl (by rfl) (by kernel_rfl) (by kernel_rfl) (by kernel_rfl) (by kernel_rfl) (by kernel_rfl) (fun _ _ _ h => h) (Or.inr ⟨by kernel_rfl, rfl⟩) hHeld ?_
            try simp only [Act.put, List.setIfInBounds_toArray, List.set]
            refine PhaseIn.takeD (i := 20) (v := undef) [20, 22, 23, 24, 25] 75 rfl (by rfl) (by kernel_rfl) (by kernel_rfl) (by kernel_rfl) (by kernel_rfl) (by kernel_rfl) (fun _ _ _ h => h) (Or.inr ⟨by kernel_rfl, rfl⟩) hHeld ?_
            try simp only [Act.put, List.setIfInBounds_toArray, List.set]
            refine PhaseIn.takeD (i := 21) (v := undef) [21, 22, 23, 24, 25] 76 rfl (by rfl) (by kernel_rfl) (by kernel_rfl) (by kernel_rfl) (by kernel_rfl) (by kernel_rfl) (fun _ _ _ h => h) (Or.inr ⟨by kernel_rfl, rfl⟩) hHeld ?_
            try simp only [Act.put, List.setIfInBounds_toArray, List.set]
            refine PhaseIn.takeD (i := 22) (v := undef) [22, 23, 24, 25] 77 rfl (by rfl) (by kernel_rfl) (by kernel_rfl) (by kernel_rfl) (by kernel_rfl) (by kernel_rfl) (fun _ _ _ h => h) (Or.inr ⟨by kernel_rfl, rfl⟩) hHeld ?_
            try simp only [Act.put, List.setIfInBounds_toArray, List.set]
            refine PhaseIn.takeD (i := 23) (v := undef) [23, 24, 25] 78 rfl (by rfl) (by kernel_rfl) (by kernel_rfl) (by kernel_rfl) (by kernel_rfl) (by kernel_rfl) (fun _ _ _ h => h) (Or.inr ⟨by kernel_rfl, rfl⟩) hHeld ?_
            try simp only [Act.put, List.setIfInBounds_toArray, List.set]
            refine PhaseIn.takeD (i := 24) (v := undef) [24, 25] 79 rfl (by rfl) (by kernel_rfl) (by kernel_rfl) (by kernel_rfl) (by kernel_rfl) (by kernel_rfl) (fun _ _ _ h => h) (Or.inr ⟨by kernel_rfl, rfl⟩) hHeld ?_
            try simp only [Act.put, List.setIfInBounds_toArray, List.set]
            refine PhaseIn.takeD (i := 25) (v := ?_) [25] 80 rfl (by rfl) (by kernel_rfl) (by kernel_rfl) (by kernel_rfl) (by kernel_rfl) (by kernel_rfl) (fun _ _ _ h => h) (Or.inl ⟨by kernel_rfl, ?_⟩) hHeld ?_
            rotate_left
            · intro w' hSw
              (try dsimp only at hSw)
              go_simp
              first | done | with_reducible rfl
            try simp only [Act.put, List.setIfInBounds_toArray, List.set]
            refine PhaseIn.done (by kernel_rfl) ?_ _
            have S := hide hHeld
            clear hHeld
            go_wp2_with fail
            refine (La.laOk wv68).mono ?_
            rintro e wz ⟨rfl, rfl⟩
            have FIN := hide S.out.bw
            clear S
            go_wp2
            go_ret
            exact ⟨rfl, FIN.out⟩
          | true =>
            have hC := ok_len Ec.out
            have hD := ok_len Ed.out
            obtain ⟨m0, m1⟩ := prod_bd hC hD
            have kwm : IntKind.i64.wrap ((pc.length : Int) * (pd.length : Int)) = (pc.length : Int) * (pd.length : Int) := IntWalk.i64_in _ ⟨by omega, by omega⟩
            have q3 := deg_ok Ec.out
            have q4 := deg_ok Ed.out
            by_cases hp : (12 : Int) < (pc.length : Int) * (pd.length : Int)
            · have hpb : decide ((12 : Int) < (pc.length : Int) * (pd.length : Int)) = true := decide_eq_true hp
              refine (wpIn_wide (n := 0)).1 ?_
              have S2 := hide S.out.drew
              clear S
              refine PhaseIn.region (S := fun v => Pit w [(X4, .slice u4 pd.length k4, pd), (X3, .slice u3 pc.length k3, pc), (X2, .slice u2 pb.length k2, pb), (X1, .slice u1 pa.length k1, pa)] [] v) 26 (by kernel_rfl) ?_
              generalize wv23.drew = wv69 at *
              have hHeld := S2.out
              clear S2
              refine PhaseIn.takeD (i := 0) (v := ?_) [0, 1, 2, 3, 4, 5, 6, 7, 8, 9, 10, 11, 12, 13, 14, 15, 16, 17, 18, 19, 20, 21, 22, 23, 24, 25] 55 rfl (by rfl) (by kernel_rfl) (by kernel_rfl) (by kernel_rfl) (by kernel_rfl) (by kernel_rfl) (fun _ _ _ h => h) (Or.inl ⟨by kernel_rfl, ?_⟩) hHeld ?_
              rotate_left
              · intro w' hSw
                (try dsimp only at hSw)
                have z0 := (hSw.box (X3, .slice u3 pc.length k3, pc) (List.mem_cons_of_mem _ List.mem_cons_self)).1.cell 0 _ rfl
                go_simp
                first | done | with_reducible rfl
              try simp only [Act.put, List.setIfInBounds_toArray, List.set]
              obtain ⟨D0, d0⟩ := (hHeld.box (X3, .slice u3 pc.length k3, pc) (List.mem_cons_of_mem _ List.mem_cons_self)).2
              refine PhaseIn.one (i := 1) (by kernel_rfl) rfl (by kernel_rfl) (fun K hK => ?_)
              unfold Oper.wpIn
              refine ⟨fun _ _ => trivial, ?_⟩
              go_simp
              refine ⟨rfl, (callsIn_wide.2 (specOk pc D0 _ wv69 d0)).mono ?_⟩
              rintro e wv70 ⟨he, hb⟩
              rw [Ec.out] at he
              subst he
              clear d0
              replace hHeld := hHeld.below hb
              clear hb
              refine hK _ _ (fun _ => hHeld) ?_
              clear hK K
              try simp only [Act.put, List.setIfInBounds_toArray, List.set]
              refine PhaseIn.takeD (i := 2) (v := ?_) [2, 3, 4, 5, 6, 7, 8, 9, 10, 11, 12, 13, 14, 15, 16, 17, 18, 19, 20, 21, 22, 23, 24, 25] 57 rfl (by rfl) (by kernel_rfl) (by kernel_rfl) (by kernel_rfl) (by kernel_rfl) (by kernel_rfl) (fun _ _ _ h => h) (Or.inl ⟨by kernel_rfl, ?_⟩) hHeld ?_
              rotate_left
              · intro w' hSw
                (try dsimp only at hSw)
                go_simp
                first | done | with_reducible rfl
              try simp only [Act.put, List.setIfInBounds_toArray, List.set]
              refine PhaseIn.takeD (i := 3) (v := ?_) [3, 4, 5, 6, 7, 8, 9, 10, 11, 12, 13, 14, 15, 16, 17, 18, 19, 20, 21, 22, 23, 24, 25] 58 rfl (by rfl) (by kernel_rfl) (by kernel_rfl) (by kernel_rfl) (by kernel_rfl) (by kernel_rfl) (fun _ _ _ h => h) (Or.inl ⟨by kernel_rfl, ?_⟩) hHeld ?_
              rotate_left
              · intro w' hSw
                (try dsimp only at hSw)
                go_simp
                first | done | with_reducible rfl
              try simp only [Act.put, List.setIfInBounds_toArray, List.set]
              refine PhaseIn.takeD (i := 4) (v := ?_) [4, 5, 6, 7, 8, 9, 10, 11, 12, 13, 14, 15, 16, 17, 18, 19, 20, 21, 22, 23, 24, 25] 59 rfl (by rfl) (by kernel_rfl) (by kernel_rfl) (by kernel_rfl) (by kernel_rfl) (by kernel_rfl) (fun _ _ _ h => h) (Or.inl ⟨by kernel_rfl, ?_⟩) hHeld ?_
              rotate_left
              · intro w' hSw
                (try dsimp only at hSw)
                have z0 := (hSw.box (X4, .slice u4 pd.length k4, pd) List.mem_cons_self).1.cell 0 _ rfl
                go_simp
                first | done | with_reducible rfl
              try simp only [Act.put, List.setIfInBounds_toArray, List.set]
              obtain ⟨D0, d0⟩ := (hHeld.box (X4, .slice u4 pd.length k4, pd) List.mem_cons_self).2
              refine PhaseIn.one (i := 5) (by kernel_rfl) rfl (by kernel_rfl) (fun K hK => ?_)
              unfold Oper.wpIn
              refine ⟨fun _ _ => trivial, ?_⟩
              go_simp
              refine ⟨rfl, (callsIn_wide.2 (specOk pd D0 _ wv70 d0)).mono ?_⟩
              rintro e wv71 ⟨he, hb⟩
              rw [Ed.out] at he
              subst he
              clear d0
              replace hHeld := hHeld.below hb
              clear hb
              refine hK _ _ (fun _ => hHeld) ?_
              clear hK K
              try simp only [Act.put, List.setIfInBounds_toArray, List.set]
              refine PhaseIn.takeD (i := 6) (v := ?_) [6, 7, 8, 9, 10, 11, 12, 13, 14, 15, 16, 17, 18, 19, 20, 21, 22, 23, 24, 25] 61 rfl (by rfl) (by kernel_rfl) (by kernel_rfl) (by kernel_rfl) (by kernel_rfl) (by kernel_rfl) (fun _ _ _ h => h) (Or.inl ⟨by kernel_rfl, ?_⟩) hHeld ?_
              rotate_left
              · intro w' hSw
                (try dsimp only at hSw)
                go_simp
                first | done | with_reducible rfl
              try simp only [Act.put, List.setIfInBounds_toArray, List.set]
              refine PhaseIn.takeD (i := 7) (v := ?_) [7, 8, 9, 10, 11, 12, 13, 14, 15, 16, 17, 18, 19, 20, 21, 22, 23, 24, 25] 62 rfl (by rfl) (by kernel_rfl) (by kernel_rfl) (by kernel_rfl) (by kernel_rfl) (by kernel_rfl) (fun _ _ _ h => h) (Or.inl ⟨by kernel_rfl, ?_⟩) hHeld ?_
              rotate_left
              · intro w' hSw
                (try dsimp only at hSw)
                go_simp
                first | done | with_reducible rfl
              try simp only [Act.put, List.setIfInBounds_toArray, List.set]
              refine PhaseIn.takeD (i := 8) (v := ?_) [8, 9, 10, 11, 12, 13, 14, 15, 16, 17, 18, 19, 20, 21, 22, 23, 24, 25] 63 rfl (by rfl) (by kernel_rfl) (by kernel_rfl) (by kernel_rfl) (by kernel_rfl) (by kernel_rfl) (fun _ _ _ h => h) (Or.inl ⟨by kernel_rfl, ?_⟩) hHeld ?_
              rotate_left
              · intro w' hSw
                (try dsimp only at hSw)
                go_simp
                first | done | with_reducible rfl
              try simp only [Act.put, List.setIfInBounds_toArray, List.set]
              refine PhaseIn.takeD (i := 9) (v := ?_) [9, 10, 11, 15, 16, 17, 18, 19, 20, 21, 22, 23, 24, 25] 64 rfl (by rfl) (by kernel_rfl) (by kernel_rfl) (by kernel_rfl) (by kernel_rfl) (by kernel_rfl) (fun _ _ _ h => h) (Or.inl ⟨by kernel_rfl, ?_⟩) hHeld ?_
              rotate_left
              · intro w' hSw
                (try dsimp only at hSw)
                go_simp
                first | done | with_reducible rfl
              try simp only [Act.put, List.setIfInBounds_toArray, List.set]
              refine PhaseIn.takeD (i := 10) (v := ?_) [10, 11, 15, 16, 17, 18, 19, 20, 21, 22, 23, 24, 25] 65 rfl (by rfl) (by kernel_rfl) (by kernel_rfl) (by kernel_rfl) (by kernel_rfl) (by kernel_rfl) (fun _ _ _ h => h) (Or.inl ⟨by kernel_rfl, ?_⟩) hHeld ?_
              rotate_left
              · intro w' hSw
                (try dsimp only at hSw)
                have z0 := (hSw.box (X3, .slice u3 pc.length k3, pc) (List.mem_cons_of_mem _ List.mem_cons_self)).1.cell 0 _ rfl
                go_simp
                first | done | with_reducible rfl
              try simp only [Act.put, List.setIfInBounds_toArray, List.set]
              refine PhaseIn.takeD (i := 11) (v := ?_) [11, 15, 16, 17, 18, 19, 20, 21, 22, 23, 24, 25] 66 rfl (by rfl) (by kernel_rfl) (by kernel_rfl) (by kernel_rfl) (by kernel_rfl) (by kernel_rfl) (fun _ _ _ h => h) (Or.inl ⟨by kernel_rfl, ?_⟩) hHeld ?_
              rotate_left
              · intro w' hSw
                (try dsimp only at hSw)
                go_simp
                first | done | with_reducible rfl
              try simp only [Act.put, List.setIfInBounds_toArray, List.set]
              refine PhaseIn.takeD (i := 12) (v := ?_) [12, 13, 14, 15, 16, 17, 18, 19, 20, 21, 22, 23, 24, 25] 67 rfl (by rfl) (by kernel_rfl) (by kernel_rfl) (by kernel_rfl) (by kernel_rfl) (by kernel_rfl) (fun _ _ _ h => h) (Or.inl ⟨by kernel_rfl, ?_⟩) hHeld ?_
              rotate_left
              · intro w' hSw
                (try dsimp only at hSw)
                go_simp
                first | done | with_reducible rfl
              try simp only [Act.put, List.setIfInBounds_toArray, List.set]
              refine PhaseIn.takeD (i := 13) (v := ?_) [13, 14, 15, 16, 17, 18, 19, 20, 21, 22, 23, 24, 25] 68 rfl (by rfl) (by kernel_rfl) (by kernel_rfl) (by kernel_rfl) (by kernel_rfl) (by kernel_rfl) (fun _ _ _ h => h) (Or.inl ⟨by kernel_rfl, ?_⟩) hHeld ?_
              rotate_left
              · intro w' hSw
                (try dsimp only at hSw)
                have z0 := (hSw.box (X4, .slice u4 pd.length k4, pd) List.mem_cons_self).1.cell 0 _ rfl
                go_simp
                first | done | with_reducible rfl
              try simp only [Act.put, List.setIfInBounds_toArray, List.set]
              refine PhaseIn.takeD (i := 14) (v := ?_) [14, 15, 16, 17, 18, 19, 20, 21, 22, 23, 24, 25] 69 rfl (by rfl) (by kernel_rfl) (by kernel_rfl) (by kernel_rfl) (by kernel_rfl) (by kernel_rfl) (fun _ _ _ h => h) (Or.inl ⟨by kernel_rfl, ?_⟩) hHeld ?_
              rotate_left
              · intro w' hSw
                (try dsimp only at hSw)
                go_simp
                first | done | with_reducible rfl
              try simp only [Act.put, List.setIfInBounds_toArray, List.set]
              refine PhaseIn.takeD (i := 15) (v := (.int .i64 ((pc.length : Int) * (pd.length : Int)))) [15, 16, 17, 18, 19, 20, 21, 22, 23, 24, 25] 70 rfl (by rfl) (by kernel_rfl) (by kernel_rfl) (by kernel_rfl) (by kernel_rfl) (by kernel_rfl) (fun _ _ _ h => h) (Or.inl ⟨by kernel_rfl, ?_⟩) hHeld ?_
              · intro w' hSw
                (try dsimp only at hSw)
                go_simp
                first | done | with_reducible rfl | (rw [kwm]; done) | (simp [kwm]; done)
              try simp only [Act.put, List.setIfInBounds_toArray, List.set]
              refine PhaseIn.takeD (i := 16) (v := (.bool true)) [16, 17, 18, 19, 20, 21, 22, 23, 24, 25] 71 rfl (by rfl) (by kernel_rfl) (by kernel_rfl) (by kernel_rfl) (by kernel_rfl) (by kernel_rfl) (fun _ _ _ h => h) (Or.inl ⟨by kernel_rfl, ?_⟩) hHeld ?_
              · intro w' hSw
                (try dsimp only at hSw)
                go_simp
                first | done | with_reducible rfl
              try simp only [Act.put, List.setIfInBounds_toArray, List.set]
              refine PhaseIn.takeD (i := 17) (v := ?_) [17, 18, 19, 20, 21, 22, 23, 24, 25] 72 rfl (by rfl) (by kernel_rfl) (by kernel_rfl) (by kernel_rfl) (by kernel_rfl) (by kernel_rfl) (fun _ _ _ h => h) (Or.inl ⟨by kernel_rfl, ?_⟩) hHeld ?_
              rotate_left
              · intro w' hSw
                (try dsimp only at hSw)
                go_simp
                first | done | with_reducible rfl
              try simp only [Act.put, List.setIfInBounds_toArray, List.set]
              refine PhaseIn.takeD (i := 18) (v := ?_) [18, 19, 20, 21, 22, 23, 24, 25] 73 rfl (by rfl) (by kernel_rfl) (by kernel_rfl) (by kernel_rfl) (by kernel_rfl) (by kernel_rfl) (fun _ _ _ h => h) (Or.inl ⟨by kernel_rfl, ?_⟩) hHeld ?_
              rotate_left
              · intro w' hSw
                (try dsimp only at hSw)
                go_simp
                first | done | with_reducible rfl
              try simp only [Act.put, List.setIfInBounds_toArray, List.set]
              refine PhaseIn.takeD (i := 19) (v := undef) [19, 20, 22, 23, 24, 25] 74 rfl (by rfl) (by kernel_rfl) (by kernel_rfl) (by kernel_rfl) (by kernel_rfl) (by kernel_rfl) (fun _ _ _ h => h) (Or.inr ⟨by kernel_rfl, rfl⟩) hHeld ?_
              try simp only [Act.put, List.setIfInBounds_toArray, List.set]
              refine PhaseIn.takeD (i := 20) (v := undef) [20, 22, 23, 24, 25] 75 rfl (by rfl) (by kernel_rfl) (by kernel_rfl) (by kernel_rfl) (by kernel_rfl) (by kernel_rfl) (fun _ _ _ h => h) (Or.inr ⟨by kernel_rfl, rfl⟩) hHeld ?_
              try simp only [Act.put, List.setIfInBounds_toArray, List.set]
              refine PhaseIn.takeD (i := 21) (v := undef) [21, 22, 23, 24, 25] 76 rfl (by rfl) (by kernel_rfl) (by kernel_rfl) (by kernel_rfl) (by kernel_rfl) (by kernel_rfl) (fun _ _ _ h => h) (Or.inr ⟨by kernel_rfl, rfl⟩) hHeld ?_
              try simp only [Act.put, List.setIfInBounds_toArray, List.set]
              refine PhaseIn.takeD (i := 22) (v := undef) [22, 23, 24, 25] 77 rfl (by rfl) (by kernel_rfl) (by kernel_rfl) (by kernel_rfl) (by kernel_rfl) (by kernel_rfl) (fun _ _ _ h => h) (Or.inr ⟨by kernel_rfl, rfl⟩) hHeld ?_
              try simp only [Act.put, List.setIfInBounds_toArray, List.set]
              refine PhaseIn.takeD (i := 23) (v := undef) [23, 24, 25] 78 rfl (by rfl) (by kernel_rfl) (by kernel_rfl) (by kernel_rfl) (by kernel_rfl) (by kernel_rfl) (fun _ _ _ h => h) (Or.inr ⟨by kernel_rfl, rfl⟩) hHeld ?_
              try simp only [Act.put, List.setIfInBounds_toArray, List.set]
              refine PhaseIn.takeD (i := 24) (v := undef) [24, 25] 79 rfl (by rfl) (by kernel_rfl) (by kernel_rfl) (by kernel_rfl) (by kernel_rfl) (by kernel_rfl) (fun _ _ _ h => h) (Or.inr ⟨by kernel_rfl, rfl⟩) hHeld ?_
              try simp only [Act.put, List.setIfInBounds_toArray, List.set]
              refine PhaseIn.takeD (i := 25) (v := ?_) [25] 80 rfl (by rfl) (by kernel_rfl) (by kernel_rfl) (by kernel_rfl) (by kernel_rfl) (by kernel_rfl) (fun _ _ _ h => h) (Or.inl ⟨by kernel_rfl, ?_⟩) hHeld ?_
              rotate_left
              · intro w' hSw
                (try dsimp only at hSw)
                go_simp
                first | done | with_reducible rfl
              try simp only [Act.put, List.setIfInBounds_toArray, List.set]
              refine PhaseIn.done (by kernel_rfl) ?_ _
              have S := hide hHeld
              clear hHeld
              go_wp2_with fail
              refine (La.laOk wv71).mono ?_
              rintro e wz ⟨rfl, rfl⟩
              have FIN := hide S.out.bw
              clear S
              go_wp2
              go_ret
              exact ⟨rfl, FIN.out⟩
            · have hpb : decide ((12 : Int) < (pc.length : Int) * (pd.length : Int)) = false := decide_eq_false hp
              have HP := hide (prod_le hp)
              obtain ⟨dc, edc⟩ : ∃ dc, degL pc 0 = dc := ⟨_, rfl⟩
              obtain ⟨dd, edd⟩ : ∃ dd, degL pd 0 = dd := ⟨_, rfl⟩
              rw [edc] at q3
              rw [edd] at q4
              have kws : IntKind.i64.wrap ((dc : Int) + (dd : Int)) = (dc : Int) + (dd : Int) := IntWalk.i64_in _ ⟨by omega, by omega⟩
              have EDC := hide edc
              have EDD := hide edd
              clear edc edd
              by_cases hg : (4 : Int) < (dc : Int) + (dd : Int)
              · have hx := trivial
                refine (wpIn_wide (n := 0)).1 ?_
                have S2 := hide S.out.drew
                clear S
                refine PhaseIn.region (S := fun v => Pit w [(X4, .slice u4 pd.length k4, pd), (X3, .slice u3 pc.length k3, pc), (X2, .slice u2 pb.length k2, pb), (X1, .slice u1 pa.length k1, pa)] [] v) 26 (by kernel_rfl) ?_
                generalize wv23.drew = wv72 at *
                have hHeld := S2.out
                clear S2
                refine PhaseIn.takeD (i := 0) (v := ?_) [0, 1, 2, 3, 4, 5, 6, 7, 8, 9, 10, 11, 12, 13, 14, 15, 16, 17, 18, 19, 20, 21, 22, 23, 24, 25] 55 rfl (by rfl) (by kernel_rfl) (by kernel_rfl) (by kernel_rfl) (by kernel_rfl) (by kernel_rfl) (fun _ _ _ h => h) (Or.inl ⟨by kernel_rfl, ?_⟩) hHeld ?_
                rotate_left
                · intro w' hSw
                  (try dsimp only at hSw)
                  have z0 := (hSw.box (X3, .slice u3 pc.length k3, pc) (List.mem_cons_of_mem _ List.mem_cons_self)).1.cell 0 _ rfl
                  go_simp
                  first | done | with_reducible rfl
                try simp only [Act.put, List.setIfInBounds_toArray, List.set]
                obtain ⟨D0, d0⟩ := (hHeld.box (X3, .slice u3 pc.length k3, pc) (List.mem_cons_of_mem _ List.mem_cons_self)).2
                refine PhaseIn.one (i := 1) (by kernel_rfl) rfl (by kernel_rfl) (fun K hK => ?_)
                unfold Oper.wpIn
                refine ⟨fun _ _ => trivial, ?_⟩
                go_simp
                refine ⟨rfl, (callsIn_wide.2 (specOk pc D0 _ wv72 d0)).mono ?_⟩
                rintro e wv73 ⟨he, hb⟩
                rw [Ec.out] at he
                subst he
                clear d0
                replace hHeld := hHeld.below hb
                clear hb
                refine hK _ _ (fun _ => hHeld) ?_
                clear hK K
                try simp only [Act.put, List.setIfInBounds_toArray, List.set]
                refine PhaseIn.takeD (i := 2) (v := ?_) [2, 3, 4, 5, 6, 7, 8, 9, 10, 11, 12, 13, 14, 15, 16, 17, 18, 19, 20, 21, 22, 23, 24, 25] 57 rfl (by rfl) (by kernel_rfl) (by kernel_rfl) (by kernel_rfl) (by kernel_rfl) (by kernel_rfl) (fun _ _ _ h => h) (Or.inl ⟨by kernel_rfl, ?_⟩) hHeld ?_
                rotate_left
                · intro w' hSw
                  (try dsimp only at hSw)
                  go_simp
                  first | done | with_reducible rfl
                try simp only [Act.put, List.setIfInBounds_toArray, List.set]
                refine PhaseIn.takeD (i := 3) (v := ?_) [3, 4, 5, 6, 7, 8, 9, 10, 11, 12, 13, 14, 15, 16, 17, 18, 19, 20, 21, 22, 23, 24, 25] 58 rfl (by rfl) (by kernel_rfl) (by kernel_rfl) (by kernel_rfl) (by kernel_rfl) (by kernel_rfl) (fun _ _ _ h => h) (Or.inl ⟨by kernel_rfl, ?_⟩) hHeld ?_
                rotate_left
                · intro w' hSw
                  (try dsimp only at hSw)
                  go_simp
                  first | done | with_reducible rfl
                try simp only [Act.put, List.setIfInBounds_toArray, List.set]
                refine PhaseIn.takeD (i := 4) (v := ?_) [4, 5, 6, 7, 8, 9, 10, 11, 12, 13, 14, 15, 16, 17, 18, 19, 20, 21, 22, 23, 24, 25] 59 rfl (by rfl) (by kernel_rfl) (by kernel_rfl) (by kernel_rfl) (by kernel_rfl) (by kernel_rfl) (fun _ _ _ h => h) (Or.inl ⟨by kernel_rfl, ?_⟩) hHeld ?_
                rotate_left
                · intro w' hSw
                  (try dsimp only at hSw)
                  have z0 := (hSw.box (X4, .slice u4 pd.length k4, pd) List.mem_cons_self).1.cell 0 _ rfl
                  go_simp
                  first | done | with_reducible rfl
                try simp only [Act.put, List.setIfInBounds_toArray, List.set]
                obtain ⟨D0, d0⟩ := (hHeld.box (X4, .slice u4 pd.length k4, pd) List.mem_cons_self).2
                refine PhaseIn.one (i := 5) (by kernel_rfl) rfl (by kernel_rfl) (fun K hK => ?_)
                unfold Oper.wpIn
                refine ⟨fun _ _ => trivial, ?_⟩
                go_simp
                refine ⟨rfl, (callsIn_wide.2 (specOk pd D0 _ wv73 d0)).mono ?_⟩
                rintro e wv74 ⟨he, hb⟩
                rw [Ed.out] at he
                subst he
                clear d0
                replace hHeld := hHeld.below hb
                clear hb
                refine hK _ _ (fun _ => hHeld) ?_
                clear hK K
                try simp only [Act.put, List.setIfInBounds_toArray, List.set]
                refine PhaseIn.takeD (i := 6) (v := ?_) [6, 7, 8, 9, 10, 11, 12, 13, 14, 15, 16, 17, 18, 19, 20, 21, 22, 23, 24, 25] 61 rfl (by rfl) (by kernel_rfl) (by kernel_rfl) (by kernel_rfl) (by kernel_rfl) (by kernel_rfl) (fun _ _ _ h => h) (Or.inl ⟨by kernel_rfl, ?_⟩) hHeld ?_
                rotate_left
                · intro w' hSw
                  (try dsimp only at hSw)
                  go_simp
                  first | done | with_reducible rfl
                try simp only [Act.put, List.setIfInBounds_toArray, List.set]
                refine PhaseIn.takeD (i := 7) (v := ?_) [7, 8, 9, 10, 11, 12, 13, 14, 15, 16, 17, 18, 19, 20, 21, 22, 23, 24, 25] 62 rfl (by rfl) (by kernel_rfl) (by kernel_rfl) (by kernel_rfl) (by kernel_rfl) (by kernel_rfl) (fun _ _ _ h => h) (Or.inl ⟨by kernel_rfl, ?_⟩) hHeld ?_
                rotate_left
                · intro w' hSw
                  (try dsimp only at hSw)
                  go_simp
                  first | done | with_reducible rfl
                try simp only [Act.put, List.setIfInBounds_toArray, List.set]
                refine PhaseIn.takeD (i := 8) (v := ?_) [8, 9, 10, 11, 12, 13, 14, 15, 16, 17, 18, 19, 20, 21, 22, 23, 24, 25] 63 rfl (by rfl) (by kernel_rfl) (by kernel_rfl) (by kernel_rfl) (by kernel_rfl) (by kernel_rfl) (fun _ _ _ h => h) (Or.inl ⟨by kernel_rfl, ?_⟩) hHeld ?_
                rotate_left
                · intro w' hSw
                  (try dsimp only at hSw)
                  go_simp
                  first | done | with_reducible rfl
                try simp only [Act.put, List.setIfInBounds_toArray, List.set]
                refine PhaseIn.takeD (i := 9) (v := ?_) [9, 10, 11, 15, 16, 17, 18, 19, 20, 21, 22, 23, 24, 25] 64 rfl (by rfl) (by kernel_rfl) (by kernel_rfl) (by kernel_rfl) (by kernel_rfl) (by kernel_rfl) (fun _ _ _ h => h) (Or.inl ⟨by kernel_rfl, ?_⟩) hHeld ?_
                rotate_left
                · intro w' hSw
                  (try dsimp only at hSw)
                  go_simp
                  first | done | with_reducible rfl
                try simp only [Act.put, List.setIfInBounds_toArray, List.set]
                refine PhaseIn.takeD (i := 10) (v := ?_) [10, 11, 15, 16, 17, 18, 19, 20, 21, 22, 23, 24, 25] 65 rfl (by rfl) (by kernel_rfl) (by kernel_rfl) (by kernel_rfl) (by kernel_rfl) (by kernel_rfl) (fun _ _ _ h => h) (Or.inl ⟨by kernel_rfl, ?_⟩) hHeld ?_
                rotate_left
                · intro w' hSw
                  (try dsimp only at hSw)
                  have z0 := (hSw.box (X3, .slice u3 pc.length k3, pc) (List.mem_cons_of_mem _ List.mem_cons_self)).1.cell 0 _ rfl
                  go_simp
                  first | done | with_reducible rfl
                try simp only [Act.put, List.setIfInBounds_toArray, List.set]
                refine PhaseIn.takeD (i := 11) (v := ?_) [11, 15, 16, 17, 18, 19, 20, 21, 22, 23, 24, 25] 66 rfl (by rfl) (by kernel_rfl) (by kernel_rfl) (by kernel_rfl) (by kernel_rfl) (by kernel_rfl) (fun _ _ _ h => h) (Or.inl ⟨by kernel_rfl, ?_⟩) hHeld ?_
                rotate_left
                · intro w' hSw
                  (try dsimp only at hSw)
                  go_simp
                  first | done | with_reducible rfl
                try simp only [Act.put, List.setIfInBounds_toArray, List.set]
                refine PhaseIn.takeD (i := 12) (v := ?_) [12, 13, 14, 15, 16, 17, 18, 19, 20, 21, 22, 23, 24, 25] 67 rfl (by rfl) (by kernel_rfl) (by kernel_rfl) (by kernel_rfl) (by kernel_rfl) (by kernel_rfl) (fun _ _ _ h => h) (Or.inl ⟨by kernel_rfl, ?_⟩) hHeld ?_
                rotate_left
                · intro w' hSw
                  (try dsimp only at hSw)
                  go_simp
                  first | done | with_reducible rfl
                try simp only [Act.put, List.setIfInBounds_toArray, List.set]
                refine PhaseIn.takeD (i := 13) (v := ?_) [13, 14, 15, 16, 17, 18, 19, 20, 21, 22, 23, 24, 25] 68 rfl (by rfl) (by kernel_rfl) (by kernel_rfl) (by kernel_rfl) (by kernel_rfl) (by kernel_rfl) (fun _ _ _ h => h) (Or.inl ⟨by kernel_rfl, ?_⟩) hHeld ?_
                rotate_left
                · intro w' hSw
                  (try dsimp only at hSw)
                  have z0 := (hSw.box (X4, .slice u4 pd.length k4, pd) List.mem_cons_self).1.cell 0 _ rfl
                  go_simp
                  first | done | with_reducible rfl
                try simp only [Act.put, List.setIfInBounds_toArray, List.set]
                refine PhaseIn.takeD (i := 14) (v := ?_) [14, 15, 16, 17, 18, 19, 20, 21, 22, 23, 24, 25] 69 rfl (by rfl) (by kernel_rfl) (by kernel_rfl) (by kernel_rfl) (by kernel_rfl) (by kernel_rfl) (fun _ _ _ h => h) (Or.inl ⟨by kernel_rfl, ?_⟩) hHeld ?_
                rotate_left
                · intro w' hSw
                  (try dsimp only at hSw)
                  go_simp
                  first | done | with_reducible rfl
                try simp only [Act.put, List.setIfInBounds_toArray, List.set]
                refine PhaseIn.takeD (i := 15) (v := (.int .i64 ((pc.length : Int) * (pd.length : Int)))) [15, 16, 17, 18, 19, 20, 21, 22, 23, 24, 25] 70 rfl (by rfl) (by kernel_rfl) (by kernel_rfl) (by kernel_rfl) (by kernel_rfl) (by kernel_rfl) (fun _ _ _ h => h) (Or.inl ⟨by kernel_rfl, ?_⟩) hHeld ?_
                · intro w' hSw
                  (try dsimp only at hSw)
                  go_simp
                  first | done | with_reducible rfl | (rw [kwm]; done) | (simp [kwm]; done)
                try simp only [Act.put, List.setIfInBounds_toArray, List.set]
                refine PhaseIn.takeD (i := 16) (v := (.bool false)) [16, 17, 18, 19, 20, 21, 22, 23, 24, 25] 71 rfl (by rfl) (by kernel_rfl) (by kernel_rfl) (by kernel_rfl) (by kernel_rfl) (by kernel_rfl) (fun _ _ _ h => h) (Or.inl ⟨by kernel_rfl, ?_⟩) hHeld ?_
                · intro w' hSw
                  (try dsimp only at hSw)
                  go_simp
                  first | done | with_reducible rfl
                try simp only [Act.put, List.setIfInBounds_toArray, List.set]
                refine PhaseIn.takeD (i := 17) (v := ?_) [17, 18, 19, 20, 21, 22, 23, 24, 25] 72 rfl (by rfl) (by kernel_rfl) (by kernel_rfl) (by kernel_rfl) (by kernel_rfl) (by kernel_rfl) (fun _ _ _ h => h) (Or.inl ⟨by kernel_rfl, ?_⟩) hHeld ?_
                rotate_left
                · intro w' hSw
                  (try dsimp only at hSw)
                  go_simp
                  first | done | with_reducible rfl
                try simp only [Act.put, List.setIfInBounds_toArray, List.set]
                refine PhaseIn.takeD (i := 18) (v := ?_) [18, 19, 20, 21, 22, 23, 24, 25] 73 rfl (by rfl) (by kernel_rfl) (by kernel_rfl) (by kernel_rfl) (by kernel_rfl) (by kernel_rfl) (fun _ _ _ h => h) (Or.inl ⟨by kernel_rfl, ?_⟩) hHeld ?_
                rotate_left
                · intro w' hSw
                  (try dsimp only at hSw)
                  go_simp
                  first | done | with_reducible rfl
                try simp only [Act.put, List.setIfInBounds_toArray, List.set]
                refine PhaseIn.takeD (i := 19) (v := ?_) [19, 20, 22, 23, 24, 25] 74 rfl (by rfl) (by kernel_rfl) (by kernel_rfl) (by kernel_rfl) (by kernel_rfl) (by kernel_rfl) (fun _ _ _ h => h) (Or.inl ⟨by kernel_rfl, ?_⟩) hHeld ?_
                rotate_left
                · intro w' hSw
                  (try dsimp only at hSw)
                  have z0 := (hSw.box (X3, .slice u3 pc.length k3, pc) (List.mem_cons_of_mem _ List.mem_cons_self)).1.cell 0 _ rfl
                  go_simp
                  first | done | with_reducible rfl
                try simp only [Act.put, List.setIfInBounds_toArray, List.set]
                refine PhaseIn.takeD (i := 21) (v := ?_) [21, 22, 23, 24, 25] 76 rfl (by rfl) (by kernel_rfl) (by kernel_rfl) (by kernel_rfl) (by kernel_rfl) (by kernel_rfl) (fun _ _ _ h => h) (Or.inl ⟨by kernel_rfl, ?_⟩) hHeld ?_
                rotate_left
                · intro w' hSw
                  (try dsimp only at hSw)
                  have z0 := (hSw.box (X4, .slice u4 pd.length k4, pd) List.mem_cons_self).1.cell 0 _ rfl
                  go_simp
                  first | done | with_reducible rfl
                try simp only [Act.put, List.setIfInBounds_toArray, List.set]
                obtain ⟨D0, d0⟩ := (hHeld.box (X3, .slice u3 pc.length k3, pc) (List.mem_cons_of_mem _ List.mem_cons_self)).2
                refine PhaseIn.one (i := 20) (by kernel_rfl) rfl (by kernel_rfl) (fun K hK => ?_)
                unfold Oper.wpIn
                refine ⟨fun _ _ => trivial, ?_⟩
                go_simp
                refine ⟨rfl, (callsIn_wide.2 (La.laDeg pc D0 _ wv74 d0)).mono ?_⟩
                rintro e wv75 ⟨he, hb⟩
                rw [EDC.out] at he
                subst he
                clear d0
                replace hHeld := hHeld.below hb
                clear hb
                refine hK _ _ (fun _ => hHeld) ?_
                clear hK K
                try simp only [Act.put, List.setIfInBounds_toArray, List.set]
                obtain ⟨D1, d1⟩ := (hHeld.box (X4, .slice u4 pd.length k4, pd) List.mem_cons_self).2
                refine PhaseIn.one (i := 22) (by kernel_rfl) rfl (by kernel_rfl) (fun K hK => ?_)
                unfold Oper.wpIn
                refine ⟨fun _ _ => trivial, ?_⟩
                go_simp
                refine ⟨rfl, (callsIn_wide.2 (La.laDeg pd D1 _ wv75 d1)).mono ?_⟩
                rintro e wv76 ⟨he, hb⟩
                rw [EDD.out] at he
                subst he
                clear d1
                replace hHeld := hHeld.below hb
                clear hb
                refine hK _ _ (fun _ => hHeld) ?_
                clear hK K
                try simp only [Act.put, List.setIfInBounds_toArray, List.set]
                refine PhaseIn.takeD (i := 23) (v := (.int .i64 ((dc : Int) + (dd : Int)))) [23, 24, 25] 78 rfl (by rfl) (by kernel_rfl) (by kernel_rfl) (by kernel_rfl) (by kernel_rfl) (by kernel_rfl) (fun _ _ _ h => h) (Or.inl ⟨by kernel_rfl, ?_⟩) hHeld ?_
                · intro w' hSw
                  (try dsimp only at hSw)
                  go_simp
                  first | done | with_reducible rfl | (rw [kws]; done) | (simp [kws]; done) | omega
                try simp only [Act.put, List.setIfInBounds_toArray, List.set]
                refine PhaseIn.takeD (i := 24) (v := ?_) [24, 25] 79 rfl (by rfl) (by kernel_rfl) (by kernel_rfl) (by kernel_rfl) (by kernel_rfl) (by kernel_rfl) (fun _ _ _ h => h) (Or.inl ⟨by kernel_rfl, ?_⟩) hHeld ?_
                rotate_left
                · intro w' hSw
                  (try dsimp only at hSw)
                  go_simp
                  first | done | with_reducible rfl
                try simp only [Act.put, List.setIfInBounds_toArray, List.set]
                refine PhaseIn.takeD (i := 25) (v := ?_) [25] 80 rfl (by rfl) (by kernel_rfl) (by kernel_rfl) (by kernel_rfl) (by kernel_rfl) (by kernel_rfl) (fun _ _ _ h => h) (Or.inl ⟨by kernel_rfl, ?_⟩) hHeld ?_
                rotate_left
                · intro w' hSw
                  (try dsimp only at hSw)
                  go_simp
                  first | done | with_reducible rfl
                try simp only [Act.put, List.setIfInBounds_toArray, List.set]
                refine PhaseIn.done (by kernel_rfl) ?_ _
                have S := hide hHeld
                clear hHeld
                go_wp2_with fail
                refine (La.laOk wv76).mono ?_
                rintro e wz ⟨rfl, rfl⟩
                have FIN := hide S.out.bw
                clear S
                go_wp2
                go_ret
                exact ⟨rfl, FIN.out⟩
              · have hx := trivial
                have HF := hide (mul_fit Ec.out Ed.out HP.out (by rw [EDC.out, EDD.out]; omega))
                refine (wpIn_wide (n := 0)).1 ?_
                have S2 := hide S.out.drew
                clear S
                refine PhaseIn.region (S := fun v => Pit w [(X4, .slice u4 pd.length k4, pd), (X3, .slice u3 pc.length k3, pc), (X2, .slice u2 pb.length k2, pb), (X1, .slice u1 pa.length k1, pa)] [] v) 26 (by kernel_rfl) ?_
                generalize wv23.drew = wv77 at *
                have hHeld := S2.out
                clear S2
                refine PhaseIn.takeD (i := 0) (v := ?_) [0, 1, 2, 3, 4, 5, 6, 7, 8, 9, 10, 11, 12, 13, 14, 15, 16, 17, 18, 19, 20, 21, 22, 23, 24, 25] 55 rfl (by rfl) (by kernel_rfl) (by kernel_rfl) (by kernel_rfl) (by kernel_rfl) (by kernel_rfl) (fun _ _ _ h => h) (Or.inl ⟨by kernel_rfl, ?_⟩) hHeld ?_
                rotate_left
                · intro w' hSw
                  (try dsimp only at hSw)
                  have z0 := (hSw.box (X3, .slice u3 pc.length k3, pc) (List.mem_cons_of_mem _ List.mem_cons_self)).1.cell 0 _ rfl
                  go_simp
                  first | done | with_reducible rfl
                try simp only [Act.put, List.setIfInBounds_toArray, List.set]
                obtain ⟨D0, d0⟩ := (hHeld.box (X3, .slice u3 pc.length k3, pc) (List.mem_cons_of_mem _ List.mem_cons_self)).2
                refine PhaseIn.one (i := 1) (by kernel_rfl) rfl (by kernel_rfl) (fun K hK => ?_)
                unfold Oper.wpIn
                refine ⟨fun _ _ => trivial, ?_⟩
                go_simp
                refine ⟨rfl, (callsIn_wide.2 (specOk pc D0 _ wv77 d0)).mono ?_⟩
                rintro e wv78 ⟨he, hb⟩
                rw [Ec.out] at he
                subst he
                clear d0
                replace hHeld := hHeld.below hb
                clear hb
                refine hK _ _ (fun _ => hHeld) ?_
                clear hK K
                try simp only [Act.put, List.setIfInBounds_toArray, List.set]
                refine PhaseIn.takeD (i := 2) (v := ?_) [2, 3, 4, 5, 6, 7, 8, 9, 10, 11, 12, 13, 14, 15, 16, 17, 18, 19, 20, 21, 22, 23, 24, 25] 57 rfl (by rfl) (by kernel_rfl) (by kernel_rfl) (by kernel_rfl) (by kernel_rfl) (by kernel_rfl) (fun _ _ _ h => h) (Or.inl ⟨by kernel_rfl, ?_⟩) hHeld ?_
                rotate_left
                · intro w' hSw
                  (try dsimp only at hSw)
                  go_simp
                  first | done | with_reducible rfl
                try simp only [Act.put, List.setIfInBounds_toArray, List.set]
                refine PhaseIn.takeD (i := 3) (v := ?_) [3, 4, 5, 6, 7, 8, 9, 10, 11, 12, 13, 14, 15, 16, 17, 18, 19, 20, 21, 22, 23, 24, 25] 58 rfl (by rfl) (by kernel_rfl) (by kernel_rfl) (by kernel_rfl) (by kernel_rfl) (by kernel_rfl) (fun _ _ _ h => h) (Or.inl ⟨by kernel_rfl, ?_⟩) hHeld ?_
                rotate_left
                · intro w' hSw
                  (try dsimp only at hSw)
                  go_simp
                  first | done | with_reducible rfl
                try simp only [Act.put, List.setIfInBounds_toArray, List.set]
                refine PhaseIn.takeD (i := 4) (v := ?_) [4, 5, 6, 7, 8, 9, 10, 11, 12, 13, 14, 15, 16, 17, 18, 19, 20, 21, 22, 23, 24, 25] 59 rfl (by rfl) (by kernel_rfl) (by kernel_rfl) (by kernel_rfl) (by kernel_rfl) (by kernel_rfl) (fun _ _ _ h => h) (Or.inl ⟨by kernel_rfl, ?_⟩) hHeld ?_
                rotate_left
                · intro w' hSw
                  (try dsimp only at hSw)
                  have z0 := (hSw.box (X4, .slice u4 pd.length k4, pd) List.mem_cons_self).1.cell 0 _ rfl
                  go_simp
                  first | done | with_reducible rfl
                try simp only [Act.put, List.setIfInBounds_toArray, List.set]
                obtain ⟨D0, d0⟩ := (hHeld.box (X4, .slice u4 pd.length k4, pd) List.mem_cons_self).2
                refine PhaseIn.one (i := 5) (by kernel_rfl) rfl (by kernel_rfl) (fun K hK => ?_)
                unfold Oper.wpIn
                refine ⟨fun _ _ => trivial, ?_⟩
                go_simp
                refine ⟨rfl, (callsIn_wide.2 (specOk pd D0 _ wv78 d0)).mono ?_⟩
                rintro e wv79 ⟨he, hb⟩
                rw [Ed.out] at he
                subst he
                clear d0
                replace hHeld := hHeld.below hb
                clear hb
                refine hK _ _ (fun _ => hHeld) ?_
                clear hK K
                try simp only [Act.put, List.setIfInBounds_toArray, List.set]
                refine PhaseIn.takeD (i := 6) (v := ?_) [6, 7, 8, 9, 10, 11, 12, 13, 14, 15, 16, 17, 18, 19, 20, 21, 22, 23, 24, 25] 61 rfl (by rfl) (by kernel_rfl) (by kernel_rfl) (by kernel_rfl) (by kernel_rfl) (by kernel_rfl) (fun _ _ _ h => h) (Or.inl ⟨by kernel_rfl, ?_⟩) hHeld ?_
                rotate_left
                · intro w' hSw
                  (try dsimp only at hSw)
                  go_simp
                  first | done | with_reducible rfl
                try simp only [Act.put, List.setIfInBounds_toArray, List.set]
                refine PhaseIn.takeD (i := 7) (v := ?_) [7, 8, 9, 10, 11, 12, 13, 14, 15, 16, 17, 18, 19, 20, 21, 22, 23, 24, 25] 62 rfl (by rfl) (by kernel_rfl) (by kernel_rfl) (by kernel_rfl) (by kernel_rfl) (by kernel_rfl) (fun _ _ _ h => h) (Or.inl ⟨by kernel_rfl, ?_⟩) hHeld ?_
                rotate_left
                · intro w' hSw
                  (try dsimp only at hSw)
                  go_simp
                  first | done | with_reducible rfl
                try simp only [Act.put, List.setIfInBounds_toArray, List.set]
                refine PhaseIn.takeD (i := 8) (v := ?_) [8, 9, 10, 11, 12, 13, 14, 15, 16, 17, 18, 19, 20, 21, 22, 23, 24, 25] 63 rfl (by rfl) (by kernel_rfl) (by kernel_rfl) (by kernel_rfl) (by kernel_rfl) (by kernel_rfl) (fun _ _ _ h => h) (Or.inl ⟨by kernel_rfl, ?_⟩) hHeld ?_
                rotate_left
                · intro w' hSw
                  (try dsimp only at hSw)
                  go_simp
                  first | done | with_reducible rfl
                try simp only [Act.put, List.setIfInBounds_toArray, List.set]
                refine PhaseIn.takeD (i := 9) (v := ?_) [9, 10, 11, 15, 16, 17, 18, 19, 20, 21, 22, 23, 24, 25] 64 rfl (by rfl) (by kernel_rfl) (by kernel_rfl) (by kernel_rfl) (by kernel_rfl) (by kernel_rfl) (fun _ _ _ h => h) (Or.inl ⟨by kernel_rfl, ?_⟩) hHeld ?_
                rotate_left
                · intro w' hSw
                  (try dsimp only at hSw)
                  go_simp
                  first | done | with_reducible rfl
                try simp only [Act.put, List.setIfInBounds_toArray, List.set]
                refine PhaseIn.takeD (i := 10) (v := ?_) [10, 11, 15, 16, 17, 18, 19, 20, 21, 22, 23, 24, 25] 65 rfl (by rfl) (by kernel_rfl) (by kernel_rfl) (by kernel_rfl) (by kernel_rfl) (by kernel_rfl) (fun _ _ _ h => h) (Or.inl ⟨by kernel_rfl, ?_⟩) hHeld ?_
                rotate_left
                · intro w' hSw
                  (try dsimp only at hSw)
                  have z0 := (hSw.box (X3, .slice u3 pc.length k3, pc) (List.mem_cons_of_mem _ List.mem_cons_self)).1.cell 0 _ rfl
                  go_simp
                  first | done | with_reducible rfl
                try simp only [Act.put, List.setIfInBounds_toArray, List.set]
                refine PhaseIn.takeD (i := 11) (v := ?_) [11, 15, 16, 17, 18, 19, 20, 21, 22, 23, 24, 25] 66 rfl (by rfl) (by kernel_rfl) (by kernel_rfl) (by kernel_rfl) (by kernel_rfl) (by kernel_rfl) (fun _ _ _ h => h) (Or.inl ⟨by kernel_rfl, ?_⟩) hHeld ?_
                rotate_left
                · intro w' hSw
                  (try dsimp only at hSw)
                  go_simp
                  first | done | with_reducible rfl
                try simp only [Act.put, List.setIfInBounds_toArray, List.set]
                refine PhaseIn.takeD (i := 12) (v := ?_) [12, 13, 14, 15, 16, 17, 18, 19, 20, 21, 22, 23, 24, 25] 67 rfl (by rfl) (by kernel_rfl) (by kernel_rfl) (by kernel_rfl) (by kernel_rfl) (by kernel_rfl) (fun _ _ _ h => h) (Or.inl ⟨by kernel_rfl, ?_⟩) hHeld ?_
                rotate_left
                · intro w' hSw
                  (try dsimp only at hSw)
                  go_simp
                  first | done | with_reducible rfl
                try simp only [Act.put, List.setIfInBounds_toArray, List.set]
                refine PhaseIn.takeD (i := 13) (v := ?_) [13, 14, 15, 16, 17, 18, 19, 20, 21, 22, 23, 24, 25] 68 rfl (by rfl) (by kernel_rfl) (by kernel_rfl) (by kernel_rfl) (by kernel_rfl) (by kernel_rfl) (fun _ _ _ h => h) (Or.inl ⟨by kernel_rfl, ?_⟩) hHeld ?_
                rotate_left
                · intro w' hSw
                  (try dsimp only at hSw)
                  have z0 := (hSw.box (X4, .slice u4 pd.length k4, pd) List.mem_cons_self).1.cell 0 _ rfl
                  go_simp
                  first | done | with_reducible rfl
                try simp only [Act.put, List.setIfInBounds_toArray, List.set]
                refine PhaseIn.takeD (i := 14) (v := ?_) [14, 15, 16, 17, 18, 19, 20, 21, 22, 23, 24, 25] 69 rfl (by rfl) (by kernel_rfl) (by kernel_rfl) (by kernel_rfl) (by kernel_rfl) (by kernel_rfl) (fun _ _ _ h => h) (Or.inl ⟨by kernel_rfl, ?_⟩) hHeld ?_
                rotate_left
                · intro w' hSw
                  (try dsimp only at hSw)
                  go_simp
                  first | done | with_reducible rfl
                try simp only [Act.put, List.setIfInBounds_toArray, List.set]
                refine PhaseIn.takeD (i := 15) (v := (.int .i64 ((pc.length : Int) * (pd.length : Int)))) [15, 16, 17, 18, 19, 20, 21, 22, 23, 24, 25] 70 rfl (by rfl) (by kernel_rfl) (by kernel_rfl) (by kernel_rfl) (by kernel_rfl) (by kernel_rfl) (fun _ _ _ h => h) (Or.inl ⟨by kernel_rfl, ?_⟩) hHeld ?_
                · intro w' hSw
                  (try dsimp only at hSw)
                  go_simp
                  first | done | with_reducible rfl | (rw [kwm]; done) | (simp [kwm]; done)
                try simp only [Act.put, List.setIfInBounds_toArray, List.set]
                refine PhaseIn.takeD (i := 16) (v := (.bool false)) [16, 17, 18, 19, 20, 21, 22, 23, 24, 25] 71 rfl (by rfl) (by kernel_rfl) (by kernel_rfl) (by kernel_rfl) (by kernel_rfl) (by kernel_rfl) (fun _ _ _ h => h) (Or.inl ⟨by kernel_rfl, ?_⟩) hHeld ?_
                · intro w' hSw
                  (try dsimp only at hSw)
                  go_simp
                  first | done | with_reducible rfl
                try simp only [Act.put, List.setIfInBounds_toArray, List.set]
                refine PhaseIn.takeD (i := 17) (v := ?_) [17, 18, 19, 20, 21, 22, 23, 24, 25] 72 rfl (by rfl) (by kernel_rfl) (by kernel_rfl) (by kernel_rfl) (by kernel_rfl) (by kernel_rfl) (fun _ _ _ h => h) (Or.inl ⟨by kernel_rfl, ?_⟩) hHeld ?_
                rotate_left
                · intro w' hSw
                  (try dsimp only at hSw)
                  go_simp
                  first | done | with_reducible rfl
                try simp only [Act.put, List.setIfInBounds_toArray, List.set]
                refine PhaseIn.takeD (i := 18) (v := ?_) [18, 19, 20, 21, 22, 23, 24, 25] 73 rfl (by rfl) (by kernel_rfl) (by kernel_rfl) (by kernel_rfl) (by kernel_rfl) (by kernel_rfl) (fun _ _ _ h => h) (Or.inl ⟨by kernel_rfl, ?_⟩) hHeld ?_
                rotate_left
                · intro w' hSw
                  (try dsimp only at hSw)
                  go_simp
                  first | done | with_reducible rfl
                try simp only [Act.put, List.setIfInBounds_toArray, List.set]
                refine PhaseIn.takeD (i := 19) (v := ?_) [19, 20, 22, 23, 24, 25] 74 rfl (by rfl) (by kernel_rfl) (by kernel_rfl) (by kernel_rfl) (by kernel_rfl) (by kernel_rfl) (fun _ _ _ h => h) (Or.inl ⟨by kernel_rfl, ?_⟩) hHeld ?_
                rotate_left
                · intro w' hSw
                  (try dsimp only at hSw)
                  have z0 := (hSw.box (X3, .slice u3 pc.length k3, pc) (List.mem_cons_of_mem _ List.mem_cons_self)).1.cell 0 _ rfl
                  go_simp
                  first | done | with_reducible rfl
                try simp only [Act.put, List.setIfInBounds_toArray, List.set]
                refine PhaseIn.takeD (i := 21) (v := ?_) [21, 22, 23, 24, 25] 76 rfl (by rfl) (by kernel_rfl) (by kernel_rfl) (by kernel_rfl) (by kernel_rfl) (by kernel_rfl) (fun _ _ _ h => h) (Or.inl ⟨by kernel_rfl, ?_⟩) hHeld ?_
                rotate_left
                · intro w' hSw
                  (try dsimp only at hSw)
                  have z0 := (hSw.box (X4, .slice u4 pd.length k4, pd) List.mem_cons_self).1.cell 0 _ rfl
                  go_simp
                  first | done | with_reducible rfl
                try simp only [Act.put, List.setIfInBounds_toArray, List.set]
                obtain ⟨D0, d0⟩ := (hHeld.box (X3, .slice u3 pc.length k3, pc) (List.mem_cons_of_mem _ List.mem_cons_self)).2
                refine PhaseIn.one (i := 20) (by kernel_rfl) rfl (by kernel_rfl) (fun K hK => ?_)
                unfold Oper.wpIn
                refine ⟨fun _ _ => trivial, ?_⟩
                go_simp
                refine ⟨rfl, (callsIn_wide.2 (La.laDeg pc D0 _ wv79 d0)).mono ?_⟩
                rintro e wv80 ⟨he, hb⟩
                rw [EDC.out] at he
                subst he
                clear d0
                replace hHeld := hHeld.below hb
                clear hb
                refine hK _ _ (fun _ => hHeld) ?_
                clear hK K
                try simp only [Act.put, List.setIfInBounds_toArray, List.set]
                obtain ⟨D1, d1⟩ := (hHeld.box (X4, .slice u4 pd.length k4, pd) List.mem_cons_self).2
                refine PhaseIn.one (i := 22) (by kernel_rfl) rfl (by kernel_rfl) (fun K hK => ?_)
                unfold Oper.wpIn
                refine ⟨fun _ _ => trivial, ?_⟩
                go_simp
                refine ⟨rfl, (callsIn_wide.2 (La.laDeg pd D1 _ wv80 d1)).mono ?_⟩
                rintro e wv81 ⟨he, hb⟩
                rw [EDD.out] at he
                subst he
                clear d1
                replace hHeld := hHeld.below hb
                clear hb
                refine hK _ _ (fun _ => hHeld) ?_
                clear hK K
                try simp only [Act.put, List.setIfInBounds_toArray, List.set]
                refine PhaseIn.takeD (i := 23) (v := (.int .i64 ((dc : Int) + (dd : Int)))) [23, 24, 25] 78 rfl (by rfl) (by kernel_rfl) (by kernel_rfl) (by kernel_rfl) (by kernel_rfl) (by kernel_rfl) (fun _ _ _ h => h) (Or.inl ⟨by kernel_rfl, ?_⟩) hHeld ?_
                · intro w' hSw
                  (try dsimp only at hSw)
                  go_simp
                  first | done | with_reducible rfl | (rw [kws]; done) | (simp [kws]; done) | omega
                try simp only [Act.put, List.setIfInBounds_toArray, List.set]
                refine PhaseIn.takeD (i := 24) (v := ?_) [24, 25] 79 rfl (by rfl) (by kernel_rfl) (by kernel_rfl) (by kernel_rfl) (by kernel_rfl) (by kernel_rfl) (fun _ _ _ h => h) (Or.inl ⟨by kernel_rfl, ?_⟩) hHeld ?_
                rotate_left
                · intro w' hSw
                  (try dsimp only at hSw)
                  go_simp
                  first | done | with_reducible rfl
                try simp only [Act.put, List.setIfInBounds_toArray, List.set]
                refine PhaseIn.takeD (i := 25) (v := ?_) [25] 80 rfl (by rfl) (by kernel_rfl) (by kernel_rfl) (by kernel_rfl) (by kernel_rfl) (by kernel_rfl) (fun _ _ _ h => h) (Or.inl ⟨by kernel_rfl, ?_⟩) hHeld ?_
                rotate_left
                · intro w' hSw
                  (try dsimp only at hSw)
                  go_simp
                  first | done | with_reducible rfl
                try simp only [Act.put, List.setIfInBounds_toArray, List.set]
                refine PhaseIn.done (by kernel_rfl) ?_ _
                have S := hide hHeld
                clear hHeld
                have zC := (S.out.box (X3, .slice u3 pc.length k3, pc) (List.mem_cons_of_mem _ List.mem_cons_self)).1.cell 0 _ rfl
                have zD := (S.out.box (X4, .slice u4 pd.length k4, pd) List.mem_cons_self).1.cell 0 _ rfl
                go_wp2_with fail
                clear zC zD
                obtain ⟨D0, d0⟩ := (S.out.box (X3, .slice u3 pc.length k3, pc) (List.mem_cons_of_mem _ List.mem_cons_self)).2
                obtain ⟨D1, d1⟩ := (S.out.box (X4, .slice u4 pd.length k4, pd) List.mem_cons_self).2
                refine (implMul pc pd   D0 D1  _ _ _ d0 d1 ).mono ?_
                rintro e wv82 ⟨y9, l9, j9, he, W3, hb⟩
                clear d0 d1 
                obtain rfl := Draw.wp_len W3
                rw [HF.out] at he
                obtain ⟨D9, r9⟩ := W3.read
                subst he
                clear W3
                have S2 := hide (S.out.below hb)
                clear S hb
                have S := S2
                clear S2
                have S2 := hide (Pit.add S.out r9)
                clear S r9
                have S := S2
                clear S2
                have FIN := hide S.out.bw
                clear S
                go_wp2
                go_ret
                exact ⟨rfl, FIN.out⟩

set_option maxRecDepth 100000 in
theorem lifted (os : Os) (started : os.Started) (H : Type) (enc : TypeId × Value → H) :
    ReturnsInHanded {} Try.checked os 7 .any (Rows.fnPolFitSpec.pre6 enc Try.prog Try.f7 Rows.fnPolFitRow.domain false) (Rows.fnPolFitSpec.post enc Try.prog Try.f7 false true false false) := by
  refine returnsInHanded_of_change (C := Try.checked) own started (by kernel_rfl) Try.func7
    (ChangeSpec.witness6 (enc := enc) (C := Try.checked) false ⟨#[], #[.slice none 0 0, .slice none 0 0], []⟩ 8 (by kernel_rfl) (by kernel_rfl) (by kernel_rfl) (by kernel_rfl)) ?_
  intro W base args ds gs before hval0 hW hcnd _
  have hval : ∀ (j : Nat) t v, Try.f7.params[j]? = some t → args[j]? = some v → Value.okWide Try.prog W .any base t v := hval0
  have hW' := hW
  obtain ⟨p, q, hA0, hV, rfl, hfz, hnd⟩ := hW
  have hA : DataW.TrodAll enc Try.prog W 0 (fun _ => true) true Try.f7.params.toList args.toList ds p := hA0
  rw [Try.params7] at hA hval
  obtain ⟨v0, vs0, d0, ds0, p0, q0, hargs, rfl, rfl, h0, r0⟩ := trodAll_cons hA
  obtain ⟨v1, vs1, d1, ds1, p1, q1, rfl, rfl, rfl, h1, r1⟩ := trodAll_cons r0
  obtain ⟨rfl, rfl, rfl⟩ := trodAll_nil r1
  obtain rfl : args = #[v0, v1] := by cases args; simp_all
  obtain ⟨rfl, rfl⟩ := trodVars_none hV
  obtain ⟨a0, len0, cap0, rfl⟩ := okWide_slice Try.underlying22 (hval 0 22 v0 rfl rfl)
  have k0 := h0
  have lt0 : ∀ x ∈ p0, x.block < W.heap.size := by obtain ⟨m, hm⟩ := k0; exact DataW.trod_lt m _ _ _ hm
  obtain ⟨z0, w0⟩ : ∃ zs, IsRow .u8 W a0 len0 cap0 zs := by
    obtain ⟨fuel, hf⟩ := h0
    rcases open_ints Try.underlying22 Try.underlying5 (by kernel_rfl) hf with ⟨hcs, _⟩ | ⟨x, l, c, zs, hcs, _, hl, hm, hz, _, hcell, hwz⟩
    · simp [Value.cells] at hcs
      obtain ⟨rfl, rfl, rfl⟩ := hcs
      exact ⟨[], .inl ⟨rfl, rfl, rfl, rfl⟩⟩
    · simp [Value.cells] at hcs
      obtain ⟨rfl, rfl, rfl⟩ := hcs
      exact ⟨zs, .inr ⟨_, rfl, hl, hm, by simpa using hz, hcell, hwz⟩⟩
  obtain ⟨a1, len1, cap1, rfl⟩ := okWide_slice Try.underlying22 (hval 1 22 v1 rfl rfl)
  have k1 := h1
  have lt1 : ∀ x ∈ p1, x.block < W.heap.size := by obtain ⟨m, hm⟩ := k1; exact DataW.trod_lt m _ _ _ hm
  obtain ⟨z1, w1⟩ : ∃ zs, IsRow .u8 W a1 len1 cap1 zs := by
    obtain ⟨fuel, hf⟩ := h1
    rcases open_ints Try.underlying22 Try.underlying5 (by kernel_rfl) hf with ⟨hcs, _⟩ | ⟨x, l, c, zs, hcs, _, hl, hm, hz, _, hcell, hwz⟩
    · simp [Value.cells] at hcs
      obtain ⟨rfl, rfl, rfl⟩ := hcs
      exact ⟨[], .inl ⟨rfl, rfl, rfl, rfl⟩⟩
    · simp [Value.cells] at hcs
      obtain ⟨rfl, rfl, rfl⟩ := hcs
      exact ⟨zs, .inr ⟨_, rfl, hl, hm, by simpa using hz, hcell, hwz⟩⟩
  clear hA0 hval0
  refine (walk a0 len0 cap0 z0 a1 len1 cap1 z1 W w0 w1).mono fun e W' ⟨he, bel⟩ => ?_
  subst he
  exact ⟨_, rfl, _, _, _, [], _, [], hW', trodAll_mk1 (shut_bool Try.underlying4 _), (trodAll_cons_mk (Below.trod laidOut (by kernel_rfl) (of_decide_eq_true (by kernel_rfl)) k0 bel lt0) (trodAll_cons_mk (Below.trod laidOut (by kernel_rfl) (of_decide_eq_true (by kernel_rfl)) k1 bel lt1) trodAll_mk0)), rfl, bel.frame _, fun h => by cases h⟩

theorem over : Rows.fnPolFitRow.holds Try.pinned (OpenSpec.ofChange Rows.fnPolFitSpec) :=
  OpenClaim.holds_of_wide 7 Try.f7 rfl rfl rfl rfl rfl rfl rfl ⟨rfl, rfl, rfl, rfl, rfl⟩ rfl rfl rfl rfl rfl (by kernel_rfl) Try.func7 (by kernel_rfl)
    (of_decide_eq_true (by kernel_rfl)) (by unfold Func.isWrapper; first | (rw [if_pos (by decide +kernel)]; kernel_rfl) | (rw [if_neg (by decide +kernel)]; exact ⟨rfl, rfl⟩))
    (fun os started H enc _ => lifted os started H enc)

theorem proved : Rows.FnPolFitSaid := over
#print axioms proved
end Go.Proofs.Ytckhfpaicnjknaa.fnPolFit
