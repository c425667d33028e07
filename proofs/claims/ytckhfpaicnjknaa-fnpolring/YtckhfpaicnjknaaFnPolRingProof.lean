/-
  At every two codes of bytes the law FnPolRing returns true (P24: where all are true the product of a sum and two together is both products together, and three together are the same however they are put together); no condition.
  The frame (the steps lifted, over, proved) is the guide's shell, written by its program; the walk and the lemmas ahead of it are mine.
-/
import Derived.Test.YtckhfpaicnjknaaRows
import Derived.WalkKit
import Derived.ProofKit
import Derived.OpenShut
import Derived.Test.YtckhfpaicnjknaaPolSi
import Derived.Test.YtckhfpaicnjknaaPolAd
import Derived.Test.YtckhfpaicnjknaaPolMl
import Derived.ShutString
import Derived.ChangeOld
import Derived.Below
namespace Go.Proofs.Ytckhfpaicnjknaa.fnPolRing
open Go.ChangeShapes Go.WideShapes Go.ChangeAt Go.RowKit
open Go.ChangeMaps (open_string shut_string)
set_option linter.unusedVariables false

theorem own : ownKnob Try.prog.godebug = none := by kernel_rfl
theorem laidOut : laidOutB Try.prog = true := by kernel_rfl

def IsRow (k : IntKind) (w : World) (a : Option Addr) (len cap : Nat) (zs : List Int) : Prop :=
  (a = none ∧ len = 0 ∧ cap = 0 ∧ zs = []) ∨
  ∃ x, a = some x ∧ len ≤ cap ∧ cap ≤ maxLen ∧ zs.length = cap ∧ (∀ i, i < zs.length → w.cell? (x.add i) = some (.int k (zs.getD i 0))) ∧ ∀ n ∈ zs, (Lit.int k n).wf = true

open IntS Pol
set_option linter.unusedVariables false
set_option linter.unusedSimpArgs false

set_option maxRecDepth 8000 in
set_option maxHeartbeats 16000000 in
theorem walk (a0 : Option Addr) (len0 cap0 : Nat) (z0 : List Int) (a1 : Option Addr) (len1 cap1 : Nat) (z1 : List Int) (w : World) (w0 : IsRow .u8 w a0 len0 cap0 z0) (w1 : IsRow .u8 w a1 len1 cap1 z1) :
    Calls Try.prog 3 #[.slice a0 len0 cap0, .slice a1 len1 cap1] w fun e w' => e = .returned (.bool true) ∧ Below w.heap.size w w' := by
  obtain ⟨hlc, hm, hc⟩ := Draw.code_row w a0 len0 cap0 z0 w0
  obtain ⟨hlc1, hm1, hc1⟩ := Draw.code_row w a1 len1 cap1 z1 w1
  by_cases hl : 1048576 < len0
  · unfold maxLen at hm hm1
    go_enter Try.func3, Try.ntmps3
    go_wp2
    go_ret
    exact ⟨rfl, Below.refl _ _⟩
  by_cases hl1 : 1048576 < len1
  · unfold maxLen at hm hm1
    go_enter Try.func3, Try.ntmps3
    go_wp2
    go_ret
    exact ⟨rfl, Below.refl _ _⟩
  clear w0 w1
  go_enter Try.func3, Try.ntmps3
  go_wp2_with fail
  refine (Draw.drawAdd a0 len0 cap0 _ hlc hm hc).mono ?_
  rintro e va ⟨u1, k1, pa, u2, k2, pb, B1, B2, rfl, r1, r2, hb⟩
  have r3 := r2.below ((Below.refl va.heap.size va).alloc (Nat.le_refl _) (.cells #[.slice u1 pa.length k1] 25))
  have S := hide (Pit.new hb)
  replace hc1 := hide (hc1.below hb)
  clear hb hc hm hlc r2
  have S2 := hide (Pit.add S.out r1)
  clear S r1
  have S := S2
  clear S2
  have S2 := hide (Pit.add S.out r3)
  clear S r3
  have S := S2
  clear S2
  replace hc1 := hide (hc1.out.below (((Below.refl va.heap.size va).alloc (Nat.le_refl _) (.cells #[.slice u1 pa.length k1] 25)).alloc (by simp) (.cells #[.slice u2 pb.length k2] 25) |>.mono (Nat.le_refl _)))
  rw [show (va.alloc (.cells #[.slice u1 pa.length k1] 25)).heap.size = va.heap.size + 1 by simp] at S
  go_wp2_with fail
  generalize hZ1 : va.heap.size + 1 = X2 at S ⊢
  clear hZ1
  generalize hZ0 : va.heap.size = X1 at S ⊢
  clear hZ0
  generalize ((va.alloc (.cells #[.slice u1 pa.length k1] 25)).alloc (.cells #[.slice u2 pb.length k2] 25)) = wv1 at S hc1 ⊢
  refine (Draw.drawMul a1 len1 cap1 _ hlc1 hm1 hc1.out).mono ?_
  rintro e vb ⟨u3, k3, pc, u4, k4, pd, B1, B2, rfl, r1, r2, hb⟩
  have r3 := r2.below ((Below.refl vb.heap.size vb).alloc (Nat.le_refl _) (.cells #[.slice u3 pc.length k3] 25))
  clear hc1 hm1 hlc1 r2
  have S2 := hide (S.out.below hb)
  clear S hb
  have S := S2
  clear S2
  have S2 := hide (Pit.add S.out r1)
  clear S r1
  have S := S2
  clear S2
  have S2 := hide (Pit.add S.out r3)
  clear S r3
  have S := S2
  clear S2
  rw [show (vb.alloc (.cells #[.slice u3 pc.length k3] 25)).heap.size = vb.heap.size + 1 by simp] at S
  have zA := (S.out.box (X1, .slice u1 pa.length k1, pa) (List.mem_cons_of_mem _ (List.mem_cons_of_mem _ (List.mem_cons_of_mem _ List.mem_cons_self)))).1.cell 0 _ rfl
  have zB := (S.out.box (X2, .slice u2 pb.length k2, pb) (List.mem_cons_of_mem _ (List.mem_cons_of_mem _ List.mem_cons_self))).1.cell 0 _ rfl
  go_wp2_with fail
  clear zA zB
  generalize hZ1 : vb.heap.size + 1 = X4 at S ⊢
  clear hZ1
  generalize hZ0 : vb.heap.size = X3 at S ⊢
  clear hZ0
  generalize ((vb.alloc (.cells #[.slice u3 pc.length k3] 25)).alloc (.cells #[.slice u4 pd.length k4] 25)) = wv2 at S ⊢
  obtain ⟨s, es⟩ : ∃ s, addP pa pb = s := ⟨_, rfl⟩
  obtain ⟨oks, eoks⟩ : ∃ oks, addB pa pb = oks := ⟨_, rfl⟩
  obtain ⟨t, et⟩ : ∃ t, addP pb pc = t := ⟨_, rfl⟩
  obtain ⟨okt, eokt⟩ : ∃ okt, addB pb pc = okt := ⟨_, rfl⟩
  obtain ⟨x, ex⟩ : ∃ x, addP s pc = x := ⟨_, rfl⟩
  obtain ⟨okx, eokx⟩ : ∃ okx, addB s pc = okx := ⟨_, rfl⟩
  obtain ⟨y, ey⟩ : ∃ y, addP pa t = y := ⟨_, rfl⟩
  obtain ⟨oky, eoky⟩ : ∃ oky, addB pa t = oky := ⟨_, rfl⟩
  obtain ⟨p, ep⟩ : ∃ p, mulP pc s = p := ⟨_, rfl⟩
  obtain ⟨okp, eokp⟩ : ∃ okp, mulB pc s = okp := ⟨_, rfl⟩
  obtain ⟨q, eq⟩ : ∃ q, mulP pc pa = q := ⟨_, rfl⟩
  obtain ⟨okq, eokq⟩ : ∃ okq, mulB pc pa = okq := ⟨_, rfl⟩
  obtain ⟨r, er⟩ : ∃ r, mulP pc pb = r := ⟨_, rfl⟩
  obtain ⟨okr, eokr⟩ : ∃ okr, mulB pc pb = okr := ⟨_, rfl⟩
  obtain ⟨z, ez⟩ : ∃ z, addP q r = z := ⟨_, rfl⟩
  obtain ⟨okz, eokz⟩ : ∃ okz, addB q r = okz := ⟨_, rfl⟩
  have FA : Hid (oks = true → okt = true → okx = oky ∧ x = y) := fun h1 h2 => by
    have := add_assoc' (a := pa) (b := pb) (c := pc) (eoks.trans h1) (eokt.trans h2)
    rw [es, et, eokx, ex, eoky, ey] at this
    exact this
  have FM : Hid (oks = true → okp = true → okq = true → okr = true → okz = true ∧ z = p) := fun h1 h2 h3 h4 => by
    have := mul_spread (a := pa) (b := pb) (c := pc) (eoks.trans h1) (by rw [es]; exact eokp.trans h2) (eokq.trans h3) (eokr.trans h4)
    rw [es, eq, er, eokz, ez, ep] at this
    exact this
  have Es := hide (And.intro es eoks)
  have Et := hide (And.intro et eokt)
  have Ex := hide (And.intro ex eokx)
  have Ey := hide (And.intro ey eoky)
  have Ep := hide (And.intro ep eokp)
  have Eq := hide (And.intro eq eokq)
  have Er := hide (And.intro er eokr)
  have Ez := hide (And.intro ez eokz)
  clear es eoks et eokt ex eokx ey eoky ep eokp eq eokq er eokr ez eokz
  obtain ⟨D0, d0⟩ := (S.out.box (X1, .slice u1 pa.length k1, pa) (List.mem_cons_of_mem _ (List.mem_cons_of_mem _ (List.mem_cons_of_mem _ List.mem_cons_self)))).2
  obtain ⟨D1, d1⟩ := (S.out.box (X2, .slice u2 pb.length k2, pb) (List.mem_cons_of_mem _ (List.mem_cons_of_mem _ List.mem_cons_self))).2
  refine (implAdd pa pb   D0 D1  _ _ _ d0 d1 ).mono ?_
  rintro e wv3 ⟨y1, l1, j1, he, W3, hb⟩
  clear d0 d1 
  rw [Es.out.1] at W3
  obtain rfl := Draw.wp_len W3
  rw [Es.out.2] at he
  obtain ⟨D9, r9⟩ := W3.read
  subst he
  clear W3
  have S2 := hide (S.out.below hb)
  clear S hb
  have S := S2
  clear S2
  have S2 := hide (Pit.add S.out r9)
  clear S r9
  have S := S2
  clear S2
  have zB := (S.out.box (X2, .slice u2 pb.length k2, pb) (List.mem_cons_of_mem _ (List.mem_cons_of_mem _ (List.mem_cons_of_mem _ List.mem_cons_self)))).1.cell 0 _ rfl
  have zC := (S.out.box (X3, .slice u3 pc.length k3, pc) (List.mem_cons_of_mem _ (List.mem_cons_of_mem _ List.mem_cons_self))).1.cell 0 _ rfl
  go_wp2_with fail
  clear zB zC
  generalize hZ0 : wv3.heap.size = X5 at S ⊢
  clear hZ0
  generalize (wv3.alloc (.cells #[.slice y1 s.length j1] 25)) = wv4 at S ⊢
  obtain ⟨D0, d0⟩ := (S.out.box (X2, .slice u2 pb.length k2, pb) (List.mem_cons_of_mem _ (List.mem_cons_of_mem _ (List.mem_cons_of_mem _ List.mem_cons_self)))).2
  obtain ⟨D1, d1⟩ := (S.out.box (X3, .slice u3 pc.length k3, pc) (List.mem_cons_of_mem _ (List.mem_cons_of_mem _ List.mem_cons_self))).2
  refine (implAdd pb pc   D0 D1  _ _ _ d0 d1 ).mono ?_
  rintro e wv5 ⟨y2, l2, j2, he, W3, hb⟩
  clear d0 d1 
  rw [Et.out.1] at W3
  obtain rfl := Draw.wp_len W3
  rw [Et.out.2] at he
  obtain ⟨D9, r9⟩ := W3.read
  subst he
  clear W3
  have S2 := hide (S.out.below hb)
  clear S hb
  have S := S2
  clear S2
  have S2 := hide (Pit.add S.out r9)
  clear S r9
  have S := S2
  clear S2
  cases oks with
  | false =>
    have zC := (S.out.box (X3, .slice u3 pc.length k3, pc) (List.mem_cons_of_mem _ (List.mem_cons_of_mem _ (List.mem_cons_of_mem _ List.mem_cons_self)))).1.cell 0 _ rfl
    have zSb := (S.out.box (X5, .slice y1 s.length j1, s) (List.mem_cons_of_mem _ List.mem_cons_self)).1.cell 0 _ rfl
    go_wp2_with fail
    clear zC zSb
    generalize hZ0 : wv5.heap.size = X6 at S ⊢
    clear hZ0
    generalize (wv5.alloc (.cells #[.slice y2 t.length j2] 25)) = wv6 at S ⊢
    obtain ⟨D0, d0⟩ := (S.out.box (X3, .slice u3 pc.length k3, pc) (List.mem_cons_of_mem _ (List.mem_cons_of_mem _ (List.mem_cons_of_mem _ List.mem_cons_self)))).2
    obtain ⟨D1, d1⟩ := (S.out.box (X5, .slice y1 s.length j1, s) (List.mem_cons_of_mem _ List.mem_cons_self)).2
    refine (implMul pc s   D0 D1  _ _ _ d0 d1 ).mono ?_
    rintro e wv7 ⟨y3, l3, j3, he, W3, hb⟩
    clear d0 d1 
    rw [Ep.out.1] at W3
    obtain rfl := Draw.wp_len W3
    rw [Ep.out.2] at he
    obtain ⟨D9, r9⟩ := W3.read
    subst he
    clear W3
    have S2 := hide (S.out.below hb)
    clear S hb
    have S := S2
    clear S2
    have S2 := hide (Pit.add S.out r9)
    clear S r9
    have S := S2
    clear S2
    have zC := (S.out.box (X3, .slice u3 pc.length k3, pc) (List.mem_cons_of_mem _ (List.mem_cons_of_mem _ (List.mem_cons_of_mem _ (List.mem_cons_of_mem _ List.mem_cons_self))))).1.cell 0 _ rfl
    have zA := (S.out.box (X1, .slice u1 pa.length k1, pa) (List.mem_cons_of_mem _ (List.mem_cons_of_mem _ (List.mem_cons_of_mem _ (List.mem_cons_of_mem _ (List.mem_cons_of_mem _ (List.mem_cons_of_mem _ List.mem_cons_self))))))).1.cell 0 _ rfl
    go_wp2_with fail
    clear zC zA
    generalize hZ0 : wv7.heap.size = X7 at S ⊢
    clear hZ0
    generalize (wv7.alloc (.cells #[.slice y3 p.length j3] 25)) = wv8 at S ⊢
    obtain ⟨D0, d0⟩ := (S.out.box (X3, .slice u3 pc.length k3, pc) (List.mem_cons_of_mem _ (List.mem_cons_of_mem _ (List.mem_cons_of_mem _ (List.mem_cons_of_mem _ List.mem_cons_self))))).2
    obtain ⟨D1, d1⟩ := (S.out.box (X1, .slice u1 pa.length k1, pa) (List.mem_cons_of_mem _ (List.mem_cons_of_mem _ (List.mem_cons_of_mem _ (List.mem_cons_of_mem _ (List.mem_cons_of_mem _ (List.mem_cons_of_mem _ List.mem_cons_self))))))).2
    refine (implMul pc pa   D0 D1  _ _ _ d0 d1 ).mono ?_
    rintro e wv9 ⟨y4, l4, j4, he, W3, hb⟩
    clear d0 d1 
    rw [Eq.out.1] at W3
    obtain rfl := Draw.wp_len W3
    rw [Eq.out.2] at he
    obtain ⟨D9, r9⟩ := W3.read
    subst he
    clear W3
    have S2 := hide (S.out.below hb)
    clear S hb
    have S := S2
    clear S2
    have S2 := hide (Pit.add S.out r9)
    clear S r9
    have S := S2
    clear S2
    have zC := (S.out.box (X3, .slice u3 pc.length k3, pc) (List.mem_cons_of_mem _ (List.mem_cons_of_mem _ (List.mem_cons_of_mem _ (List.mem_cons_of_mem _ (List.mem_cons_of_mem _ List.mem_cons_self)))))).1.cell 0 _ rfl
    have zB := (S.out.box (X2, .slice u2 pb.length k2, pb) (List.mem_cons_of_mem _ (List.mem_cons_of_mem _ (List.mem_cons_of_mem _ (List.mem_cons_of_mem _ (List.mem_cons_of_mem _ (List.mem_cons_of_mem _ List.mem_cons_self))))))).1.cell 0 _ rfl
    go_wp2_with fail
    clear zC zB
    generalize hZ0 : wv9.heap.size = X8 at S ⊢
    clear hZ0
    generalize (wv9.alloc (.cells #[.slice y4 q.length j4] 25)) = wv10 at S ⊢
    obtain ⟨D0, d0⟩ := (S.out.box (X3, .slice u3 pc.length k3, pc) (List.mem_cons_of_mem _ (List.mem_cons_of_mem _ (List.mem_cons_of_mem _ (List.mem_cons_of_mem _ (List.mem_cons_of_mem _ List.mem_cons_self)))))).2
    obtain ⟨D1, d1⟩ := (S.out.box (X2, .slice u2 pb.length k2, pb) (List.mem_cons_of_mem _ (List.mem_cons_of_mem _ (List.mem_cons_of_mem _ (List.mem_cons_of_mem _ (List.mem_cons_of_mem _ (List.mem_cons_of_mem _ List.mem_cons_self))))))).2
    refine (implMul pc pb   D0 D1  _ _ _ d0 d1 ).mono ?_
    rintro e wv11 ⟨y5, l5, j5, he, W3, hb⟩
    clear d0 d1 
    rw [Er.out.1] at W3
    obtain rfl := Draw.wp_len W3
    rw [Er.out.2] at he
    obtain ⟨D9, r9⟩ := W3.read
    subst he
    clear W3
    have S2 := hide (S.out.below hb)
    clear S hb
    have S := S2
    clear S2
    have S2 := hide (Pit.add S.out r9)
    clear S r9
    have S := S2
    clear S2
    go_wp2_with fail
    generalize hZ0 : wv11.heap.size = X9 at S ⊢
    clear hZ0
    generalize (wv11.alloc (.cells #[.slice y5 r.length j5] 25)) = wv12 at S ⊢
    refine (La.laOk wv12).mono ?_
    rintro e wz ⟨rfl, rfl⟩
    have FIN := hide S.out.bw
    clear S
    go_wp2
    go_ret
    exact ⟨rfl, FIN.out⟩
  | true =>
    cases okt with
    | false =>
      have zC := (S.out.box (X3, .slice u3 pc.length k3, pc) (List.mem_cons_of_mem _ (List.mem_cons_of_mem _ (List.mem_cons_of_mem _ List.mem_cons_self)))).1.cell 0 _ rfl
      have zSb := (S.out.box (X5, .slice y1 s.length j1, s) (List.mem_cons_of_mem _ List.mem_cons_self)).1.cell 0 _ rfl
      go_wp2_with fail
      clear zC zSb
      generalize hZ0 : wv5.heap.size = X6 at S ⊢
      clear hZ0
      generalize (wv5.alloc (.cells #[.slice y2 t.length j2] 25)) = wv13 at S ⊢
      obtain ⟨D0, d0⟩ := (S.out.box (X3, .slice u3 pc.length k3, pc) (List.mem_cons_of_mem _ (List.mem_cons_of_mem _ (List.mem_cons_of_mem _ List.mem_cons_self)))).2
      obtain ⟨D1, d1⟩ := (S.out.box (X5, .slice y1 s.length j1, s) (List.mem_cons_of_mem _ List.mem_cons_self)).2
      refine (implMul pc s   D0 D1  _ _ _ d0 d1 ).mono ?_
      rintro e wv14 ⟨y6, l6, j6, he, W3, hb⟩
      clear d0 d1 
      rw [Ep.out.1] at W3
      obtain rfl := Draw.wp_len W3
      rw [Ep.out.2] at he
      obtain ⟨D9, r9⟩ := W3.read
      subst he
      clear W3
      have S2 := hide (S.out.below hb)
      clear S hb
      have S := S2
      clear S2
      have S2 := hide (Pit.add S.out r9)
      clear S r9
      have S := S2
      clear S2
      have zC := (S.out.box (X3, .slice u3 pc.length k3, pc) (List.mem_cons_of_mem _ (List.mem_cons_of_mem _ (List.mem_cons_of_mem _ (List.mem_cons_of_mem _ List.mem_cons_self))))).1.cell 0 _ rfl
      have zA := (S.out.box (X1, .slice u1 pa.length k1, pa) (List.mem_cons_of_mem _ (List.mem_cons_of_mem _ (List.mem_cons_of_mem _ (List.mem_cons_of_mem _ (List.mem_cons_of_mem _ (List.mem_cons_of_mem _ List.mem_cons_self))))))).1.cell 0 _ rfl
      go_wp2_with fail
      clear zC zA
      generalize hZ0 : wv14.heap.size = X7 at S ⊢
      clear hZ0
      generalize (wv14.alloc (.cells #[.slice y6 p.length j6] 25)) = wv15 at S ⊢
      obtain ⟨D0, d0⟩ := (S.out.box (X3, .slice u3 pc.length k3, pc) (List.mem_cons_of_mem _ (List.mem_cons_of_mem _ (List.mem_cons_of_mem _ (List.mem_cons_of_mem _ List.mem_cons_self))))).2
      obtain ⟨D1, d1⟩ := (S.out.box (X1, .slice u1 pa.length k1, pa) (List.mem_cons_of_mem _ (List.mem_cons_of_mem _ (List.mem_cons_of_mem _ (List.mem_cons_of_mem _ (List.mem_cons_of_mem _ (List.mem_cons_of_mem _ List.mem_cons_self))))))).2
      refine (implMul pc pa   D0 D1  _ _ _ d0 d1 ).mono ?_
      rintro e wv16 ⟨y7, l7, j7, he, W3, hb⟩
      clear d0 d1 
      rw [Eq.out.1] at W3
      obtain rfl := Draw.wp_len W3
      rw [Eq.out.2] at he
      obtain ⟨D9, r9⟩ := W3.read
      subst he
      clear W3
      have S2 := hide (S.out.below hb)
      clear S hb
      have S := S2
      clear S2
      have S2 := hide (Pit.add S.out r9)
      clear S r9
      have S := S2
      clear S2
      have zC := (S.out.box (X3, .slice u3 pc.length k3, pc) (List.mem_cons_of_mem _ (List.mem_cons_of_mem _ (List.mem_cons_of_mem _ (List.mem_cons_of_mem _ (List.mem_cons_of_mem _ List.mem_cons_self)))))).1.cell 0 _ rfl
      have zB := (S.out.box (X2, .slice u2 pb.length k2, pb) (List.mem_cons_of_mem _ (List.mem_cons_of_mem _ (List.mem_cons_of_mem _ (List.mem_cons_of_mem _ (List.mem_cons_of_mem _ (List.mem_cons_of_mem _ List.mem_cons_self))))))).1.cell 0 _ rfl
      go_wp2_with fail
      clear zC zB
      generalize hZ0 : wv16.heap.size = X8 at S ⊢
      clear hZ0
      generalize (wv16.alloc (.cells #[.slice y7 q.length j7] 25)) = wv17 at S ⊢
      obtain ⟨D0, d0⟩ := (S.out.box (X3, .slice u3 pc.length k3, pc) (List.mem_cons_of_mem _ (List.mem_cons_of_mem _ (List.mem_cons_of_mem _ (List.mem_cons_of_mem _ (List.mem_cons_of_mem _ List.mem_cons_self)))))).2
      obtain ⟨D1, d1⟩ := (S.out.box (X2, .slice u2 pb.length k2, pb) (List.mem_cons_of_mem _ (List.mem_cons_of_mem _ (List.mem_cons_of_mem _ (List.mem_cons_of_mem _ (List.mem_cons_of_mem _ (List.mem_cons_of_mem _ List.mem_cons_self))))))).2
      refine (implMul pc pb   D0 D1  _ _ _ d0 d1 ).mono ?_
      rintro e wv18 ⟨y8, l8, j8, he, W3, hb⟩
      clear d0 d1 
      rw [Er.out.1] at W3
      obtain rfl := Draw.wp_len W3
      rw [Er.out.2] at he
      obtain ⟨D9, r9⟩ := W3.read
      subst he
      clear W3
      have S2 := hide (S.out.below hb)
      clear S hb
      have S := S2
      clear S2
      have S2 := hide (Pit.add S.out r9)
      clear S r9
      have S := S2
      clear S2
      cases okp with
      | false =>
        go_wp2_with fail
        generalize hZ0 : wv18.heap.size = X9 at S ⊢
        clear hZ0
        generalize (wv18.alloc (.cells #[.slice y8 r.length j8] 25)) = wv19 at S ⊢
        refine (La.laOk wv19).mono ?_
        rintro e wz ⟨rfl, rfl⟩
        have FIN := hide S.out.bw
        clear S
        go_wp2
        go_ret
        exact ⟨rfl, FIN.out⟩
      | true =>
        cases okq with
        | false =>
          go_wp2_with fail
          generalize hZ0 : wv18.heap.size = X9 at S ⊢
          clear hZ0
          generalize (wv18.alloc (.cells #[.slice y8 r.length j8] 25)) = wv20 at S ⊢
          refine (La.laOk wv20).mono ?_
          rintro e wz ⟨rfl, rfl⟩
          have FIN := hide S.out.bw
          clear S
          go_wp2
          go_ret
          exact ⟨rfl, FIN.out⟩
        | true =>
          cases okr with
          | false =>
            go_wp2_with fail
            generalize hZ0 : wv18.heap.size = X9 at S ⊢
            clear hZ0
            generalize (wv18.alloc (.cells #[.slice y8 r.length j8] 25)) = wv21 at S ⊢
            refine (La.laOk wv21).mono ?_
            rintro e wz ⟨rfl, rfl⟩
            have FIN := hide S.out.bw
            clear S
            go_wp2
            go_ret
            exact ⟨rfl, FIN.out⟩
          | true =>
            obtain ⟨rfl, rfl⟩ := FM.out (by simp) (by simp) (by simp) (by simp)
            have zQb := (S.out.box (X8, .slice y7 q.length j7, q) (List.mem_cons_of_mem _ List.mem_cons_self)).1.cell 0 _ rfl
            have zRb := (S.out.box (wv18.heap.size, .slice y8 r.length j8, r) List.mem_cons_self).1.cell 0 _ rfl
            go_wp2_with fail
            clear zQb zRb
            generalize hZ0 : wv18.heap.size = X9 at S ⊢
            clear hZ0
            generalize (wv18.alloc (.cells #[.slice y8 r.length j8] 25)) = wv22 at S ⊢
            obtain ⟨D0, d0⟩ := (S.out.box (X8, .slice y7 q.length j7, q) (List.mem_cons_of_mem _ List.mem_cons_self)).2
            obtain ⟨D1, d1⟩ := (S.out.box (X9, .slice y8 r.length j8, r) List.mem_cons_self).2
            refine (implAdd q r   D0 D1  _ _ _ d0 d1 ).mono ?_
            rintro e wv23 ⟨y9, l9, j9, he, W3, hb⟩
            clear d0 d1 
            rw [Ez.out.1] at W3
            obtain rfl := Draw.wp_len W3
            rw [Ez.out.2] at he
            obtain ⟨D9, r9⟩ := W3.read
            subst he
            clear W3
            have S2 := hide (S.out.below hb)
            clear S hb
            have S := S2
            clear S2
            have S2 := hide (Pit.add S.out r9)
            clear S r9
            have S := S2
            clear S2
            have zPb := (S.out.box (X7, .slice y6 z.length j6, z) (List.mem_cons_of_mem _ (List.mem_cons_of_mem _ (List.mem_cons_of_mem _ List.mem_cons_self)))).1.cell 0 _ rfl
            have zZb := (S.out.box (wv23.heap.size, .slice y9 z.length j9, z) List.mem_cons_self).1.cell 0 _ rfl
            go_wp2_with fail
            clear zPb zZb
            generalize hZ0 : wv23.heap.size = X10 at S ⊢
            clear hZ0
            generalize (wv23.alloc (.cells #[.slice y9 z.length j9] 25)) = wv24 at S ⊢
            obtain ⟨D0, d0⟩ := (S.out.box (X7, .slice y6 z.length j6, z) (List.mem_cons_of_mem _ (List.mem_cons_of_mem _ (List.mem_cons_of_mem _ List.mem_cons_self)))).2
            obtain ⟨D1, d1⟩ := (S.out.box (X10, .slice y9 z.length j9, z) List.mem_cons_self).2
            refine (La.laPoly z z   D0 D1  _ _ _ d0 d1 ).mono ?_
            rintro e wv25 ⟨he, hb⟩
            clear d0 d1 
            rw [show decide (z = z) = true from decide_eq_true rfl] at he
            subst he
            have S2 := hide (S.out.below hb)
            clear S hb
            have S := S2
            clear S2
            go_wp2_with fail
            refine (La.laOk wv25).mono ?_
            rintro e wz ⟨rfl, rfl⟩
            have FIN := hide S.out.bw
            clear S
            go_wp2
            go_ret
            exact ⟨rfl, FIN.out⟩
    | true =>
      obtain ⟨rfl, rfl⟩ := FA.out (by simp) (by simp)
      have zSb := (S.out.box (X5, .slice y1 s.length j1, s) (List.mem_cons_of_mem _ List.mem_cons_self)).1.cell 0 _ rfl
      have zC := (S.out.box (X3, .slice u3 pc.length k3, pc) (List.mem_cons_of_mem _ (List.mem_cons_of_mem _ (List.mem_cons_of_mem _ List.mem_cons_self)))).1.cell 0 _ rfl
      go_wp2_with fail
      clear zSb zC
      generalize hZ0 : wv5.heap.size = X6 at S ⊢
      clear hZ0
      generalize (wv5.alloc (.cells #[.slice y2 t.length j2] 25)) = wv26 at S ⊢
      obtain ⟨D0, d0⟩ := (S.out.box (X5, .slice y1 s.length j1, s) (List.mem_cons_of_mem _ List.mem_cons_self)).2
      obtain ⟨D1, d1⟩ := (S.out.box (X3, .slice u3 pc.length k3, pc) (List.mem_cons_of_mem _ (List.mem_cons_of_mem _ (List.mem_cons_of_mem _ List.mem_cons_self)))).2
      refine (implAdd s pc   D0 D1  _ _ _ d0 d1 ).mono ?_
      rintro e wv27 ⟨y10, l10, j10, he, W3, hb⟩
      clear d0 d1 
      rw [Ex.out.1] at W3
      obtain rfl := Draw.wp_len W3
      rw [Ex.out.2] at he
      obtain ⟨D9, r9⟩ := W3.read
      subst he
      clear W3
      have S2 := hide (S.out.below hb)
      clear S hb
      have S := S2
      clear S2
      have S2 := hide (Pit.add S.out r9)
      clear S r9
      have S := S2
      clear S2
      have zA := (S.out.box (X1, .slice u1 pa.length k1, pa) (List.mem_cons_of_mem _ (List.mem_cons_of_mem _ (List.mem_cons_of_mem _ (List.mem_cons_of_mem _ (List.mem_cons_of_mem _ (List.mem_cons_of_mem _ List.mem_cons_self))))))).1.cell 0 _ rfl
      have zTb := (S.out.box (X6, .slice y2 t.length j2, t) (List.mem_cons_of_mem _ List.mem_cons_self)).1.cell 0 _ rfl
      go_wp2_with fail
      clear zA zTb
      generalize hZ0 : wv27.heap.size = X7 at S ⊢
      clear hZ0
      generalize (wv27.alloc (.cells #[.slice y10 x.length j10] 25)) = wv28 at S ⊢
      obtain ⟨D0, d0⟩ := (S.out.box (X1, .slice u1 pa.length k1, pa) (List.mem_cons_of_mem _ (List.mem_cons_of_mem _ (List.mem_cons_of_mem _ (List.mem_cons_of_mem _ (List.mem_cons_of_mem _ (List.mem_cons_of_mem _ List.mem_cons_self))))))).2
      obtain ⟨D1, d1⟩ := (S.out.box (X6, .slice y2 t.length j2, t) (List.mem_cons_of_mem _ List.mem_cons_self)).2
      refine (implAdd pa t   D0 D1  _ _ _ d0 d1 ).mono ?_
      rintro e wv29 ⟨y11, l11, j11, he, W3, hb⟩
      clear d0 d1 
      rw [Ey.out.1] at W3
      obtain rfl := Draw.wp_len W3
      rw [Ey.out.2] at he
      obtain ⟨D9, r9⟩ := W3.read
      subst he
      clear W3
      have S2 := hide (S.out.below hb)
      clear S hb
      have S := S2
      clear S2
      have S2 := hide (Pit.add S.out r9)
      clear S r9
      have S := S2
      clear S2
      have nb : (okx != okx) = false := by cases okx <;> rfl
      have zXb := (S.out.box (X7, .slice y10 x.length j10, x) (List.mem_cons_of_mem _ List.mem_cons_self)).1.cell 0 _ rfl
      have zYb := (S.out.box (wv29.heap.size, .slice y11 x.length j11, x) List.mem_cons_self).1.cell 0 _ rfl
      go_wp2_with fail
      clear zXb zYb
      generalize hZ0 : wv29.heap.size = X8 at S ⊢
      clear hZ0
      generalize (wv29.alloc (.cells #[.slice y11 x.length j11] 25)) = wv30 at S ⊢
      obtain ⟨D0, d0⟩ := (S.out.box (X7, .slice y10 x.length j10, x) (List.mem_cons_of_mem _ List.mem_cons_self)).2
      obtain ⟨D1, d1⟩ := (S.out.box (X8, .slice y11 x.length j11, x) List.mem_cons_self).2
      refine (La.laPoly x x   D0 D1  _ _ _ d0 d1 ).mono ?_
      rintro e wv31 ⟨he, hb⟩
      clear d0 d1 
      rw [show decide (x = x) = true from decide_eq_true rfl] at he
      subst he
      clear nb
      have S2 := hide (S.out.below hb)
      clear S hb
      have S := S2
      clear S2
      have zC := (S.out.box (X3, .slice u3 pc.length k3, pc) (List.mem_cons_of_mem _ (List.mem_cons_of_mem _ (List.mem_cons_of_mem _ (List.mem_cons_of_mem _ (List.mem_cons_of_mem _ List.mem_cons_self)))))).1.cell 0 _ rfl
      have zSb := (S.out.box (X5, .slice y1 s.length j1, s) (List.mem_cons_of_mem _ (List.mem_cons_of_mem _ (List.mem_cons_of_mem _ List.mem_cons_self)))).1.cell 0 _ rfl
      go_wp2_with fail
      clear zC zSb
      obtain ⟨D0, d0⟩ := (S.out.box (X3, .slice u3 pc.length k3, pc) (List.mem_cons_of_mem _ (List.mem_cons_of_mem _ (List.mem_cons_of_mem _ (List.mem_cons_of_mem _ (List.mem_cons_of_mem _ List.mem_cons_self)))))).2
      obtain ⟨D1, d1⟩ := (S.out.box (X5, .slice y1 s.length j1, s) (List.mem_cons_of_mem _ (List.mem_cons_of_mem _ (List.mem_cons_of_mem _ List.mem_cons_self)))).2
      refine (implMul pc s   D0 D1  _ _ _ d0 d1 ).mono ?_
      rintro e wv32 ⟨y12, l12, j12, he, W3, hb⟩
      clear d0 d1 
      rw [Ep.out.1] at W3
      obtain rfl := Draw.wp_len W3
      rw [Ep.out.2] at he
      obtain ⟨D9, r9⟩ := W3.read
      subst he
      clear W3
      have S2 := hide (S.out.below hb)
      clear S hb
      have S := S2
      clear S2
      have S2 := hide (Pit.add S.out r9)
      clear S r9
      have S := S2
      clear S2
      have zC := (S.out.box (X3, .slice u3 pc.length k3, pc) (List.mem_cons_of_mem _ (List.mem_cons_of_mem _ (List.mem_cons_of_mem _ (List.mem_cons_of_mem _ (List.mem_cons_of_mem _ (List.mem_cons_of_mem _ List.mem_cons_self))))))).1.cell 0 _ rfl
      have zA := (S.out.box (X1, .slice u1 pa.length k1, pa) (List.mem_cons_of_mem _ (List.mem_cons_of_mem _ (List.mem_cons_of_mem _ (List.mem_cons_of_mem _ (List.mem_cons_of_mem _ (List.mem_cons_of_mem _ (List.mem_cons_of_mem _ (List.mem_cons_of_mem _ List.mem_cons_self))))))))).1.cell 0 _ rfl
      go_wp2_with fail
      clear zC zA
      generalize hZ0 : wv32.heap.size = X9 at S ⊢
      clear hZ0
      generalize (wv32.alloc (.cells #[.slice y12 p.length j12] 25)) = wv33 at S ⊢
      obtain ⟨D0, d0⟩ := (S.out.box (X3, .slice u3 pc.length k3, pc) (List.mem_cons_of_mem _ (List.mem_cons_of_mem _ (List.mem_cons_of_mem _ (List.mem_cons_of_mem _ (List.mem_cons_of_mem _ (List.mem_cons_of_mem _ List.mem_cons_self))))))).2
      obtain ⟨D1, d1⟩ := (S.out.box (X1, .slice u1 pa.length k1, pa) (List.mem_cons_of_mem _ (List.mem_cons_of_mem _ (List.mem_cons_of_mem _ (List.mem_cons_of_mem _ (List.mem_cons_of_mem _ (List.mem_cons_of_mem _ (List.mem_cons_of_mem _ (List.mem_cons_of_mem _ List.mem_cons_self))))))))).2
      refine (implMul pc pa   D0 D1  _ _ _ d0 d1 ).mono ?_
      rintro e wv34 ⟨y13, l13, j13, he, W3, hb⟩
      clear d0 d1 
      rw [Eq.out.1] at W3
      obtain rfl := Draw.wp_len W3
      rw [Eq.out.2] at he
      obtain ⟨D9, r9⟩ := W3.read
      subst he
      clear W3
      have S2 := hide (S.out.below hb)
      clear S hb
      have S := S2
      clear S2
      have S2 := hide (Pit.add S.out r9)
      clear S r9
      have S := S2
      clear S2
      have zC := (S.out.box (X3, .slice u3 pc.length k3, pc) (List.mem_cons_of_mem _ (List.mem_cons_of_mem _ (List.mem_cons_of_mem _ (List.mem_cons_of_mem _ (List.mem_cons_of_mem _ (List.mem_cons_of_mem _ (List.mem_cons_of_mem _ List.mem_cons_self)))))))).1.cell 0 _ rfl
      have zB := (S.out.box (X2, .slice u2 pb.length k2, pb) (List.mem_cons_of_mem _ (List.mem_cons_of_mem _ (List.mem_cons_of_mem _ (List.mem_cons_of_mem _ (List.mem_cons_of_mem _ (List.mem_cons_of_mem _ (List.mem_cons_of_mem _ (List.mem_cons_of_mem _ List.mem_cons_self))))))))).1.cell 0 _ rfl
      go_wp2_with fail
      clear zC zB
      generalize hZ0 : wv34.heap.size = X10 at S ⊢
      clear hZ0
      generalize (wv34.alloc (.cells #[.slice y13 q.length j13] 25)) = wv35 at S ⊢
      obtain ⟨D0, d0⟩ := (S.out.box (X3, .slice u3 pc.length k3, pc) (List.mem_cons_of_mem _ (List.mem_cons_of_mem _ (List.mem_cons_of_mem _ (List.mem_cons_of_mem _ (List.mem_cons_of_mem _ (List.mem_cons_of_mem _ (List.mem_cons_of_mem _ List.mem_cons_self)))))))).2
      obtain ⟨D1, d1⟩ := (S.out.box (X2, .slice u2 pb.length k2, pb) (List.mem_cons_of_mem _ (List.mem_cons_of_mem _ (List.mem_cons_of_mem _ (List.mem_cons_of_mem _ (List.mem_cons_of_mem _ (List.mem_cons_of_mem _ (List.mem_cons_of_mem _ (List.mem_cons_of_mem _ List.mem_cons_self))))))))).2
      refine (implMul pc pb   D0 D1  _ _ _ d0 d1 ).mono ?_
      rintro e wv36 ⟨y14, l14, j14, he, W3, hb⟩
      clear d0 d1 
      rw [Er.out.1] at W3
      obtain rfl := Draw.wp_len W3
      rw [Er.out.2] at he
      obtain ⟨D9, r9⟩ := W3.read
      subst he
      clear W3
      have S2 := hide (S.out.below hb)
      clear S hb
      have S := S2
      clear S2
      have S2 := hide (Pit.add S.out r9)
      clear S r9
      have S := S2
      clear S2
      cases okp with
      | false =>
        go_wp2_with fail
        generalize hZ0 : wv36.heap.size = X11 at S ⊢
        clear hZ0
        generalize (wv36.alloc (.cells #[.slice y14 r.length j14] 25)) = wv37 at S ⊢
        refine (La.laOk wv37).mono ?_
        rintro e wz ⟨rfl, rfl⟩
        have FIN := hide S.out.bw
        clear S
        go_wp2
        go_ret
        exact ⟨rfl, FIN.out⟩
      | true =>
        cases okq with
        | false =>
          go_wp2_with fail
          generalize hZ0 : wv36.heap.size = X11 at S ⊢
          clear hZ0
          generalize (wv36.alloc (.cells #[.slice y14 r.length j14] 25)) = wv38 at S ⊢
          refine (La.laOk wv38).mono ?_
          rintro e wz ⟨rfl, rfl⟩
          have FIN := hide S.out.bw
          clear S
          go_wp2
          go_ret
          exact ⟨rfl, FIN.out⟩
        | true =>
          cases okr with
          | false =>
            go_wp2_with fail
            generalize hZ0 : wv36.heap.size = X11 at S ⊢
            clear hZ0
            generalize (wv36.alloc (.cells #[.slice y14 r.length j14] 25)) = wv39 at S ⊢
            refine (La.laOk wv39).mono ?_
            rintro e wz ⟨rfl, rfl⟩
            have FIN := hide S.out.bw
            clear S
            go_wp2
            go_ret
            exact ⟨rfl, FIN.out⟩
          | true =>
            obtain ⟨rfl, rfl⟩ := FM.out (by simp) (by simp) (by simp) (by simp)
            have zQb := (S.out.box (X10, .slice y13 q.length j13, q) (List.mem_cons_of_mem _ List.mem_cons_self)).1.cell 0 _ rfl
            have zRb := (S.out.box (wv36.heap.size, .slice y14 r.length j14, r) List.mem_cons_self).1.cell 0 _ rfl
            go_wp2_with fail
            clear zQb zRb
            generalize hZ0 : wv36.heap.size = X11 at S ⊢
            clear hZ0
            generalize (wv36.alloc (.cells #[.slice y14 r.length j14] 25)) = wv40 at S ⊢
            obtain ⟨D0, d0⟩ := (S.out.box (X10, .slice y13 q.length j13, q) (List.mem_cons_of_mem _ List.mem_cons_self)).2
            obtain ⟨D1, d1⟩ := (S.out.box (X11, .slice y14 r.length j14, r) List.mem_cons_self).2
            refine (implAdd q r   D0 D1  _ _ _ d0 d1 ).mono ?_
            rintro e wv41 ⟨y15, l15, j15, he, W3, hb⟩
            clear d0 d1 
            rw [Ez.out.1] at W3
            obtain rfl := Draw.wp_len W3
            rw [Ez.out.2] at he
            obtain ⟨D9, r9⟩ := W3.read
            subst he
            clear W3
            have S2 := hide (S.out.below hb)
            clear S hb
            have S := S2
            clear S2
            have S2 := hide (Pit.add S.out r9)
            clear S r9
            have S := S2
            clear S2
            have zPb := (S.out.box (X9, .slice y12 z.length j12, z) (List.mem_cons_of_mem _ (List.mem_cons_of_mem _ (List.mem_cons_of_mem _ List.mem_cons_self)))).1.cell 0 _ rfl
            have zZb := (S.out.box (wv41.heap.size, .slice y15 z.length j15, z) List.mem_cons_self).1.cell 0 _ rfl
            go_wp2_with fail
            clear zPb zZb
            generalize hZ0 : wv41.heap.size = X12 at S ⊢
            clear hZ0
            generalize (wv41.alloc (.cells #[.slice y15 z.length j15] 25)) = wv42 at S ⊢
            obtain ⟨D0, d0⟩ := (S.out.box (X9, .slice y12 z.length j12, z) (List.mem_cons_of_mem _ (List.mem_cons_of_mem _ (List.mem_cons_of_mem _ List.mem_cons_self)))).2
            obtain ⟨D1, d1⟩ := (S.out.box (X12, .slice y15 z.length j15, z) List.mem_cons_self).2
            refine (La.laPoly z z   D0 D1  _ _ _ d0 d1 ).mono ?_
            rintro e wv43 ⟨he, hb⟩
            clear d0 d1 
            rw [show decide (z = z) = true from decide_eq_true rfl] at he
            subst he
            have S2 := hide (S.out.below hb)
            clear S hb
            have S := S2
            clear S2
            go_wp2_with fail
            refine (La.laOk wv43).mono ?_
            rintro e wz ⟨rfl, rfl⟩
            have FIN := hide S.out.bw
            clear S
            go_wp2
            go_ret
            exact ⟨rfl, FIN.out⟩

set_option maxRecDepth 100000 in
theorem lifted (os : Os) (started : os.Started) (H : Type) (enc : TypeId × Value → H) :
    ReturnsInHanded {} Try.checked os 3 .any (Rows.fnPolRingSpec.pre6 enc Try.prog Try.f3 Rows.fnPolRingRow.domain false) (Rows.fnPolRingSpec.post enc Try.prog Try.f3 false true false false) := by
  refine returnsInHanded_of_change (C := Try.checked) own started (by kernel_rfl) Try.func3
    (ChangeSpec.witness6 (enc := enc) (C := Try.checked) false ⟨#[], #[.slice none 0 0, .slice none 0 0], []⟩ 8 (by kernel_rfl) (by kernel_rfl) (by kernel_rfl) (by kernel_rfl)) ?_
  intro W base args ds gs before hval0 hW hcnd _
  have hval : ∀ (j : Nat) t v, Try.f3.params[j]? = some t → args[j]? = some v → Value.okWide Try.prog W .any base t v := hval0
  have hW' := hW
  obtain ⟨p, q, hA0, hV, rfl, hfz, hnd⟩ := hW
  have hA : DataW.TrodAll enc Try.prog W 0 (fun _ => true) true Try.f3.params.toList args.toList ds p := hA0
  rw [Try.params3] at hA hval
  obtain ⟨v0, vs0, d0, ds0, p0, q0, hargs, rfl, rfl, h0, r0⟩ := trodAll_cons hA
  obtain ⟨v1, vs1, d1, ds1, p1, q1, rfl, rfl, rfl, h1, r1⟩ := trodAll_cons r0
  obtain ⟨rfl, rfl, rfl⟩ := trodAll_nil r1
  obtain rfl : args = #[v0, v1] := by cases args; simp_all
  obtain ⟨rfl, rfl⟩ := trodVars_none hV
  obtain ⟨a0, len0, cap0, rfl⟩ := okWide_slice Try.underlying22 (hval 0 22 v0 rfl rfl)
  have k0 := h0
  have lt0 : ∀ x ∈ p0, x.block < W.heap.size := by obtain ⟨m, hm⟩ := k0; exact DataW.trod_lt m _ _ _ hm
  obtain ⟨z0, w0⟩ : ∃ zs, IsRow .u8 W a0 len0 cap0 zs := by
    obtain ⟨fuel, hf⟩ := h0
    rcases open_ints Try.underlying22 Try.underlying5 (by kernel_rfl) hf with ⟨hcs, _⟩ | ⟨x, l, c, zs, hcs, _, hl, hm, hz, _, hcell, hwz⟩
    · simp [Value.cells] at hcs
      obtain ⟨rfl, rfl, rfl⟩ := hcs
      exact ⟨[], .inl ⟨rfl, rfl, rfl, rfl⟩⟩
    · simp [Value.cells] at hcs
      obtain ⟨rfl, rfl, rfl⟩ := hcs
      exact ⟨zs, .inr ⟨_, rfl, hl, hm, by simpa using hz, hcell, hwz⟩⟩
  obtain ⟨a1, len1, cap1, rfl⟩ := okWide_slice Try.underlying22 (hval 1 22 v1 rfl rfl)
  have k1 := h1
  have lt1 : ∀ x ∈ p1, x.block < W.heap.size := by obtain ⟨m, hm⟩ := k1; exact DataW.trod_lt m _ _ _ hm
  obtain ⟨z1, w1⟩ : ∃ zs, IsRow .u8 W a1 len1 cap1 zs := by
    obtain ⟨fuel, hf⟩ := h1
    rcases open_ints Try.underlying22 Try.underlying5 (by kernel_rfl) hf with ⟨hcs, _⟩ | ⟨x, l, c, zs, hcs, _, hl, hm, hz, _, hcell, hwz⟩
    · simp [Value.cells] at hcs
      obtain ⟨rfl, rfl, rfl⟩ := hcs
      exact ⟨[], .inl ⟨rfl, rfl, rfl, rfl⟩⟩
    · simp [Value.cells] at hcs
      obtain ⟨rfl, rfl, rfl⟩ := hcs
      exact ⟨zs, .inr ⟨_, rfl, hl, hm, by simpa using hz, hcell, hwz⟩⟩
  clear hA0 hval0
  refine (walk a0 len0 cap0 z0 a1 len1 cap1 z1 W w0 w1).mono fun e W' ⟨he, bel⟩ => ?_
  subst he
  exact ⟨_, rfl, _, _, _, [], _, [], hW', trodAll_mk1 (shut_bool Try.underlying4 _), (trodAll_cons_mk (Below.trod laidOut (by kernel_rfl) (of_decide_eq_true (by kernel_rfl)) k0 bel lt0) (trodAll_cons_mk (Below.trod laidOut (by kernel_rfl) (of_decide_eq_true (by kernel_rfl)) k1 bel lt1) trodAll_mk0)), rfl, bel.frame _, fun h => by cases h⟩

theorem over : Rows.fnPolRingRow.holds Try.pinned (OpenSpec.ofChange Rows.fnPolRingSpec) :=
  OpenClaim.holds_of_wide 3 Try.f3 rfl rfl rfl rfl rfl rfl rfl ⟨rfl, rfl, rfl, rfl, rfl⟩ rfl rfl rfl rfl rfl (by kernel_rfl) Try.func3 (by kernel_rfl)
    (of_decide_eq_true (by kernel_rfl)) (by unfold Func.isWrapper; first | (rw [if_pos (by decide +kernel)]; kernel_rfl) | (rw [if_neg (by decide +kernel)]; exact ⟨rfl, rfl⟩))
    (fun os started H enc _ => lifted os started H enc)

theorem proved : Rows.FnPolRingSaid := over
#print axioms proved
end Go.Proofs.Ytckhfpaicnjknaa.fnPolRing
