/-
  At every two codes of bytes the law FnPolScale returns true (P23: PolScale of a sum is PolMul of that word and it, comes to so many times what the sum comes to, by 0 is nothing, by 1 the sum); no condition.
  The frame (the steps lifted, over, proved) is the guide's shell, written by its program; the walk and the lemmas ahead of it are mine.
-/
import Derived.Test.YtckhfpaicnjknaaGreatRows
import Derived.WalkKit
import Derived.ProofKit
import Derived.OpenShut
import Derived.Test.YtckhfpaicnjknaaGreatJoH
import Derived.Test.YtckhfpaicnjknaaGreatDrawPf
import Derived.Test.YtckhfpaicnjknaaGreatPolMl
import Derived.Test.YtckhfpaicnjknaaGreatPolSc
import Derived.Test.YtckhfpaicnjknaaGreatPolV
import Derived.ShutString
import Derived.ChangeOld
import Derived.Below
namespace Go.Proofs.YtckhfpaicnjknaaGreat.fnPolScale
open Go.ChangeShapes Go.WideShapes Go.ChangeAt Go.RowKit
open Go.ChangeMaps (open_string shut_string)
set_option linter.unusedVariables false

theorem own : ownKnob Tryz.prog.godebug = none := by kernel_rfl
theorem laidOut : laidOutB Tryz.prog = true := by kernel_rfl

def IsRow (k : IntKind) (w : World) (a : Option Addr) (len cap : Nat) (zs : List Int) : Prop :=
  (a = none ∧ len = 0 ∧ cap = 0 ∧ zs = []) ∨
  ∃ x, a = some x ∧ len ≤ cap ∧ cap ≤ maxLen ∧ zs.length = cap ∧ (∀ i, i < zs.length → w.cell? (x.add i) = some (.int k (zs.getD i 0))) ∧ ∀ n ∈ zs, (Lit.int k n).wf = true

open IntS Pol
set_option linter.unusedVariables false
set_option linter.unusedSimpArgs false
theorem wordsB_of {ws : List Int} (h : ∀ x ∈ ws, 0 ≤ x ∧ x < 65536) : wordsB ws = true := by
  unfold wordsB
  rw [List.all_eq_true]
  exact fun x hx => Wrd.wok_t (h x hx).1 (h x hx).2
theorem eval_word {ps : List Mono} {ws : List Int} (h1 : okP ps = true) (h2 : wordsB ws = true) : 0 ≤ evalP ps ws ∧ evalP ps ws < 65536 := by
  rw [eval_yes h1 h2]
  exact sum_word ws ps 0 (by omega)
theorem wdo_mul {a b : Int} (ha : 0 ≤ a ∧ a < 65536) (hb : 0 ≤ b ∧ b < 65536) : Wrd.wdo 3 a b = a * b % 65536 := by
  unfold Wrd.wdo
  rw [if_pos ⟨ha.1, ha.2, hb.1, hb.2⟩]
  rfl
theorem wdo_add {a b : Int} (ha : 0 ≤ a ∧ a < 65536) (hb : 0 ≤ b ∧ b < 65536) : Wrd.wdo 1 a b = (a + b) % 65536 := by
  unfold Wrd.wdo
  rw [if_pos ⟨ha.1, ha.2, hb.1, hb.2⟩]
  rfl
theorem fieldP (a : Option Addr) (n c : Nat) (w : World) : (Instr.field 25 (.agg #[.slice a n c]) 0).run Tryz.prog w = .ok (.slice a n c) w := by kernel_rfl
theorem scale_okp {ps : List Mono} {n : Int} (h : okP ps = true) (h2 : 0 ≤ n) (h3 : n < 65536) : okP (scaleP ps n) = true := by rw [scale_word h h2 h3]; exact (scale_good (ok_good h)).ok

set_option maxRecDepth 8000 in
set_option maxHeartbeats 16000000 in
theorem walk (a0 : Option Addr) (len0 cap0 : Nat) (z0 : List Int) (a1 : Option Addr) (len1 cap1 : Nat) (z1 : List Int) (w : World) (w0 : IsRow .u8 w a0 len0 cap0 z0) (w1 : IsRow .u8 w a1 len1 cap1 z1) :
    Calls Tryz.prog 5 #[.slice a0 len0 cap0, .slice a1 len1 cap1] w fun e w' => e = .returned (.bool true) ∧ Below w.heap.size w w' := by
  obtain ⟨hlc, hm, hc⟩ := Draw.code_row w a0 len0 cap0 z0 w0
  obtain ⟨hlc1, hm1, hc1⟩ := Draw.code_row w a1 len1 cap1 z1 w1
  by_cases hl : 1048576 < len0
  · unfold maxLen at hm hm1
    go_enter Tryz.func5, Tryz.ntmps5
    go_wp2
    go_ret
    exact ⟨rfl, Below.refl _ _⟩
  by_cases hl1 : 1048576 < len1
  · unfold maxLen at hm hm1
    go_enter Tryz.func5, Tryz.ntmps5
    go_wp2
    go_ret
    exact ⟨rfl, Below.refl _ _⟩
  clear w0 w1
  go_enter Tryz.func5, Tryz.ntmps5
  go_wp2_with fail
  refine (Draw.drawScale a0 len0 cap0 _ hlc hm hc).mono ?_
  rintro e va ⟨u1, k1, pa, nn, B1, rfl, r1, n0, n1, hb⟩
  have NB := hide (And.intro n0 n1)
  have S := hide (Pit.new hb)
  replace hc1 := hide ((hc1.below hb).below (Draw.alloc_below va (.cells #[.slice u1 pa.length k1] 25)))
  clear hb hc hm hlc n0 n1
  have S2 := hide (Pit.add S.out r1)
  clear S r1
  have S := S2
  clear S2
  go_wp2_with fail
  generalize hZ0 : va.heap.size = X1 at S ⊢
  clear hZ0
  generalize (va.alloc (.cells #[.slice u1 pa.length k1] 25)) = wv1 at S hc1 ⊢
  refine (Draw.drawEval a1 len1 cap1 _ hlc1 hm1 hc1.out).mono ?_
  rintro e vb ⟨u3, k3, pe, g1, nx, c2, xs, B1, B2, rfl, lx, n7, r2, rr, hb⟩
  have HX := hide (And.intro lx n7)
  clear hc1 hm1 hlc1 lx n7
  have S2 := hide (S.out.below hb)
  clear S hb
  have S := S2
  clear S2
  have S2 := hide (S.out.addRow rr)
  clear S rr
  have S := S2
  clear S2
  have S2 := hide (Pit.add S.out r2)
  clear S r2
  have S := S2
  clear S2
  have zA := (S.out.box (X1, .slice u1 pa.length k1, pa) (List.mem_cons_of_mem _ List.mem_cons_self)).1.cell 0 _ rfl
  go_wp2_with fail
  clear zA
  generalize hZ0 : vb.heap.size = X2 at S ⊢
  clear hZ0
  generalize (vb.alloc (.cells #[.slice u3 pe.length k3] 25)) = wv2 at S ⊢
  obtain ⟨s0, es0⟩ : ∃ s, scaleP pa nn = s := ⟨_, rfl⟩
  obtain ⟨oka, eka⟩ : ∃ oka, okP pa = oka := ⟨_, rfl⟩
  obtain ⟨wk, ewk⟩ : ∃ wk, Wrd.wok nn = wk := ⟨_, rfl⟩
  have ES := hide es0
  have EA := hide eka
  have EW := hide ewk
  have FS : Hid (oka = false ∨ wk = false → s0 = []) := fun h => by
    rw [← es0]
    refine scale_no (fun h2 => ?_)
    rcases h with h | h
    · rw [eka, h] at h2; exact absurd h2.1 (by decide)
    · rw [ewk, h] at h2; exact absurd h2.2 (by decide)
  clear es0 eka ewk
  obtain ⟨D0, d0⟩ := (S.out.box (X1, .slice u1 pa.length k1, pa) (List.mem_cons_of_mem _ List.mem_cons_self)).2
  refine (implScale pa  nn D0  _ _ d0 ).mono ?_
  rintro e wv3 ⟨y1, l1, j1, rfl, W3, hb⟩
  clear d0 
  rw [ES.out] at W3
  obtain rfl := Draw.wp_len W3
  obtain ⟨D9, r9⟩ := W3.read
  clear W3
  have S2 := hide (S.out.below hb)
  clear S hb
  have S := S2
  clear S2
  have S2 := hide (Pit.add S.out r9)
  clear S r9
  have S := S2
  clear S2
  go_wp2_with fail
  generalize hZ0 : wv3.heap.size = X3 at S ⊢
  clear hZ0
  generalize (wv3.alloc (.cells #[.slice y1 s0.length j1] 25)) = wv4 at S ⊢
  refine (wpIn_wide (n := 0)).1 ?_
  have S2 := hide S.out.drew
  clear S
  refine PhaseIn.region (S := fun v => Pit w [(X3, .slice y1 s0.length j1, s0), (X2, .slice u3 pe.length k3, pe), (X1, .slice u1 pa.length k1, pa)] [((.slice (some ⟨g1, 0, none⟩) nx c2), xs)] v) 6 (by kernel_rfl) ?_
  generalize wv4.drew = wv5 at *
  have hHeld := S2.out
  clear S2
  refine PhaseIn.takeD (i := 0) (v := ?_) [0, 4, 5] 33 rfl (by rfl) (by kernel_rfl) (by kernel_rfl) (by kernel_rfl) (by kernel_rfl) (by kernel_rfl) (fun _ _ _ h => h) (Or.inl ⟨by kernel_rfl, ?_⟩) hHeld ?_
  rotate_left
  · intro w' hSw
    (try dsimp only at hSw)
    have z0 := (hSw.box (X3, .slice y1 s0.length j1, s0) List.mem_cons_self).1.cell 0 _ rfl
    go_simp
    first | done | with_reducible rfl
  try simp only [Act.put, List.setIfInBounds_toArray, List.set]
  refine PhaseIn.takeD (i := 1) (v := ?_) [1, 3, 4, 5] 34 rfl (by rfl) (by kernel_rfl) (by kernel_rfl) (by kernel_rfl) (by kernel_rfl) (by kernel_rfl) (fun _ _ _ h => h) (Or.inl ⟨by kernel_rfl, ?_⟩) hHeld ?_
  rotate_left
  · intro w' hSw
    (try dsimp only at hSw)
    have z0 := (hSw.box (X1, .slice u1 pa.length k1, pa) (List.mem_cons_of_mem _ (List.mem_cons_of_mem _ List.mem_cons_self))).1.cell 0 _ rfl
    go_simp
    first | done | with_reducible rfl
  try simp only [Act.put, List.setIfInBounds_toArray, List.set]
  refine PhaseIn.takeD (i := 2) (v := ?_) [2, 3, 4, 5] 35 rfl (by rfl) (by kernel_rfl) (by kernel_rfl) (by kernel_rfl) (by kernel_rfl) (by kernel_rfl) (fun _ _ _ h => h) (Or.inl ⟨by kernel_rfl, ?_⟩) hHeld ?_
  rotate_left
  · intro w' hSw
    (try dsimp only at hSw)
    go_simp
    first | done | with_reducible rfl
  try simp only [Act.put, List.setIfInBounds_toArray, List.set]
  obtain ⟨D0, d0⟩ := (hHeld.box (X1, .slice u1 pa.length k1, pa) (List.mem_cons_of_mem _ (List.mem_cons_of_mem _ List.mem_cons_self))).2
  refine PhaseIn.one (i := 3) (by kernel_rfl) rfl (by kernel_rfl) (fun K hK => ?_)
  unfold Oper.wpIn
  refine ⟨fun _ _ => trivial, ?_⟩
  go_simp
  refine ⟨rfl, (callsIn_wide.2 (specScale pa nn D0 _ wv5 d0)).mono ?_⟩
  rintro e wv6 ⟨a5, l5, c5, rfl, W3, hb⟩
  rw [ES.out] at W3
  obtain rfl := Draw.wp_len W3
  obtain ⟨D8, r8⟩ := W3.read
  clear W3 d0
  replace hHeld := hHeld.below hb
  clear hb
  refine hK _ _ (fun _ => hHeld) ?_
  clear hK K
  try simp only [Act.put, List.setIfInBounds_toArray, List.set]
  obtain ⟨D1, d1⟩ := (hHeld.box (X3, .slice y1 s0.length j1, s0) List.mem_cons_self).2
  refine PhaseIn.one (i := 4) (by kernel_rfl) rfl (by kernel_rfl) (fun K hK => ?_)
  unfold Oper.wpIn
  refine ⟨fun _ _ => trivial, ?_⟩
  go_simp
  refine ⟨rfl, (callsIn_wide.2 (La.laPoly s0 s0 D1 D8 _ _ wv6 d1 r8)).mono ?_⟩
  rintro e wv7 ⟨he, hb⟩
  rw [show decide (s0 = s0) = true from decide_eq_true rfl] at he
  subst he
  clear d1 r8
  replace hHeld := hHeld.below hb
  clear hb
  refine hK _ _ (fun _ => hHeld) ?_
  clear hK K
  try simp only [Act.put, List.setIfInBounds_toArray, List.set]
  refine PhaseIn.takeD (i := 5) (v := ?_) [5] 38 rfl (by rfl) (by kernel_rfl) (by kernel_rfl) (by kernel_rfl) (by kernel_rfl) (by kernel_rfl) (fun _ _ _ h => h) (Or.inl ⟨by kernel_rfl, ?_⟩) hHeld ?_
  rotate_left
  · intro w' hSw
    (try dsimp only at hSw)
    go_simp
    first | done | with_reducible rfl
  try simp only [Act.put, List.setIfInBounds_toArray, List.set]
  refine PhaseIn.done (by kernel_rfl) ?_ _
  have S := hide hHeld
  clear hHeld
  have zA := (S.out.box (X1, .slice u1 pa.length k1, pa) (List.mem_cons_of_mem _ (List.mem_cons_of_mem _ List.mem_cons_self))).1.cell 0 _ rfl
  go_wp2_with fail
  clear zA
  obtain ⟨D0, d0⟩ := (S.out.box (X1, .slice u1 pa.length k1, pa) (List.mem_cons_of_mem _ (List.mem_cons_of_mem _ List.mem_cons_self))).2
  refine (specOk pa   D0  _ _ d0 ).mono ?_
  rintro e wv8 ⟨he, hb⟩
  clear d0 
  rw [EA.out] at he
  subst he
  have S2 := hide (S.out.below hb)
  clear S hb
  have S := S2
  clear S2
  cases oka with
  | false =>
    obtain rfl := FS.out (Or.inl rfl)
    rw [List.length_nil] at S
    have zP := (S.out.box (X3, .slice y1 0 j1, ([] : List Mono)) List.mem_cons_self).1.cell 0 _ rfl
    go_wp2_with fail
    clear zP
    refine (La.laOk wv8).mono ?_
    rintro e wz ⟨rfl, rfl⟩
    have FIN := hide S.out.bw
    clear S
    go_wp2
    go_ret
    exact ⟨rfl, FIN.out⟩
  | true =>
    go_wp2_with fail
    refine (Wrd.specOk nn wv8).mono ?_
    rintro e wz ⟨rfl, hw⟩
    rw [hw, EW.out]
    clear hw wz
    cases wk with
    | false =>
      obtain rfl := FS.out (Or.inr rfl)
      rw [List.length_nil] at S
      have zP := (S.out.box (X3, .slice y1 0 j1, ([] : List Mono)) List.mem_cons_self).1.cell 0 _ rfl
      go_wp2_with fail
      clear zP
      refine (La.laOk wv8).mono ?_
      rintro e wz ⟨rfl, rfl⟩
      have FIN := hide S.out.bw
      clear S
      go_wp2
      go_ret
      exact ⟨rfl, FIN.out⟩
    | true =>
      have cw : 0 ≤ nn ∧ nn < 65536 := by have := EW.out; unfold Wrd.wok at this; exact of_decide_eq_true this
      have MC := hide (mul_const EA.out cw.1 cw.2)
      rw [ES.out] at MC
      have OKS : Hid (okP s0 = true) := show _ = _ by rw [← ES.out]; exact scale_okp EA.out cw.1 cw.2
      have CW := hide cw
      clear FS cw NB
      clear hl hl1
      go_wp2_with fail
      refine (wpIn_wide (n := 0)).1 ?_
      have S2 := hide S.out.drew
      clear S
      refine PhaseIn.region (S := fun v => Pit w [(X3, .slice y1 s0.length j1, s0), (X2, .slice u3 pe.length k3, pe), (X1, .slice u1 pa.length k1, pa)] [((.slice (some ⟨g1, 0, none⟩) nx c2), xs)] v) 10 (by kernel_rfl) ?_
      generalize wv8.drew = wv9 at *
      have hHeld := S2.out
      clear S2
      obtain ⟨F, hF⟩ : ∃ F : Value → Value → Value → Value → Value → Value → Act, F = fun sv1 sv2 sv3 sv4 sv5 sv6 => { tmps := #[Value.slice a0 len0 cap0, Value.slice a1 len1 cap1, undef, undef, Value.bool false, Value.pointer (some { block := X1, off := 0 }), Value.int IntKind.i64 nn, Value.pointer (some { block := X2, off := 0 }), Value.slice (some { block := g1, off := 0 }) nx c2, Value.pointer (some { block := X3, off := 0 }), sv6, undef, Value.slice a0 len0 cap0, Value.int IntKind.i64 ↑len0, Value.bool (decide ((1048576 : Int) < (len0 : Int))), Value.bool (decide ((1048576 : Int) < (len0 : Int))), Value.slice a1 len1 cap1, Value.int IntKind.i64 ↑len1, Value.bool (decide ((1048576 : Int) < (len1 : Int))), Value.bool (decide ((1048576 : Int) < (len0 : Int)) || decide ((1048576 : Int) < (len1 : Int))), Value.tuple #[Value.agg #[Value.slice u1 pa.length k1], Value.int IntKind.i64 nn], Value.slice a0 len0 cap0, Value.tuple #[Value.agg #[Value.slice u1 pa.length k1], Value.int IntKind.i64 nn], Value.agg #[Value.slice u1 pa.length k1], Value.int IntKind.i64 nn, Value.tuple #[Value.agg #[Value.slice u3 pe.length k3], Value.slice (some { block := g1, off := 0 }) nx c2], Value.slice a1 len1 cap1, Value.tuple #[Value.agg #[Value.slice u3 pe.length k3], Value.slice (some { block := g1, off := 0 }) nx c2], Value.agg #[Value.slice u3 pe.length k3], Value.slice (some { block := g1, off := 0 }) nx c2, Value.agg #[Value.slice u1 pa.length k1], Value.int IntKind.i64 nn, Value.agg #[Value.slice y1 s0.length j1], Value.agg #[Value.slice y1 s0.length j1], Value.agg #[Value.slice u1 pa.length k1], Value.int IntKind.i64 nn, Value.agg #[Value.slice a5 s0.length c5], Value.bool true, Value.bool false, Value.agg #[Value.slice u1 pa.length k1], Value.bool true, Value.bool false, Value.bool false, Value.int IntKind.i64 nn, Value.bool true, Value.bool false, Value.bool false, undef, undef, undef, undef, undef, undef, undef, sv3, Value.int IntKind.i64 nn, sv1, Value.agg #[Value.slice u1 (List.length pa) k1], sv2, sv4, sv5, undef, undef, undef, undef, undef, undef, undef, undef, undef, undef, undef, undef, undef, undef, undef, undef, undef, undef, undef, undef, undef, undef, undef, undef, undef, undef, undef, undef, undef, undef, undef, undef, undef, undef, undef, undef], defers := [] } := ⟨_, rfl⟩
      refine PhaseIn.takeD (i := 0) (v := ?_) [0, 1, 3, 4, 5, 6, 8, 9] 55 rfl (by rfl) (by kernel_rfl) (by kernel_rfl) (by kernel_rfl) (by kernel_rfl) (by kernel_rfl) (fun _ _ _ h => h) (Or.inl ⟨by kernel_rfl, ?_⟩) hHeld ?_
      rotate_left
      · intro w' hSw
        (try dsimp only at hSw)
        go_simp
        first | done | with_reducible rfl
      try simp only [Act.put, List.setIfInBounds_toArray, List.set]
      refine PhaseIn.takeD (i := 2) (v := ?_) [2, 3, 4, 5, 6, 8, 9] 57 rfl (by rfl) (by kernel_rfl) (by kernel_rfl) (by kernel_rfl) (by kernel_rfl) (by kernel_rfl) (fun _ _ _ h => h) (Or.inl ⟨by kernel_rfl, ?_⟩) hHeld ?_
      rotate_left
      · intro w' hSw
        (try dsimp only at hSw)
        have z0 := (hSw.box (X1, .slice u1 pa.length k1, pa) (List.mem_cons_of_mem _ (List.mem_cons_of_mem _ List.mem_cons_self))).1.cell 0 _ rfl
        go_simp
        first | done | with_reducible rfl
      try simp only [Act.put, List.setIfInBounds_toArray, List.set]
      have RX := hide hHeld
      clear hHeld
      refine PhaseIn.layer1 (F := 6) 1 7 _ _ rfl rfl rfl rfl (fun b => #[true, false, true, false, false, false, false, b, false, false]) (fun b ac W => ∃ sv1 sv2 sv3 sv4 sv5 sv6 : Value, ac = F sv1 sv2 sv3 sv4 sv5 sv6 ∧ Hid (M2 wv9 b sv6 W)) (fun b ac W => ∃ (ax : Option Addr) (lx cx : Nat) (sv2 sv3 sv4 sv5 sv6 : Value), ac = F (Value.agg #[Value.slice ax lx cx]) sv2 sv3 sv4 sv5 sv6 ∧ Hid (M2 wv9 b sv6 W ∧ ∃ B, PRow W B (Value.slice ax lx cx) (constP nn))) ?_ ?_ ?_ ?_ ?_ false _ _ ?_
      · intro b; cases b <;> kernel_rfl
      · kernel_rfl
      · intro b ac W hI
        rw [show 6 + PhaseIn.left1 b = 5 + PhaseIn.left1 b + 1 by omega, show ((fun b => #[true, false, true, false, false, false, false, b, false, false]) b).setIfInBounds 1 true = (fun b => #[true, true, true, false, false, false, false, b, false, false]) b from by cases b <;> kernel_rfl]
        refine PhaseIn.layer1 (F := 5) 3 7 _ _ rfl rfl rfl rfl (fun b => #[true, true, true, false, false, false, false, b, false, false]) (fun b ac W => ∃ (ax : Option Addr) (lx cx : Nat) (sv2 sv3 sv4 sv5 sv6 : Value), ac = F (Value.agg #[Value.slice ax lx cx]) sv2 sv3 sv4 sv5 sv6 ∧ Hid (M2 wv9 b sv6 W ∧ ∃ B, PRow W B (Value.slice ax lx cx) (constP nn))) (fun b ac W => ∃ (a3 : Option Addr) (c3 : Nat) (sv1 sv6 : Value) (sv3 sv4 sv5 : Value), ac = F sv1 (Value.tuple #[Value.agg #[Value.slice a3 (List.length s0) c3], Value.bool true]) sv3 sv4 sv5 sv6 ∧ Hid (N2 wv9 b sv6 a3 c3 s0 W)) ?_ ?_ ?_ ?_ ?_ b _ _ hI
        · intro b; cases b <;> kernel_rfl
        · kernel_rfl
        · intro b ac W hI
          rw [show 5 + PhaseIn.left1 b = 4 + PhaseIn.left1 b + 1 by omega, show ((fun b => #[true, true, true, false, false, false, false, b, false, false]) b).setIfInBounds 3 true = (fun b => #[true, true, true, true, false, false, false, b, false, false]) b from by cases b <;> kernel_rfl]
          refine PhaseIn.thru1 (F := 4) (fun b => #[true, true, true, true, false, false, false, b, false, false]) (fun b => #[true, true, true, true, true, false, false, b, false, false]) (fun b ac W => ∃ (a3 : Option Addr) (c3 : Nat) (sv1 sv6 : Value) (sv3 sv4 sv5 : Value), ac = F sv1 (Value.tuple #[Value.agg #[Value.slice a3 (List.length s0) c3], Value.bool true]) sv3 sv4 sv5 sv6 ∧ Hid (N2 wv9 b sv6 a3 c3 s0 W)) (fun b ac W => ∃ (a3 : Option Addr) (c3 : Nat) (sv1 sv6 : Value) (sv4 sv5 : Value), ac = F sv1 (Value.tuple #[Value.agg #[Value.slice a3 (List.length s0) c3], Value.bool true]) (Value.tuple #[Value.agg #[Value.slice a3 (List.length s0) c3], Value.bool true]) sv4 sv5 sv6 ∧ Hid (N2 wv9 b sv6 a3 c3 s0 W)) ?_ ?_ b _ _ hI
          · intro b ac W hI
            rw [show 4 + PhaseIn.left1 b = 3 + PhaseIn.left1 b + 1 by omega]
            refine PhaseIn.thru1 (F := 3) (fun b => #[true, true, true, true, true, false, false, b, false, false]) (fun b => #[true, true, true, true, true, true, false, b, false, false]) (fun b ac W => ∃ (a3 : Option Addr) (c3 : Nat) (sv1 sv6 : Value) (sv4 sv5 : Value), ac = F sv1 (Value.tuple #[Value.agg #[Value.slice a3 (List.length s0) c3], Value.bool true]) (Value.tuple #[Value.agg #[Value.slice a3 (List.length s0) c3], Value.bool true]) sv4 sv5 sv6 ∧ Hid (N2 wv9 b sv6 a3 c3 s0 W)) (fun b ac W => ∃ (a3 : Option Addr) (c3 : Nat) (sv1 sv6 : Value) (sv5 : Value), ac = F sv1 (Value.tuple #[Value.agg #[Value.slice a3 (List.length s0) c3], Value.bool true]) (Value.tuple #[Value.agg #[Value.slice a3 (List.length s0) c3], Value.bool true]) (Value.agg #[Value.slice a3 (List.length s0) c3]) sv5 sv6 ∧ Hid (N2 wv9 b sv6 a3 c3 s0 W)) ?_ ?_ b _ _ hI
            · intro b ac W hI
              rw [show 3 + PhaseIn.left1 b = 2 + PhaseIn.left1 b + 1 by omega]
              refine PhaseIn.thru1 (F := 2) (fun b => #[true, true, true, true, true, true, false, b, false, false]) (fun b => #[true, true, true, true, true, true, true, b, false, false]) (fun b ac W => ∃ (a3 : Option Addr) (c3 : Nat) (sv1 sv6 : Value) (sv5 : Value), ac = F sv1 (Value.tuple #[Value.agg #[Value.slice a3 (List.length s0) c3], Value.bool true]) (Value.tuple #[Value.agg #[Value.slice a3 (List.length s0) c3], Value.bool true]) (Value.agg #[Value.slice a3 (List.length s0) c3]) sv5 sv6 ∧ Hid (N2 wv9 b sv6 a3 c3 s0 W)) (fun b ac W => ∃ (a3 : Option Addr) (c3 : Nat) (sv1 sv6 : Value), ac = F sv1 (Value.tuple #[Value.agg #[Value.slice a3 (List.length s0) c3], Value.bool true]) (Value.tuple #[Value.agg #[Value.slice a3 (List.length s0) c3], Value.bool true]) (Value.agg #[Value.slice a3 (List.length s0) c3]) (Value.bool true) sv6 ∧ Hid (N2 wv9 b sv6 a3 c3 s0 W)) ?_ ?_ b _ _ hI
              · refine PhaseIn.last1 (F := 2) 7 _ rfl rfl (fun b => #[true, true, true, true, true, true, true, b, false, false]) (fun b ac W => ∃ (a3 : Option Addr) (c3 : Nat) (sv1 sv6 : Value), ac = F sv1 (Value.tuple #[Value.agg #[Value.slice a3 (List.length s0) c3], Value.bool true]) (Value.tuple #[Value.agg #[Value.slice a3 (List.length s0) c3], Value.bool true]) (Value.agg #[Value.slice a3 (List.length s0) c3]) (Value.bool true) sv6 ∧ Hid (N2 wv9 b sv6 a3 c3 s0 W)) ?_ ?_ ?_ ?_
                · kernel_rfl
                · kernel_rfl
                · rintro ac W K ⟨a3, c3, sv1, sv6, rfl, S0⟩ hK
                  unfold Oper.wpIn
                  subst hF
                  refine ⟨fun _ _ => trivial, ?_⟩
                  go_simp
                  have S' := hide (S0.out.box 25)
                  try simp only [Act.put, List.setIfInBounds_toArray, List.set]
                  exact hK _ _ (RX.out.below S'.out.m.bw) ⟨a3, c3, sv1, _, rfl, S'⟩
                · rintro ac W ⟨a3, c3, sv1, sv6, rfl, S0⟩
                  obtain ⟨Z, rfl, RZ, zd⟩ := S0.out.m.z rfl
                  subst hF
                  dsimp only
                  refine PhaseIn.one (i := 8) (by kernel_rfl) rfl (by kernel_rfl) (fun K hK => ?_)
                  refine Draw.layInP _ _ rfl Z _ RZ rfl a3 (List.length s0) c3 rfl ?_
                  intro V RV TV
                  have DN := hide (S0.out.over RV.out TV.out)
                  refine hK _ _ (fun _ => (RX.out.below DN.out.bw)) ?_
                  clear hK K RV TV S0 RZ
                  try simp only [Act.put, List.setIfInBounds_toArray, List.set]
                  have hHeld := RX.out.below DN.out.bw
                  refine PhaseIn.takeD (i := 9) (v := ?_) [9] 11 rfl (by rfl) (by kernel_rfl) (by kernel_rfl) (by kernel_rfl) (by kernel_rfl) (by kernel_rfl) (fun _ _ _ h => h) (Or.inl ⟨by kernel_rfl, ?_⟩) hHeld ?_
                  rotate_left
                  · intro w' hSw
                    (try dsimp only at hSw)
                    go_simp
                    first | done | with_reducible rfl
                  try simp only [Act.put, List.setIfInBounds_toArray, List.set]
                  refine PhaseIn.done (by kernel_rfl) ?_ _
                  obtain ⟨D9, r9⟩ := DN.out.pr
                  have S := hide (Pit.more hHeld DN.out.rz r9)
                  clear hHeld DN RX r9 zd
                  try dsimp only
                  go_wp2_with fail
                  obtain ⟨E0, e0⟩ := (S.out.row ((.slice (some ⟨g1, 0, none⟩) nx c2), xs) List.mem_cons_self)
                  refine (La.laWords xs E0 _ _ e0 (by have := HX.out; omega)).mono ?_
                  rintro e ww ⟨g2, c4, B3, rfl, rw0, hb⟩
                  clear e0
                  have S2 := hide (S.out.below hb)
                  clear S hb
                  have S := S2
                  clear S2
                  obtain ⟨ws, ews⟩ : ∃ ws, La.wordsOf xs = ws := ⟨_, rfl⟩
                  have WW := wordsB_of (La.words_ok xs)
                  rw [ews] at WW rw0 ⊢
                  clear ews HX
                  have S2 := hide (S.out.addRow rw0)
                  clear S rw0
                  have S := S2
                  clear S2
                  obtain ⟨va1, eva⟩ : ∃ v, evalP pa ws = v := ⟨_, rfl⟩
                  obtain ⟨vm1, evm⟩ : ∃ v, evalP s0 ws = v := ⟨_, rfl⟩
                  have HV : Hid (Wrd.wdo 3 nn va1 = vm1) := show _ = _ by
                    have h1 := eval_word EA.out WW
                    rw [← evm, ← eva, wdo_mul CW.out h1, eval_yes OKS.out WW, eval_yes EA.out WW, ← scale_val ws EA.out CW.out.1 CW.out.2, ES.out]
                  have SO := hide (scale_one EA.out)
                  have SZ := hide (scale_zero EA.out)
                  have VA := hide eva
                  have VM := hide evm
                  clear eva evm WW EA EW MC ES CW
                  go_wp2_with fail
                  refine (wpIn_wide (n := 0)).1 ?_
                  have S2 := hide S.out.drew
                  clear S
                  refine PhaseIn.region (S := fun v => Pit w [(Z, .slice a3 (List.length s0) c3, s0), (X3, .slice y1 s0.length j1, s0), (X2, .slice u3 pe.length k3, pe), (X1, .slice u1 pa.length k1, pa)] [((.slice (some ⟨g2, 0, none⟩) ws.length c4), ws), ((.slice (some ⟨g1, 0, none⟩) nx c2), xs)] v) 35 (by kernel_rfl) ?_
                  generalize ww.drew = wv10 at *
                  have hHeld := S2.out
                  clear S2
                  refine PhaseIn.takeD (i := 0) (v := ?_) [0, 1, 2, 3, 4, 5, 6, 7, 8, 9, 10, 11, 12, 13, 14, 15, 16, 17, 18, 19, 20, 21, 22, 23, 24, 25, 26, 27, 28, 29, 30, 31, 32, 33, 34] 63 rfl (by rfl) (by kernel_rfl) (by kernel_rfl) (by kernel_rfl) (by kernel_rfl) (by kernel_rfl) (fun _ _ _ h => h) (Or.inl ⟨by kernel_rfl, ?_⟩) hHeld ?_
                  rotate_left
                  · intro w' hSw
                    (try dsimp only at hSw)
                    go_simp
                    first | done | with_reducible rfl
                  try simp only [Act.put, List.setIfInBounds_toArray, List.set]
                  refine PhaseIn.takeD (i := 1) (v := ?_) [1, 2, 3, 4, 5, 6, 7, 8, 9, 10, 11, 12, 13, 14, 15, 16, 17, 18, 19, 20, 21, 22, 23, 24, 25, 26, 27, 28, 29, 30, 31, 32, 33, 34] 64 rfl (by rfl) (by kernel_rfl) (by kernel_rfl) (by kernel_rfl) (by kernel_rfl) (by kernel_rfl) (fun _ _ _ h => h) (Or.inl ⟨by kernel_rfl, ?_⟩) hHeld ?_
                  rotate_left
                  · intro w' hSw
                    (try dsimp only at hSw)
                    go_simp
                    first | done | with_reducible rfl
                  try simp only [Act.put, List.setIfInBounds_toArray, List.set]
                  refine PhaseIn.takeD (i := 2) (v := ?_) [2, 4, 5, 6, 7, 8, 9, 10, 11, 12, 13, 14, 15, 16, 17, 18, 19, 20, 21, 22, 23, 24, 25, 26, 27, 28, 29, 30, 31, 32, 33, 34] 65 rfl (by rfl) (by kernel_rfl) (by kernel_rfl) (by kernel_rfl) (by kernel_rfl) (by kernel_rfl) (fun _ _ _ h => h) (Or.inl ⟨by kernel_rfl, ?_⟩) hHeld ?_
                  rotate_left
                  · intro w' hSw
                    (try dsimp only at hSw)
                    have z0 := (hSw.box (X3, .slice y1 s0.length j1, s0) (List.mem_cons_of_mem _ List.mem_cons_self)).1.cell 0 _ rfl
                    go_simp
                    first | done | with_reducible rfl
                  try simp only [Act.put, List.setIfInBounds_toArray, List.set]
                  refine PhaseIn.takeD (i := 3) (v := ?_) [3, 4, 5, 6, 7, 8, 9, 10, 11, 12, 13, 14, 15, 16, 17, 18, 19, 20, 21, 22, 23, 24, 25, 26, 27, 28, 29, 30, 31, 32, 33, 34] 66 rfl (by rfl) (by kernel_rfl) (by kernel_rfl) (by kernel_rfl) (by kernel_rfl) (by kernel_rfl) (fun _ _ _ h => h) (Or.inl ⟨by kernel_rfl, ?_⟩) hHeld ?_
                  rotate_left
                  · intro w' hSw
                    (try dsimp only at hSw)
                    have z0 := (hSw.box (Z, .slice a3 (List.length s0) c3, s0) List.mem_cons_self).1.cell 0 _ rfl
                    go_simp
                    first | done | with_reducible rfl
                  try simp only [Act.put, List.setIfInBounds_toArray, List.set]
                  obtain ⟨D1, d1⟩ := (hHeld.box (X3, .slice y1 s0.length j1, s0) (List.mem_cons_of_mem _ List.mem_cons_self)).2
                  obtain ⟨D2, d2⟩ := (hHeld.box (Z, .slice a3 (List.length s0) c3, s0) List.mem_cons_self).2
                  refine PhaseIn.one (i := 4) (by kernel_rfl) rfl (by kernel_rfl) (fun K hK => ?_)
                  unfold Oper.wpIn
                  refine ⟨fun _ _ => trivial, ?_⟩
                  go_simp
                  refine ⟨rfl, (callsIn_wide.2 (La.laPoly s0 s0 D1 D2 _ _ wv10 d1 d2)).mono ?_⟩
                  rintro e wv11 ⟨he, hb⟩
                  rw [show decide (s0 = s0) = true from decide_eq_true rfl] at he
                  subst he
                  clear d1 d2
                  replace hHeld := hHeld.below hb
                  clear hb
                  refine hK _ _ (fun _ => hHeld) ?_
                  clear hK K
                  try simp only [Act.put, List.setIfInBounds_toArray, List.set]
                  refine PhaseIn.takeD (i := 5) (v := ?_) [5, 6, 7, 8, 9, 10, 11, 12, 13, 14, 15, 16, 17, 18, 19, 20, 21, 22, 23, 24, 25, 26, 27, 28, 29, 30, 31, 32, 33, 34] 68 rfl (by rfl) (by kernel_rfl) (by kernel_rfl) (by kernel_rfl) (by kernel_rfl) (by kernel_rfl) (fun _ _ _ h => h) (Or.inl ⟨by kernel_rfl, ?_⟩) hHeld ?_
                  rotate_left
                  · intro w' hSw
                    (try dsimp only at hSw)
                    go_simp
                    first | done | with_reducible rfl
                  try simp only [Act.put, List.setIfInBounds_toArray, List.set]
                  refine PhaseIn.takeD (i := 6) (v := ?_) [6, 7, 8, 9, 10, 11, 12, 13, 14, 15, 16, 17, 18, 19, 20, 21, 22, 23, 24, 25, 26, 27, 28, 29, 30, 31, 32, 33, 34] 69 rfl (by rfl) (by kernel_rfl) (by kernel_rfl) (by kernel_rfl) (by kernel_rfl) (by kernel_rfl) (fun _ _ _ h => h) (Or.inl ⟨by kernel_rfl, ?_⟩) hHeld ?_
                  rotate_left
                  · intro w' hSw
                    (try dsimp only at hSw)
                    go_simp
                    first | done | with_reducible rfl
                  try simp only [Act.put, List.setIfInBounds_toArray, List.set]
                  refine PhaseIn.takeD (i := 7) (v := ?_) [7, 8, 9, 10, 11, 12, 13, 14, 15, 16, 17, 18, 19, 20, 21, 22, 23, 24, 25, 26, 27, 28, 29, 30, 31, 32, 33, 34] 70 rfl (by rfl) (by kernel_rfl) (by kernel_rfl) (by kernel_rfl) (by kernel_rfl) (by kernel_rfl) (fun _ _ _ h => h) (Or.inl ⟨by kernel_rfl, ?_⟩) hHeld ?_
                  rotate_left
                  · intro w' hSw
                    (try dsimp only at hSw)
                    have z0 := (hSw.box (X3, .slice y1 s0.length j1, s0) (List.mem_cons_of_mem _ List.mem_cons_self)).1.cell 0 _ rfl
                    go_simp
                    first | done | with_reducible rfl
                  try simp only [Act.put, List.setIfInBounds_toArray, List.set]
                  obtain ⟨D1, d1⟩ := (hHeld.box (X3, .slice y1 s0.length j1, s0) (List.mem_cons_of_mem _ List.mem_cons_self)).2
                  refine PhaseIn.one (i := 8) (by kernel_rfl) rfl (by kernel_rfl) (fun K hK => ?_)
                  unfold Oper.wpIn
                  refine ⟨fun _ _ => trivial, ?_⟩
                  go_simp
                  refine ⟨rfl, (callsIn_wide.2 (implOk s0 D1 _ wv11 d1)).mono ?_⟩
                  rintro e wv12 ⟨he, hb⟩
                  rw [OKS.out] at he
                  subst he
                  clear d1
                  replace hHeld := hHeld.below hb
                  clear hb
                  refine hK _ _ (fun _ => hHeld) ?_
                  clear hK K
                  try simp only [Act.put, List.setIfInBounds_toArray, List.set]
                  refine PhaseIn.takeD (i := 9) (v := ?_) [9, 10, 11, 12, 13, 14, 15, 16, 17, 18, 19, 20, 21, 22, 23, 24, 25, 26, 27, 28, 29, 30, 31, 32, 33, 34] 72 rfl (by rfl) (by kernel_rfl) (by kernel_rfl) (by kernel_rfl) (by kernel_rfl) (by kernel_rfl) (fun _ _ _ h => h) (Or.inl ⟨by kernel_rfl, ?_⟩) hHeld ?_
                  rotate_left
                  · intro w' hSw
                    (try dsimp only at hSw)
                    go_simp
                    first | done | with_reducible rfl
                  try simp only [Act.put, List.setIfInBounds_toArray, List.set]
                  refine PhaseIn.takeD (i := 10) (v := ?_) [10, 11, 12, 13, 14, 15, 16, 17, 18, 19, 20, 21, 22, 23, 24, 25, 26, 27, 28, 29, 30, 31, 32, 33, 34] 73 rfl (by rfl) (by kernel_rfl) (by kernel_rfl) (by kernel_rfl) (by kernel_rfl) (by kernel_rfl) (fun _ _ _ h => h) (Or.inl ⟨by kernel_rfl, ?_⟩) hHeld ?_
                  rotate_left
                  · intro w' hSw
                    (try dsimp only at hSw)
                    go_simp
                    first | done | with_reducible rfl
                  try simp only [Act.put, List.setIfInBounds_toArray, List.set]
                  refine PhaseIn.takeD (i := 11) (v := ?_) [11, 12, 14, 15, 16, 17, 18, 19, 20, 21, 22, 23, 24, 25, 26, 27, 28, 29, 30, 31, 32, 33, 34] 74 rfl (by rfl) (by kernel_rfl) (by kernel_rfl) (by kernel_rfl) (by kernel_rfl) (by kernel_rfl) (fun _ _ _ h => h) (Or.inl ⟨by kernel_rfl, ?_⟩) hHeld ?_
                  rotate_left
                  · intro w' hSw
                    (try dsimp only at hSw)
                    have z0 := (hSw.box (X1, .slice u1 pa.length k1, pa) (List.mem_cons_of_mem _ (List.mem_cons_of_mem _ (List.mem_cons_of_mem _ List.mem_cons_self)))).1.cell 0 _ rfl
                    go_simp
                    first | done | with_reducible rfl
                  try simp only [Act.put, List.setIfInBounds_toArray, List.set]
                  refine PhaseIn.takeD (i := 13) (v := ?_) [13, 14, 15, 16, 17, 18, 19, 20, 21, 22, 23, 24, 25, 26, 27, 28, 29, 30, 31, 32, 33, 34] 76 rfl (by rfl) (by kernel_rfl) (by kernel_rfl) (by kernel_rfl) (by kernel_rfl) (by kernel_rfl) (fun _ _ _ h => h) (Or.inl ⟨by kernel_rfl, ?_⟩) hHeld ?_
                  rotate_left
                  · intro w' hSw
                    (try dsimp only at hSw)
                    have z0 := (hSw.box (X1, .slice u1 pa.length k1, pa) (List.mem_cons_of_mem _ (List.mem_cons_of_mem _ (List.mem_cons_of_mem _ List.mem_cons_self)))).1.cell 0 _ rfl
                    go_simp
                    first | done | with_reducible rfl
                  try simp only [Act.put, List.setIfInBounds_toArray, List.set]
                  obtain ⟨D1, d1⟩ := (hHeld.box (X1, .slice u1 pa.length k1, pa) (List.mem_cons_of_mem _ (List.mem_cons_of_mem _ (List.mem_cons_of_mem _ List.mem_cons_self)))).2
                  refine PhaseIn.one (i := 12) (by kernel_rfl) rfl (by kernel_rfl) (fun K hK => ?_)
                  unfold Oper.wpIn
                  refine ⟨fun _ _ => trivial, ?_⟩
                  go_simp
                  refine ⟨rfl, (callsIn_wide.2 (implScale pa 1 D1 _ wv12 d1)).mono ?_⟩
                  rintro e wv13 ⟨y6, l6, j6, rfl, W3, hb⟩
                  rw [SO.out] at W3
                  obtain rfl := Draw.wp_len W3
                  obtain ⟨D8, r8⟩ := W3.read
                  clear W3 d1
                  replace hHeld := hHeld.below hb
                  clear hb
                  refine hK _ _ (fun _ => hHeld) ?_
                  clear hK K
                  try simp only [Act.put, List.setIfInBounds_toArray, List.set]
                  obtain ⟨D2, d2⟩ := (hHeld.box (X1, .slice u1 pa.length k1, pa) (List.mem_cons_of_mem _ (List.mem_cons_of_mem _ (List.mem_cons_of_mem _ List.mem_cons_self)))).2
                  refine PhaseIn.one (i := 14) (by kernel_rfl) rfl (by kernel_rfl) (fun K hK => ?_)
                  unfold Oper.wpIn
                  refine ⟨fun _ _ => trivial, ?_⟩
                  go_simp
                  refine ⟨rfl, (callsIn_wide.2 (La.laPoly pa pa D8 D2 _ _ wv13 r8 d2)).mono ?_⟩
                  rintro e wv14 ⟨he, hb⟩
                  rw [show decide (pa = pa) = true from decide_eq_true rfl] at he
                  subst he
                  clear d2 r8
                  replace hHeld := hHeld.below hb
                  clear hb
                  refine hK _ _ (fun _ => hHeld) ?_
                  clear hK K
                  try simp only [Act.put, List.setIfInBounds_toArray, List.set]
                  refine PhaseIn.takeD (i := 15) (v := ?_) [15, 16, 17, 18, 19, 20, 21, 22, 23, 24, 25, 26, 27, 28, 29, 30, 31, 32, 33, 34] 78 rfl (by rfl) (by kernel_rfl) (by kernel_rfl) (by kernel_rfl) (by kernel_rfl) (by kernel_rfl) (fun _ _ _ h => h) (Or.inl ⟨by kernel_rfl, ?_⟩) hHeld ?_
                  rotate_left
                  · intro w' hSw
                    (try dsimp only at hSw)
                    go_simp
                    first | done | with_reducible rfl
                  try simp only [Act.put, List.setIfInBounds_toArray, List.set]
                  refine PhaseIn.takeD (i := 16) (v := ?_) [16, 17, 18, 19, 20, 21, 22, 23, 24, 25, 26, 27, 28, 29, 30, 31, 32, 33, 34] 79 rfl (by rfl) (by kernel_rfl) (by kernel_rfl) (by kernel_rfl) (by kernel_rfl) (by kernel_rfl) (fun _ _ _ h => h) (Or.inl ⟨by kernel_rfl, ?_⟩) hHeld ?_
                  rotate_left
                  · intro w' hSw
                    (try dsimp only at hSw)
                    go_simp
                    first | done | with_reducible rfl
                  try simp only [Act.put, List.setIfInBounds_toArray, List.set]
                  refine PhaseIn.takeD (i := 17) (v := ?_) [17, 18, 19, 20, 21, 22, 23, 24, 25, 26, 27, 28, 29, 30, 31, 32, 33, 34] 80 rfl (by rfl) (by kernel_rfl) (by kernel_rfl) (by kernel_rfl) (by kernel_rfl) (by kernel_rfl) (fun _ _ _ h => h) (Or.inl ⟨by kernel_rfl, ?_⟩) hHeld ?_
                  rotate_left
                  · intro w' hSw
                    (try dsimp only at hSw)
                    have z0 := (hSw.box (X1, .slice u1 pa.length k1, pa) (List.mem_cons_of_mem _ (List.mem_cons_of_mem _ (List.mem_cons_of_mem _ List.mem_cons_self)))).1.cell 0 _ rfl
                    go_simp
                    first | done | with_reducible rfl
                  try simp only [Act.put, List.setIfInBounds_toArray, List.set]
                  obtain ⟨D1, d1⟩ := (hHeld.box (X1, .slice u1 pa.length k1, pa) (List.mem_cons_of_mem _ (List.mem_cons_of_mem _ (List.mem_cons_of_mem _ List.mem_cons_self)))).2
                  refine PhaseIn.one (i := 18) (by kernel_rfl) rfl (by kernel_rfl) (fun K hK => ?_)
                  unfold Oper.wpIn
                  refine ⟨fun _ _ => trivial, ?_⟩
                  go_simp
                  refine ⟨rfl, (callsIn_wide.2 (implScale pa 0 D1 _ wv14 d1)).mono ?_⟩
                  rintro e wv15 ⟨y7, l7, j7, rfl, W3, hb⟩
                  rw [SZ.out] at W3
                  obtain rfl := Draw.wp_len W3
                  rw [List.length_nil] at *
                  clear W3 d1
                  replace hHeld := hHeld.below hb
                  clear hb
                  refine hK _ _ (fun _ => hHeld) ?_
                  clear hK K
                  try simp only [Act.put, List.setIfInBounds_toArray, List.set]
                  refine PhaseIn.takeD (i := 19) (v := (.slice y7 0 j7)) [19, 20, 21, 22, 23, 24, 25, 26, 27, 28, 29, 30, 31, 32, 33, 34] 82 rfl (by rfl) (by kernel_rfl) (by kernel_rfl) (by kernel_rfl) (by kernel_rfl) (by kernel_rfl) (fun _ _ _ h => h) (Or.inl ⟨by kernel_rfl, ?_⟩) hHeld ?_
                  · intro w' hSw
                    (try dsimp only at hSw)
                    have fp := fieldP y7 0 j7 w'
                    go_simp
                    first | done | with_reducible rfl | (simp [fp]; done) | (rw [fp]; done)
                  try simp only [Act.put, List.setIfInBounds_toArray, List.set]
                  refine PhaseIn.takeD (i := 20) (v := ?_) [20, 21, 22, 23, 24, 25, 26, 27, 28, 29, 30, 31, 32, 33, 34] 83 rfl (by rfl) (by kernel_rfl) (by kernel_rfl) (by kernel_rfl) (by kernel_rfl) (by kernel_rfl) (fun _ _ _ h => h) (Or.inl ⟨by kernel_rfl, ?_⟩) hHeld ?_
                  rotate_left
                  · intro w' hSw
                    (try dsimp only at hSw)
                    go_simp
                    first | done | with_reducible rfl
                  try simp only [Act.put, List.setIfInBounds_toArray, List.set]
                  refine PhaseIn.takeD (i := 21) (v := ?_) [21, 22, 23, 24, 25, 26, 27, 28, 29, 30, 31, 32, 33, 34] 84 rfl (by rfl) (by kernel_rfl) (by kernel_rfl) (by kernel_rfl) (by kernel_rfl) (by kernel_rfl) (fun _ _ _ h => h) (Or.inl ⟨by kernel_rfl, ?_⟩) hHeld ?_
                  rotate_left
                  · intro w' hSw
                    (try dsimp only at hSw)
                    go_simp
                    first | done | with_reducible rfl
                  try simp only [Act.put, List.setIfInBounds_toArray, List.set]
                  refine PhaseIn.takeD (i := 22) (v := ?_) [22, 23, 24, 25, 26, 27, 28, 29, 30, 31, 32, 33, 34] 85 rfl (by rfl) (by kernel_rfl) (by kernel_rfl) (by kernel_rfl) (by kernel_rfl) (by kernel_rfl) (fun _ _ _ h => h) (Or.inl ⟨by kernel_rfl, ?_⟩) hHeld ?_
                  rotate_left
                  · intro w' hSw
                    (try dsimp only at hSw)
                    go_simp
                    first | done | with_reducible rfl
                  try simp only [Act.put, List.setIfInBounds_toArray, List.set]
                  refine PhaseIn.takeD (i := 23) (v := ?_) [23, 24, 25, 26, 27, 28, 29, 30, 31, 32, 33, 34] 86 rfl (by rfl) (by kernel_rfl) (by kernel_rfl) (by kernel_rfl) (by kernel_rfl) (by kernel_rfl) (fun _ _ _ h => h) (Or.inl ⟨by kernel_rfl, ?_⟩) hHeld ?_
                  rotate_left
                  · intro w' hSw
                    (try dsimp only at hSw)
                    go_simp
                    first | done | with_reducible rfl
                  try simp only [Act.put, List.setIfInBounds_toArray, List.set]
                  refine PhaseIn.takeD (i := 24) (v := ?_) [24, 26, 30, 31, 32, 33, 34] 87 rfl (by rfl) (by kernel_rfl) (by kernel_rfl) (by kernel_rfl) (by kernel_rfl) (by kernel_rfl) (fun _ _ _ h => h) (Or.inl ⟨by kernel_rfl, ?_⟩) hHeld ?_
                  rotate_left
                  · intro w' hSw
                    (try dsimp only at hSw)
                    have z0 := (hSw.box (X3, .slice y1 s0.length j1, s0) (List.mem_cons_of_mem _ List.mem_cons_self)).1.cell 0 _ rfl
                    go_simp
                    first | done | with_reducible rfl
                  try simp only [Act.put, List.setIfInBounds_toArray, List.set]
                  refine PhaseIn.takeD (i := 25) (v := ?_) [25, 26, 30, 31, 32, 33, 34] 88 rfl (by rfl) (by kernel_rfl) (by kernel_rfl) (by kernel_rfl) (by kernel_rfl) (by kernel_rfl) (fun _ _ _ h => h) (Or.inl ⟨by kernel_rfl, ?_⟩) hHeld ?_
                  rotate_left
                  · intro w' hSw
                    (try dsimp only at hSw)
                    go_simp
                    first | done | with_reducible rfl
                  try simp only [Act.put, List.setIfInBounds_toArray, List.set]
                  refine PhaseIn.takeD (i := 27) (v := ?_) [27, 31, 32, 33, 34] 90 rfl (by rfl) (by kernel_rfl) (by kernel_rfl) (by kernel_rfl) (by kernel_rfl) (by kernel_rfl) (fun _ _ _ h => h) (Or.inl ⟨by kernel_rfl, ?_⟩) hHeld ?_
                  rotate_left
                  · intro w' hSw
                    (try dsimp only at hSw)
                    go_simp
                    first | done | with_reducible rfl
                  try simp only [Act.put, List.setIfInBounds_toArray, List.set]
                  refine PhaseIn.takeD (i := 28) (v := ?_) [28, 30, 31, 32, 33, 34] 91 rfl (by rfl) (by kernel_rfl) (by kernel_rfl) (by kernel_rfl) (by kernel_rfl) (by kernel_rfl) (fun _ _ _ h => h) (Or.inl ⟨by kernel_rfl, ?_⟩) hHeld ?_
                  rotate_left
                  · intro w' hSw
                    (try dsimp only at hSw)
                    have z0 := (hSw.box (X1, .slice u1 pa.length k1, pa) (List.mem_cons_of_mem _ (List.mem_cons_of_mem _ (List.mem_cons_of_mem _ List.mem_cons_self)))).1.cell 0 _ rfl
                    go_simp
                    first | done | with_reducible rfl
                  try simp only [Act.put, List.setIfInBounds_toArray, List.set]
                  refine PhaseIn.takeD (i := 29) (v := ?_) [29, 30, 31, 32, 33, 34] 92 rfl (by rfl) (by kernel_rfl) (by kernel_rfl) (by kernel_rfl) (by kernel_rfl) (by kernel_rfl) (fun _ _ _ h => h) (Or.inl ⟨by kernel_rfl, ?_⟩) hHeld ?_
                  rotate_left
                  · intro w' hSw
                    (try dsimp only at hSw)
                    go_simp
                    first | done | with_reducible rfl
                  try simp only [Act.put, List.setIfInBounds_toArray, List.set]
                  obtain ⟨GG1, gg1⟩ := (hHeld.box (X3, .slice y1 s0.length j1, s0) (List.mem_cons_of_mem _ List.mem_cons_self)).2
                  obtain ⟨FF1, ff1⟩ := (hHeld.row ((.slice (some ⟨g2, 0, none⟩) ws.length c4), ws) List.mem_cons_self)
                  refine PhaseIn.one (i := 26) (by kernel_rfl) rfl (by kernel_rfl) (fun K hK => ?_)
                  unfold Oper.wpIn
                  refine ⟨fun _ _ => trivial, ?_⟩
                  go_simp
                  refine ⟨rfl, (callsIn_wide.2 (implEval s0 ws GG1 FF1 _ _ wv15 gg1 ff1)).mono ?_⟩
                  rintro e wv16 ⟨he, hb⟩
                  rw [VM.out] at he
                  subst he
                  clear gg1 ff1
                  replace hHeld := hHeld.below hb
                  clear hb
                  refine hK _ _ (fun _ => hHeld) ?_
                  clear hK K
                  try simp only [Act.put, List.setIfInBounds_toArray, List.set]
                  obtain ⟨GG2, gg2⟩ := (hHeld.box (X1, .slice u1 pa.length k1, pa) (List.mem_cons_of_mem _ (List.mem_cons_of_mem _ (List.mem_cons_of_mem _ List.mem_cons_self)))).2
                  obtain ⟨FF2, ff2⟩ := (hHeld.row ((.slice (some ⟨g2, 0, none⟩) ws.length c4), ws) List.mem_cons_self)
                  refine PhaseIn.one (i := 30) (by kernel_rfl) rfl (by kernel_rfl) (fun K hK => ?_)
                  unfold Oper.wpIn
                  refine ⟨fun _ _ => trivial, ?_⟩
                  go_simp
                  refine ⟨rfl, (callsIn_wide.2 (implEval pa ws GG2 FF2 _ _ wv16 gg2 ff2)).mono ?_⟩
                  rintro e wv17 ⟨he, hb⟩
                  rw [VA.out] at he
                  subst he
                  clear gg2 ff2
                  replace hHeld := hHeld.below hb
                  clear hb
                  refine hK _ _ (fun _ => hHeld) ?_
                  clear hK K
                  try simp only [Act.put, List.setIfInBounds_toArray, List.set]
                  refine PhaseIn.one (i := 31) (by kernel_rfl) rfl (by kernel_rfl) (fun K hK => ?_)
                  unfold Oper.wpIn
                  refine ⟨fun _ _ => trivial, ?_⟩
                  go_simp
                  refine ⟨rfl, (callsIn_wide.2 (Wrd.specDo 3 nn va1 wv17)).mono ?_⟩
                  rintro e wv18 ⟨he, hw⟩
                  rw [HV.out] at he
                  subst he
                  have hb : Below wv17.heap.size wv17 wv18 := by rw [hw]; exact Below.refl _ _
                  clear hw
                  replace hHeld := hHeld.below hb
                  clear hb
                  refine hK _ _ (fun _ => hHeld) ?_
                  clear hK K
                  try simp only [Act.put, List.setIfInBounds_toArray, List.set]
                  refine PhaseIn.takeD (i := 32) (v := ?_) [32, 33, 34] 95 rfl (by rfl) (by kernel_rfl) (by kernel_rfl) (by kernel_rfl) (by kernel_rfl) (by kernel_rfl) (fun _ _ _ h => h) (Or.inl ⟨by kernel_rfl, ?_⟩) hHeld ?_
                  rotate_left
                  · intro w' hSw
                    (try dsimp only at hSw)
                    go_simp
                    first | done | with_reducible rfl
                  try simp only [Act.put, List.setIfInBounds_toArray, List.set]
                  refine PhaseIn.takeD (i := 33) (v := ?_) [33, 34] 96 rfl (by rfl) (by kernel_rfl) (by kernel_rfl) (by kernel_rfl) (by kernel_rfl) (by kernel_rfl) (fun _ _ _ h => h) (Or.inl ⟨by kernel_rfl, ?_⟩) hHeld ?_
                  rotate_left
                  · intro w' hSw
                    (try dsimp only at hSw)
                    go_simp
                    first | done | with_reducible rfl
                  try simp only [Act.put, List.setIfInBounds_toArray, List.set]
                  refine PhaseIn.takeD (i := 34) (v := ?_) [34] 4 rfl (by rfl) (by kernel_rfl) (by kernel_rfl) (by kernel_rfl) (by kernel_rfl) (by kernel_rfl) (fun _ _ _ h => h) (Or.inl ⟨by kernel_rfl, ?_⟩) hHeld ?_
                  rotate_left
                  · intro w' hSw
                    (try dsimp only at hSw)
                    go_simp
                    first | done | with_reducible rfl
                  try simp only [Act.put, List.setIfInBounds_toArray, List.set]
                  refine PhaseIn.done (by kernel_rfl) ?_ _
                  have S := hide hHeld
                  clear hHeld
                  have FIN := hide S.out.bw
                  clear S
                  go_wp2
                  go_ret
                  exact ⟨rfl, FIN.out⟩
              · rintro b ac W ⟨a3, c3, sv1, sv6, sv5, rfl, S0⟩ hN
                have hHeld := RX.out.below S0.out.m.bw
                subst hF
                cases b
                all_goals
                  refine PhaseIn.takeD (i := 6) (v := ?_) [6, 9] 60 rfl (by rfl) (by kernel_rfl) (by kernel_rfl) (by kernel_rfl) (by kernel_rfl) (by kernel_rfl) (fun _ _ _ h => h) (Or.inl ⟨by kernel_rfl, ?_⟩) hHeld ?_
                  rotate_left
                  · intro w' hSw
                    (try dsimp only at hSw)
                    go_simp
                    first | done | with_reducible rfl
                  try simp only [Act.put, List.setIfInBounds_toArray, List.set]
                  exact hN _ ⟨a3, c3, sv1, sv6, rfl, S0⟩
            · rintro b ac W ⟨a3, c3, sv1, sv6, sv4, sv5, rfl, S0⟩ hN
              have hHeld := RX.out.below S0.out.m.bw
              subst hF
              cases b
              all_goals
                refine PhaseIn.takeD (i := 5) (v := ?_) [5, 8, 9] 59 rfl (by rfl) (by kernel_rfl) (by kernel_rfl) (by kernel_rfl) (by kernel_rfl) (by kernel_rfl) (fun _ _ _ h => h) (Or.inl ⟨by kernel_rfl, ?_⟩) hHeld ?_
                rotate_left
                · intro w' hSw
                  (try dsimp only at hSw)
                  go_simp
                  first | done | with_reducible rfl
                try simp only [Act.put, List.setIfInBounds_toArray, List.set]
                exact hN _ ⟨a3, c3, sv1, sv6, sv5, rfl, S0⟩
          · rintro b ac W ⟨a3, c3, sv1, sv6, sv3, sv4, sv5, rfl, S0⟩ hN
            have hHeld := RX.out.below S0.out.m.bw
            subst hF
            cases b
            all_goals
              refine PhaseIn.takeD (i := 4) (v := ?_) [4, 5, 6, 8, 9] 54 rfl (by rfl) (by kernel_rfl) (by kernel_rfl) (by kernel_rfl) (by kernel_rfl) (by kernel_rfl) (fun _ _ _ h => h) (Or.inl ⟨by kernel_rfl, ?_⟩) hHeld ?_
              rotate_left
              · intro w' hSw
                (try dsimp only at hSw)
                go_simp
                first | done | with_reducible rfl
              try simp only [Act.put, List.setIfInBounds_toArray, List.set]
              exact hN _ ⟨a3, c3, sv1, sv6, sv4, sv5, rfl, S0⟩
        · rintro b ac W K ⟨ax, lx, cx, sv2, sv3, sv4, sv5, sv6, rfl, S0⟩ hK
          obtain ⟨B1, q1⟩ := S0.out.2
          have HP := RX.out.below S0.out.1.bw
          obtain ⟨D1, d1⟩ := (HP.box (X1, .slice u1 pa.length k1, pa) (List.mem_cons_of_mem _ (List.mem_cons_of_mem _ List.mem_cons_self))).2
          have CL := implMul (constP nn) pa B1 D1 _ _ W q1 d1
          unfold Oper.wpIn
          subst hF
          refine ⟨fun _ _ => trivial, ?_⟩
          go_simp
          refine ⟨rfl, (callsIn_wide.2 CL).mono ?_⟩
          rintro e W' ⟨a3, l3, c3, he, W3, hb⟩
          rw [MC.out.2] at W3
          rw [MC.out.1] at he
          obtain rfl := Draw.wp_len W3
          subst he
          have S' := hide (N2.of S0.out.1 W3 hb)
          try simp only [Act.put, List.setIfInBounds_toArray, List.set]
          exact hK _ _ (RX.out.below S'.out.m.bw) ⟨a3, c3, _, sv6, sv3, sv4, sv5, rfl, S'⟩
        · rintro ac W K ⟨ax, lx, cx, sv2, sv3, sv4, sv5, sv6, rfl, S0⟩ hK
          unfold Oper.wpIn
          subst hF
          refine ⟨fun _ _ => trivial, ?_⟩
          go_simp
          obtain ⟨B1, q1⟩ := S0.out.2
          have S' : Hid (M2 wv9 true (.pointer (some ⟨W.heap.size, 0, none⟩)) (W.alloc (.cells #[.slice none 0 0] 25)) ∧ ∃ B, PRow (W.alloc (.cells #[.slice none 0 0] 25)) B (Value.slice ax lx cx) (constP nn)) := ⟨S0.out.1.box 25, B1, q1.below (Draw.alloc_below _ _)⟩
          try simp only [Act.put, List.setIfInBounds_toArray, List.set]
          exact hK _ _ (RX.out.below S'.out.1.bw) ⟨ax, lx, cx, sv2, sv3, sv4, sv5, _, rfl, S'⟩
      · rintro b ac W K ⟨sv1, sv2, sv3, sv4, sv5, sv6, rfl, S0⟩ hK
        have HP := RX.out.below S0.out.bw
        have CL := implConst nn W
        unfold Oper.wpIn
        subst hF
        refine ⟨fun _ _ => trivial, ?_⟩
        go_simp
        refine ⟨rfl, (callsIn_wide.2 CL).mono ?_⟩
        rintro e W' ⟨ax, lx, cx, rfl, W3, hb⟩
        obtain ⟨B1, q1⟩ := W3.read
        have S' : Hid (M2 wv9 b sv6 W' ∧ ∃ B, PRow W' B (Value.slice ax lx cx) (constP nn)) := ⟨S0.out.below hb, B1, q1⟩
        try simp only [Act.put, List.setIfInBounds_toArray, List.set]
        exact hK _ _ (RX.out.below S'.out.1.bw) ⟨ax, lx, cx, sv2, sv3, sv4, sv5, sv6, rfl, S'⟩
      · rintro ac W K ⟨sv1, sv2, sv3, sv4, sv5, sv6, rfl, S0⟩ hK
        unfold Oper.wpIn
        subst hF
        refine ⟨fun _ _ => trivial, ?_⟩
        go_simp
        have S' := hide (S0.out.box 25)
        try simp only [Act.put, List.setIfInBounds_toArray, List.set]
        exact hK _ _ (RX.out.below S'.out.bw) ⟨sv1, sv2, sv3, sv4, sv5, _, rfl, S'⟩
      · exact ⟨_, _, _, _, _, _, by subst hF; rfl, hide (M2.new _ _)⟩

set_option maxRecDepth 100000 in
theorem lifted (os : Os) (started : os.Started) (H : Type) (enc : TypeId × Value → H) :
    ReturnsInHanded {} Tryz.checked os 5 .any (Rows.fnPolScaleSpec.pre6 enc Tryz.prog Tryz.f5 Rows.fnPolScaleRow.domain false) (Rows.fnPolScaleSpec.post enc Tryz.prog Tryz.f5 false true false false) := by
  refine returnsInHanded_of_change (C := Tryz.checked) own started (by kernel_rfl) Tryz.func5
    (ChangeSpec.witness6 (enc := enc) (C := Tryz.checked) false ⟨#[], #[.slice none 0 0, .slice none 0 0], []⟩ 8 (by kernel_rfl) (by kernel_rfl) (by kernel_rfl) (by kernel_rfl)) ?_
  intro W base args ds gs before hval0 hW hcnd _
  have hval : ∀ (j : Nat) t v, Tryz.f5.params[j]? = some t → args[j]? = some v → Value.okWide Tryz.prog W .any base t v := hval0
  have hW' := hW
  obtain ⟨p, q, hA0, hV, rfl, hfz, hnd⟩ := hW
  have hA : DataW.TrodAll enc Tryz.prog W 0 (fun _ => true) true Tryz.f5.params.toList args.toList ds p := hA0
  rw [Tryz.params5] at hA hval
  obtain ⟨v0, vs0, d0, ds0, p0, q0, hargs, rfl, rfl, h0, r0⟩ := trodAll_cons hA
  obtain ⟨v1, vs1, d1, ds1, p1, q1, rfl, rfl, rfl, h1, r1⟩ := trodAll_cons r0
  obtain ⟨rfl, rfl, rfl⟩ := trodAll_nil r1
  obtain rfl : args = #[v0, v1] := by cases args; simp_all
  obtain ⟨rfl, rfl⟩ := trodVars_none hV
  obtain ⟨a0, len0, cap0, rfl⟩ := okWide_slice Tryz.underlying22 (hval 0 22 v0 rfl rfl)
  have k0 := h0
  have lt0 : ∀ x ∈ p0, x.block < W.heap.size := by obtain ⟨m, hm⟩ := k0; exact DataW.trod_lt m _ _ _ hm
  obtain ⟨z0, w0⟩ : ∃ zs, IsRow .u8 W a0 len0 cap0 zs := by
    obtain ⟨fuel, hf⟩ := h0
    rcases open_ints Tryz.underlying22 Tryz.underlying5 (by kernel_rfl) hf with ⟨hcs, _⟩ | ⟨x, l, c, zs, hcs, _, hl, hm, hz, _, hcell, hwz⟩
    · simp [Value.cells] at hcs
      obtain ⟨rfl, rfl, rfl⟩ := hcs
      exact ⟨[], .inl ⟨rfl, rfl, rfl, rfl⟩⟩
    · simp [Value.cells] at hcs
      obtain ⟨rfl, rfl, rfl⟩ := hcs
      exact ⟨zs, .inr ⟨_, rfl, hl, hm, by simpa using hz, hcell, hwz⟩⟩
  obtain ⟨a1, len1, cap1, rfl⟩ := okWide_slice Tryz.underlying22 (hval 1 22 v1 rfl rfl)
  have k1 := h1
  have lt1 : ∀ x ∈ p1, x.block < W.heap.size := by obtain ⟨m, hm⟩ := k1; exact DataW.trod_lt m _ _ _ hm
  obtain ⟨z1, w1⟩ : ∃ zs, IsRow .u8 W a1 len1 cap1 zs := by
    obtain ⟨fuel, hf⟩ := h1
    rcases open_ints Tryz.underlying22 Tryz.underlying5 (by kernel_rfl) hf with ⟨hcs, _⟩ | ⟨x, l, c, zs, hcs, _, hl, hm, hz, _, hcell, hwz⟩
    · simp [Value.cells] at hcs
      obtain ⟨rfl, rfl, rfl⟩ := hcs
      exact ⟨[], .inl ⟨rfl, rfl, rfl, rfl⟩⟩
    · simp [Value.cells] at hcs
      obtain ⟨rfl, rfl, rfl⟩ := hcs
      exact ⟨zs, .inr ⟨_, rfl, hl, hm, by simpa using hz, hcell, hwz⟩⟩
  clear hA0 hval0
  refine (walk a0 len0 cap0 z0 a1 len1 cap1 z1 W w0 w1).mono fun e W' ⟨he, bel⟩ => ?_
  subst he
  exact ⟨_, rfl, _, _, _, [], _, [], hW', trodAll_mk1 (shut_bool Tryz.underlying4 _), (trodAll_cons_mk (Below.trod laidOut (by kernel_rfl) (of_decide_eq_true (by kernel_rfl)) k0 bel lt0) (trodAll_cons_mk (Below.trod laidOut (by kernel_rfl) (of_decide_eq_true (by kernel_rfl)) k1 bel lt1) trodAll_mk0)), rfl, bel.frame _, fun h => by cases h⟩

theorem over : Rows.fnPolScaleRow.holds Tryz.pinned (OpenSpec.ofChange Rows.fnPolScaleSpec) :=
  OpenClaim.holds_of_wide 5 Tryz.f5 rfl rfl rfl rfl rfl rfl rfl ⟨rfl, rfl, rfl, rfl, rfl⟩ rfl rfl rfl rfl rfl (by kernel_rfl) Tryz.func5 (by kernel_rfl)
    (of_decide_eq_true (by kernel_rfl)) (by unfold Func.isWrapper; first | (rw [if_pos (by decide +kernel)]; kernel_rfl) | (rw [if_neg (by decide +kernel)]; exact ⟨rfl, rfl⟩))
    (fun os started H enc _ => lifted os started H enc)

theorem proved : Rows.FnPolScaleSaid := over
#print axioms proved
end Go.Proofs.YtckhfpaicnjknaaGreat.fnPolScale
