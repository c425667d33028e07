/-
  At every two codes of bytes the law FnInsTake returns true (P13: of an instruction that is ok InsTake of InsPut is that; of a word that says one InsPut of it is the word); no condition.
  The frame (the steps lifted, over, proved) is the guide's shell, written by its program; the walk and the lemmas ahead of it are mine.
-/
import Derived.Test.YthpajjlhjfhdpaaRows
import Derived.WalkKit
import Derived.ProofKit
import Derived.OpenShut
import Derived.Test.YthpajjlhjfhdpaaDrawJ
import Derived.Test.YthpajjlhjfhdpaaInsI
import Derived.Deep.RegionHeld3
import Derived.ShutString
import Derived.ChangeOld
import Derived.Below
namespace Go.Proofs.Ythpajjlhjfhdpaa.fnInsTake
open Go.ChangeShapes Go.WideShapes Go.ChangeAt Go.RowKit
open Go.ChangeMaps (open_string shut_string)
set_option linter.unusedVariables false

theorem own : ownKnob Try.prog.godebug = none := by kernel_rfl
theorem laidOut : laidOutB Try.prog = true := by kernel_rfl

def IsRow (k : IntKind) (w : World) (a : Option Addr) (len cap : Nat) (zs : List Int) : Prop :=
  (a = none ∧ len = 0 ∧ cap = 0 ∧ zs = []) ∨
  ∃ x, a = some x ∧ len ≤ cap ∧ cap ≤ maxLen ∧ zs.length = cap ∧ (∀ i, i < zs.length → w.cell? (x.add i) = some (.int k (zs.getD i 0))) ∧ ∀ n ∈ zs, (Lit.int k n).wf = true

open Ins in
theorem take_ok {n : Int} (h : takeB n = true) : 0 ≤ n ∧ n < 65536 ∧ okB (n / 4096) (n / 1024 % 4) (n / 256 % 4) (n % 256) = true ∧ putN (n / 4096) (n / 1024 % 4) (n / 256 % 4) (n % 256) = n := by
  unfold takeB at h
  simp only [Bool.and_eq_true, decide_eq_true_eq] at h
  refine ⟨h.1.1, h.1.2, h.2, ?_⟩
  unfold putN
  rw [if_pos h.2]
  omega
open Ins in
theorem put_take {op d a k : Int} (h : okB op d a k = true) : 0 ≤ putN op d a k ∧ putN op d a k < 65536 ∧ takeB (putN op d a k) = true ∧ takeC (putN op d a k) = #[.int .i64 op, .int .i64 d, .int .i64 a, .int .i64 k] := by
  obtain ⟨o0, o1, d0, d1, a0, a1, k0, k1, _⟩ := okB_bd h
  have e : putN op d a k = op * 4096 + d * 1024 + a * 256 + k := by unfold putN; rw [if_pos h]
  have e1 : putN op d a k / 4096 = op := by rw [e]; omega
  have e2 : putN op d a k / 1024 % 4 = d := by rw [e]; omega
  have e3 : putN op d a k / 256 % 4 = a := by rw [e]; omega
  have e4 : putN op d a k % 256 = k := by rw [e]; omega
  have hb : 0 ≤ putN op d a k ∧ putN op d a k < 65536 := by rw [e]; omega
  have ht : takeB (putN op d a k) = true := by
    unfold takeB
    rw [e1, e2, e3, e4, h, decide_eq_true hb]
    rfl
  refine ⟨hb.1, hb.2, ht, ?_⟩
  unfold takeC
  rw [if_pos ht, e1, e2, e3, e4]
theorem laOk (w : World) : Calls Try.prog 16 #[] w fun e w' => e = .returned (.bool true) ∧ w' = w := by
  go_enter Try.func16, Try.ntmps16
  go_wp2
  go_ret
  exact ⟨rfl, rfl⟩

set_option maxHeartbeats 8000000 in
theorem walk (a0 : Option Addr) (len0 cap0 : Nat) (z0 : List Int) (a1 : Option Addr) (len1 cap1 : Nat) (z1 : List Int) (w : World) (w0 : IsRow .u8 w a0 len0 cap0 z0) (w1 : IsRow .u8 w a1 len1 cap1 z1) :
    Calls Try.prog 3 #[.slice a0 len0 cap0, .slice a1 len1 cap1] w fun e w' => e = .returned (.bool true) ∧ Below w.heap.size w w' := by
  obtain ⟨hlc, hm, hc⟩ := Draw.code_row w a0 len0 cap0 z0 w0
  obtain ⟨hlc1, hm1, hc1⟩ := Draw.code_row w a1 len1 cap1 z1 w1
  by_cases hl : 1048576 < len0
  · unfold maxLen at hm hm1
    go_enter Try.func3, Try.ntmps3
    go_wp2
    go_ret
    exact ⟨rfl, Below.refl _ _⟩
  by_cases hl1 : 1048576 < len1
  · unfold maxLen at hm hm1
    go_enter Try.func3, Try.ntmps3
    go_wp2
    go_ret
    exact ⟨rfl, Below.refl _ _⟩
  clear w0 w1
  go_enter Try.func3, Try.ntmps3
  go_wp2_with fail
  refine (Draw.drawPut a0 len0 cap0 _ hlc hm hc).mono ?_
  rintro e w1 ⟨op, d, a, k, rfl, hb⟩
  have hc2 := (hc1.below hb).below ((Below.refl _ _).alloc (Nat.le_refl _) (.cells #[.int .i64 op, .int .i64 d, .int .i64 a, .int .i64 k] 24))
  have i := Draw.Blk.new w1 op d a k 24
  have B1 := hb.alloc hb.size (.cells #[.int .i64 op, .int .i64 d, .int .i64 a, .int .i64 k] 24)
  clear hc hm hc1 hb
  go_wp2_with fail
  refine (Draw.drawTake a1 len1 cap1 _ hlc1 hm1 hc2).mono ?_
  rintro e w2 ⟨n, rfl, n0, n1, hb⟩
  have i2 := i.below hb
  have B2 := B1.trans (hb.mono B1.size)
  clear i B1 hb hc2 hm1
  go_wp2_with fail
  refine (InsI.insTake n _).mono ?_
  rintro e w3 ⟨rfl, hb⟩
  have i3 := i2.below hb
  have B3 := B2.trans (hb.mono B2.size)
  clear i2 B2 hb
  have hc : ∃ p q r s : Int, Ins.takeC n = #[.int .i64 p, .int .i64 q, .int .i64 r, .int .i64 s] ∧ (Ins.takeB n = true → 0 ≤ n ∧ n < 65536 ∧ Ins.okB p q r s = true ∧ Ins.putN p q r s = n) := by
    cases ht : Ins.takeB n with
    | true => exact ⟨_, _, _, _, by unfold Ins.takeC; rw [if_pos ht], fun _ => take_ok ht⟩
    | false => exact ⟨0, 0, 0, 0, by unfold Ins.takeC; rw [ht]; rfl, fun h => by cases h⟩
  obtain ⟨p, q, r, s, hc, ht⟩ := hc
  have HC := Draw.hideD hc
  have HT := Draw.hideD ht
  rw [hc]
  clear hc ht
  obtain ⟨tb, etb⟩ : ∃ tb, Ins.takeB n = tb := ⟨_, rfl⟩
  rw [etb]
  have ETB := Draw.hideD etb
  clear etb
  have x3 := Draw.Blk.new w3 p q r s 24
  replace i3 := i3.alloc (.cells #[.int .i64 p, .int .i64 q, .int .i64 r, .int .i64 s] 24)
  have B3 := B3.alloc B3.size (.cells #[.int .i64 p, .int .i64 q, .int .i64 r, .int .i64 s] 24)
  go_wp2_with fail
  refine (Ins.insTake n _).mono ?_
  rintro e w4 ⟨rfl, hb⟩
  rw [HC.out, ETB.out]
  replace i3 := (i3.below hb).alloc (.cells #[.int .i64 p, .int .i64 q, .int .i64 r, .int .i64 s] 24)
  replace x3 := (x3.below hb).alloc (.cells #[.int .i64 p, .int .i64 q, .int .i64 r, .int .i64 s] 24)
  have y3 := Draw.Blk.new w4 p q r s 24
  replace B3 := (B3.trans (hb.mono B3.size)).alloc (Nat.le_trans B3.size hb.size) (.cells #[.int .i64 p, .int .i64 q, .int .i64 r, .int .i64 s] 24)
  clear hb
  go_wp2_with fail
  generalize w1.heap.size = I at i3 ⊢
  generalize w3.heap.size = X at x3 ⊢
  generalize w4.alloc (.cells #[.int .i64 p, .int .i64 q, .int .i64 r, .int .i64 s] 24) = w5 at i3 x3 y3 B3 ⊢
  generalize w4.heap.size = Y at y3 ⊢
  have S5 : (w5.cell? ⟨I, 0, none⟩ = some (.int .i64 op) ∧ w5.cell? ⟨I, 1, none⟩ = some (.int .i64 d) ∧ w5.cell? ⟨I, 2, none⟩ = some (.int .i64 a) ∧ w5.cell? ⟨I, 3, none⟩ = some (.int .i64 k) ∧ w5.cell? ⟨X, 0, none⟩ = some (.int .i64 p) ∧ w5.cell? ⟨X, 1, none⟩ = some (.int .i64 q) ∧ w5.cell? ⟨X, 2, none⟩ = some (.int .i64 r) ∧ w5.cell? ⟨X, 3, none⟩ = some (.int .i64 s) ∧ w5.cell? ⟨Y, 0, none⟩ = some (.int .i64 p) ∧ w5.cell? ⟨Y, 1, none⟩ = some (.int .i64 q) ∧ w5.cell? ⟨Y, 2, none⟩ = some (.int .i64 r) ∧ w5.cell? ⟨Y, 3, none⟩ = some (.int .i64 s) ∧ Below w.heap.size w w5) := ⟨i3.c0, i3.c1, i3.c2, i3.c3, x3.c0, x3.c1, x3.c2, x3.c3, y3.c0, y3.c1, y3.c2, y3.c3, B3⟩
  have KB : ∀ v v' : World, (v.cell? ⟨I, 0, none⟩ = some (.int .i64 op) ∧ v.cell? ⟨I, 1, none⟩ = some (.int .i64 d) ∧ v.cell? ⟨I, 2, none⟩ = some (.int .i64 a) ∧ v.cell? ⟨I, 3, none⟩ = some (.int .i64 k) ∧ v.cell? ⟨X, 0, none⟩ = some (.int .i64 p) ∧ v.cell? ⟨X, 1, none⟩ = some (.int .i64 q) ∧ v.cell? ⟨X, 2, none⟩ = some (.int .i64 r) ∧ v.cell? ⟨X, 3, none⟩ = some (.int .i64 s) ∧ v.cell? ⟨Y, 0, none⟩ = some (.int .i64 p) ∧ v.cell? ⟨Y, 1, none⟩ = some (.int .i64 q) ∧ v.cell? ⟨Y, 2, none⟩ = some (.int .i64 r) ∧ v.cell? ⟨Y, 3, none⟩ = some (.int .i64 s) ∧ Below w.heap.size w v) → Below v.heap.size v v' → (v'.cell? ⟨I, 0, none⟩ = some (.int .i64 op) ∧ v'.cell? ⟨I, 1, none⟩ = some (.int .i64 d) ∧ v'.cell? ⟨I, 2, none⟩ = some (.int .i64 a) ∧ v'.cell? ⟨I, 3, none⟩ = some (.int .i64 k) ∧ v'.cell? ⟨X, 0, none⟩ = some (.int .i64 p) ∧ v'.cell? ⟨X, 1, none⟩ = some (.int .i64 q) ∧ v'.cell? ⟨X, 2, none⟩ = some (.int .i64 r) ∧ v'.cell? ⟨X, 3, none⟩ = some (.int .i64 s) ∧ v'.cell? ⟨Y, 0, none⟩ = some (.int .i64 p) ∧ v'.cell? ⟨Y, 1, none⟩ = some (.int .i64 q) ∧ v'.cell? ⟨Y, 2, none⟩ = some (.int .i64 r) ∧ v'.cell? ⟨Y, 3, none⟩ = some (.int .i64 s) ∧ Below w.heap.size w v') := fun v v' h hb => ⟨Ins.cell_below hb h.1, Ins.cell_below hb h.2.1, Ins.cell_below hb h.2.2.1, Ins.cell_below hb h.2.2.2.1, Ins.cell_below hb h.2.2.2.2.1, Ins.cell_below hb h.2.2.2.2.2.1, Ins.cell_below hb h.2.2.2.2.2.2.1, Ins.cell_below hb h.2.2.2.2.2.2.2.1, Ins.cell_below hb h.2.2.2.2.2.2.2.2.1, Ins.cell_below hb h.2.2.2.2.2.2.2.2.2.1, Ins.cell_below hb h.2.2.2.2.2.2.2.2.2.2.1, Ins.cell_below hb h.2.2.2.2.2.2.2.2.2.2.2.1, h.2.2.2.2.2.2.2.2.2.2.2.2.trans (hb.mono h.2.2.2.2.2.2.2.2.2.2.2.2.size)⟩
  have KD : ∀ v : World, (v.cell? ⟨I, 0, none⟩ = some (.int .i64 op) ∧ v.cell? ⟨I, 1, none⟩ = some (.int .i64 d) ∧ v.cell? ⟨I, 2, none⟩ = some (.int .i64 a) ∧ v.cell? ⟨I, 3, none⟩ = some (.int .i64 k) ∧ v.cell? ⟨X, 0, none⟩ = some (.int .i64 p) ∧ v.cell? ⟨X, 1, none⟩ = some (.int .i64 q) ∧ v.cell? ⟨X, 2, none⟩ = some (.int .i64 r) ∧ v.cell? ⟨X, 3, none⟩ = some (.int .i64 s) ∧ v.cell? ⟨Y, 0, none⟩ = some (.int .i64 p) ∧ v.cell? ⟨Y, 1, none⟩ = some (.int .i64 q) ∧ v.cell? ⟨Y, 2, none⟩ = some (.int .i64 r) ∧ v.cell? ⟨Y, 3, none⟩ = some (.int .i64 s) ∧ Below w.heap.size w v) → (v.drew.cell? ⟨I, 0, none⟩ = some (.int .i64 op) ∧ v.drew.cell? ⟨I, 1, none⟩ = some (.int .i64 d) ∧ v.drew.cell? ⟨I, 2, none⟩ = some (.int .i64 a) ∧ v.drew.cell? ⟨I, 3, none⟩ = some (.int .i64 k) ∧ v.drew.cell? ⟨X, 0, none⟩ = some (.int .i64 p) ∧ v.drew.cell? ⟨X, 1, none⟩ = some (.int .i64 q) ∧ v.drew.cell? ⟨X, 2, none⟩ = some (.int .i64 r) ∧ v.drew.cell? ⟨X, 3, none⟩ = some (.int .i64 s) ∧ v.drew.cell? ⟨Y, 0, none⟩ = some (.int .i64 p) ∧ v.drew.cell? ⟨Y, 1, none⟩ = some (.int .i64 q) ∧ v.drew.cell? ⟨Y, 2, none⟩ = some (.int .i64 r) ∧ v.drew.cell? ⟨Y, 3, none⟩ = some (.int .i64 s) ∧ Below w.heap.size w v.drew) := fun v h => ⟨h.1, h.2.1, h.2.2.1, h.2.2.2.1, h.2.2.2.2.1, h.2.2.2.2.2.1, h.2.2.2.2.2.2.1, h.2.2.2.2.2.2.2.1, h.2.2.2.2.2.2.2.2.1, h.2.2.2.2.2.2.2.2.2.1, h.2.2.2.2.2.2.2.2.2.2.1, h.2.2.2.2.2.2.2.2.2.2.2.1, h.2.2.2.2.2.2.2.2.2.2.2.2.drew⟩
  clear i3 x3 y3 B3
  have nb : (Ins.putN op d a k != Ins.putN op d a k) = false := by simp
  first | (go_region_held3 (fun v => (v.cell? ⟨I, 0, none⟩ = some (.int .i64 op) ∧ v.cell? ⟨I, 1, none⟩ = some (.int .i64 d) ∧ v.cell? ⟨I, 2, none⟩ = some (.int .i64 a) ∧ v.cell? ⟨I, 3, none⟩ = some (.int .i64 k) ∧ v.cell? ⟨X, 0, none⟩ = some (.int .i64 p) ∧ v.cell? ⟨X, 1, none⟩ = some (.int .i64 q) ∧ v.cell? ⟨X, 2, none⟩ = some (.int .i64 r) ∧ v.cell? ⟨X, 3, none⟩ = some (.int .i64 s) ∧ v.cell? ⟨Y, 0, none⟩ = some (.int .i64 p) ∧ v.cell? ⟨Y, 1, none⟩ = some (.int .i64 q) ∧ v.cell? ⟨Y, 2, none⟩ = some (.int .i64 r) ∧ v.cell? ⟨Y, 3, none⟩ = some (.int .i64 s) ∧ Below w.heap.size w v)) (first | exact KD _ (by assumption) | exact KB _ _ (by assumption) (by assumption)) (first | (go_at_call 12; refine (InsI.insPut op d a k _).mono ?_; rintro e w6 ⟨rfl, hb6⟩) | (go_at_call 13; refine (Ins.insPut op d a k _).mono ?_; rintro e w7 ⟨rfl, hb7⟩))) | fail
  have S7 := KB _ _ (KB _ _ (KD _ S5) hb6) hb7
  clear S5 hb6 hb7 KD
  cases tb with
  | false =>
    obtain ⟨c0, c1, c2, c3, c4, c5, c6, c7, c8, c9, c10, c11, B7⟩ := id S7
    go_wp2_with fail
    refine (Ins.insOk op d a k _).mono ?_
    rintro e w8 ⟨rfl, hb8⟩
    clear c0 c1 c2 c3 c4 c5 c6 c7 c8 c9 c10 c11 B7
    replace S7 := KB _ _ S7 hb8
    clear hb8
    cases hk : Ins.okB op d a k with
    | false =>
      have HP : Ins.putN op d a k = 0 := by unfold Ins.putN; rw [hk]; rfl
      obtain ⟨c0, c1, c2, c3, _, _, _, _, _, _, _, _, _⟩ := id S7
      go_wp2_with fail
      refine (InsI.insPut op d a k _).mono ?_
      rintro e w9 ⟨rfl, hb9⟩
      rw [HP]
      clear c0 c1 c2 c3
      replace S7 := KB _ _ S7 hb9
      clear hb9
      obtain ⟨c0, c1, c2, c3, _, _, _, _, _, _, _, _, _⟩ := id S7
      go_wp2_with fail
      refine (InsI.insOk op d a k _).mono ?_
      rintro e w10 ⟨rfl, hb10⟩
      rw [hk]
      replace S7 := KB _ _ S7 hb10
      clear hb10 c0 c1 c2 c3
      go_wp2_with fail
      refine (laOk _).mono ?_
      rintro e w11 ⟨rfl, rfl⟩
      obtain ⟨_, _, _, _, _, _, _, _, _, _, _, _, B⟩ := S7
      clear KB hk HP
      go_wp2
      go_ret
      exact ⟨rfl, B⟩
    | true =>
      obtain ⟨m0, m1, tB, tC⟩ := put_take hk
      obtain ⟨m, em⟩ : ∃ m, Ins.putN op d a k = m := ⟨_, rfl⟩
      rw [em] at m0 m1 tB tC
      have TB := Draw.hideD tB
      have TC := Draw.hideD tC
      have EM := Draw.hideD em
      clear hk tB tC em nb
      obtain ⟨c0, c1, c2, c3, _, _, _, _, _, _, _, _, _⟩ := id S7
      go_wp2_with fail
      refine (InsI.insPut op d a k _).mono ?_
      rintro e w9 ⟨rfl, hb9⟩
      rw [EM.out]
      clear c0 c1 c2 c3
      replace S7 := KB _ _ S7 hb9
      clear hb9
      go_wp2_with fail
      refine (InsI.insTake m _).mono ?_
      rintro e w10 ⟨rfl, hb10⟩
      rw [TB.out, TC.out]
      replace S7 := KB _ _ S7 hb10
      clear hb10
      have y10 := Draw.Blk.new w10 op d a k 24
      replace S7 := KB _ _ S7 ((Below.refl _ _).alloc (Nat.le_refl _) (.cells #[.int .i64 op, .int .i64 d, .int .i64 a, .int .i64 k] 24))
      obtain ⟨c0, c1, c2, c3, _, _, _, _, _, _, _, _, _⟩ := id S7
      go_wp2_with fail
      refine (InsI.insPut op d a k _).mono ?_
      rintro e w11 ⟨rfl, hb11⟩
      rw [EM.out]
      replace S7 := KB _ _ S7 hb11
      clear hb11 c0 c1 c2 c3 y10
      go_wp2_with fail
      refine (InsI.implOk_t m _ m0 m1).mono ?_
      rintro e w12 ⟨rfl, rfl⟩
      obtain ⟨_, _, _, _, _, _, _, _, _, _, _, _, B⟩ := S7
      clear KB
      go_wp2
      go_ret
      exact ⟨rfl, B⟩
  | true =>
    obtain ⟨n2, n3, ok, pt⟩ := HT.out ETB.out
    have OK := Draw.hideD ok
    have PT := Draw.hideD pt
    clear ok pt
    have nn : (n != n) = false := by simp
    obtain ⟨_, _, _, _, c4, c5, c6, c7, _, _, _, _, _⟩ := id S7
    go_wp2_with fail
    refine (InsI.insOk p q r s _).mono ?_
    rintro e w75 ⟨rfl, hb⟩
    rw [OK.out]
    replace S7 := KB _ _ S7 hb
    clear hb c4 c5 c6 c7
    obtain ⟨_, _, _, _, c4, c5, c6, c7, _, _, _, _, _⟩ := id S7
    go_wp2_with fail
    refine (InsI.insPut p q r s _).mono ?_
    rintro e w76 ⟨rfl, hb⟩
    rw [PT.out]
    replace S7 := KB _ _ S7 hb
    clear hb c4 c5 c6 c7
    obtain ⟨c0, c1, c2, c3, c4, c5, c6, c7, c8, c9, c10, c11, B7⟩ := id S7
    go_wp2_with fail
    refine (Ins.insOk op d a k _).mono ?_
    rintro e w8 ⟨rfl, hb8⟩
    clear c0 c1 c2 c3 c4 c5 c6 c7 c8 c9 c10 c11 B7
    replace S7 := KB _ _ S7 hb8
    clear hb8
    cases hk : Ins.okB op d a k with
    | false =>
      have HP : Ins.putN op d a k = 0 := by unfold Ins.putN; rw [hk]; rfl
      obtain ⟨c0, c1, c2, c3, _, _, _, _, _, _, _, _, _⟩ := id S7
      go_wp2_with fail
      refine (InsI.insPut op d a k _).mono ?_
      rintro e w9 ⟨rfl, hb9⟩
      rw [HP]
      clear c0 c1 c2 c3
      replace S7 := KB _ _ S7 hb9
      clear hb9
      obtain ⟨c0, c1, c2, c3, _, _, _, _, _, _, _, _, _⟩ := id S7
      go_wp2_with fail
      refine (InsI.insOk op d a k _).mono ?_
      rintro e w10 ⟨rfl, hb10⟩
      rw [hk]
      replace S7 := KB _ _ S7 hb10
      clear hb10 c0 c1 c2 c3
      go_wp2_with fail
      refine (laOk _).mono ?_
      rintro e w11 ⟨rfl, rfl⟩
      obtain ⟨_, _, _, _, _, _, _, _, _, _, _, _, B⟩ := S7
      clear KB hk HP
      go_wp2
      go_ret
      exact ⟨rfl, B⟩
    | true =>
      obtain ⟨m0, m1, tB, tC⟩ := put_take hk
      obtain ⟨m, em⟩ : ∃ m, Ins.putN op d a k = m := ⟨_, rfl⟩
      rw [em] at m0 m1 tB tC
      have TB := Draw.hideD tB
      have TC := Draw.hideD tC
      have EM := Draw.hideD em
      clear hk tB tC em nb
      obtain ⟨c0, c1, c2, c3, _, _, _, _, _, _, _, _, _⟩ := id S7
      go_wp2_with fail
      refine (InsI.insPut op d a k _).mono ?_
      rintro e w9 ⟨rfl, hb9⟩
      rw [EM.out]
      clear c0 c1 c2 c3
      replace S7 := KB _ _ S7 hb9
      clear hb9
      go_wp2_with fail
      refine (InsI.insTake m _).mono ?_
      rintro e w10 ⟨rfl, hb10⟩
      rw [TB.out, TC.out]
      replace S7 := KB _ _ S7 hb10
      clear hb10
      have y10 := Draw.Blk.new w10 op d a k 24
      replace S7 := KB _ _ S7 ((Below.refl _ _).alloc (Nat.le_refl _) (.cells #[.int .i64 op, .int .i64 d, .int .i64 a, .int .i64 k] 24))
      obtain ⟨c0, c1, c2, c3, _, _, _, _, _, _, _, _, _⟩ := id S7
      go_wp2_with fail
      refine (InsI.insPut op d a k _).mono ?_
      rintro e w11 ⟨rfl, hb11⟩
      rw [EM.out]
      replace S7 := KB _ _ S7 hb11
      clear hb11 c0 c1 c2 c3 y10
      go_wp2_with fail
      refine (InsI.implOk_t m _ m0 m1).mono ?_
      rintro e w12 ⟨rfl, rfl⟩
      obtain ⟨_, _, _, _, _, _, _, _, _, _, _, _, B⟩ := S7
      clear KB
      go_wp2
      go_ret
      exact ⟨rfl, B⟩

set_option maxRecDepth 100000 in
theorem lifted (os : Os) (started : os.Started) (H : Type) (enc : TypeId × Value → H) :
    ReturnsInHanded {} Try.checked os 3 .any (Rows.fnInsTakeSpec.pre6 enc Try.prog Try.f3 Rows.fnInsTakeRow.domain false) (Rows.fnInsTakeSpec.post enc Try.prog Try.f3 false true false false) := by
  refine returnsInHanded_of_change (C := Try.checked) own started (by kernel_rfl) Try.func3
    (ChangeSpec.witness6 (enc := enc) (C := Try.checked) false ⟨#[], #[.slice none 0 0, .slice none 0 0], []⟩ 8 (by kernel_rfl) (by kernel_rfl) (by kernel_rfl) (by kernel_rfl)) ?_
  intro W base args ds gs before hval0 hW hcnd _
  have hval : ∀ (j : Nat) t v, Try.f3.params[j]? = some t → args[j]? = some v → Value.okWide Try.prog W .any base t v := hval0
  have hW' := hW
  obtain ⟨p, q, hA0, hV, rfl, hfz, hnd⟩ := hW
  have hA : DataW.TrodAll enc Try.prog W 0 (fun _ => true) true Try.f3.params.toList args.toList ds p := hA0
  rw [Try.params3] at hA hval
  obtain ⟨v0, vs0, d0, ds0, p0, q0, hargs, rfl, rfl, h0, r0⟩ := trodAll_cons hA
  obtain ⟨v1, vs1, d1, ds1, p1, q1, rfl, rfl, rfl, h1, r1⟩ := trodAll_cons r0
  obtain ⟨rfl, rfl, rfl⟩ := trodAll_nil r1
  obtain rfl : args = #[v0, v1] := by cases args; simp_all
  obtain ⟨rfl, rfl⟩ := trodVars_none hV
  obtain ⟨a0, len0, cap0, rfl⟩ := okWide_slice Try.underlying22 (hval 0 22 v0 rfl rfl)
  have k0 := h0
  have lt0 : ∀ x ∈ p0, x.block < W.heap.size := by obtain ⟨m, hm⟩ := k0; exact DataW.trod_lt m _ _ _ hm
  obtain ⟨z0, w0⟩ : ∃ zs, IsRow .u8 W a0 len0 cap0 zs := by
    obtain ⟨fuel, hf⟩ := h0
    rcases open_ints Try.underlying22 Try.underlying5 (by kernel_rfl) hf with ⟨hcs, _⟩ | ⟨x, l, c, zs, hcs, _, hl, hm, hz, _, hcell, hwz⟩
    · simp [Value.cells] at hcs
      obtain ⟨rfl, rfl, rfl⟩ := hcs
      exact ⟨[], .inl ⟨rfl, rfl, rfl, rfl⟩⟩
    · simp [Value.cells] at hcs
      obtain ⟨rfl, rfl, rfl⟩ := hcs
      exact ⟨zs, .inr ⟨_, rfl, hl, hm, by simpa using hz, hcell, hwz⟩⟩
  obtain ⟨a1, len1, cap1, rfl⟩ := okWide_slice Try.underlying22 (hval 1 22 v1 rfl rfl)
  have k1 := h1
  have lt1 : ∀ x ∈ p1, x.block < W.heap.size := by obtain ⟨m, hm⟩ := k1; exact DataW.trod_lt m _ _ _ hm
  obtain ⟨z1, w1⟩ : ∃ zs, IsRow .u8 W a1 len1 cap1 zs := by
    obtain ⟨fuel, hf⟩ := h1
    rcases open_ints Try.underlying22 Try.underlying5 (by kernel_rfl) hf with ⟨hcs, _⟩ | ⟨x, l, c, zs, hcs, _, hl, hm, hz, _, hcell, hwz⟩
    · simp [Value.cells] at hcs
      obtain ⟨rfl, rfl, rfl⟩ := hcs
      exact ⟨[], .inl ⟨rfl, rfl, rfl, rfl⟩⟩
    · simp [Value.cells] at hcs
      obtain ⟨rfl, rfl, rfl⟩ := hcs
      exact ⟨zs, .inr ⟨_, rfl, hl, hm, by simpa using hz, hcell, hwz⟩⟩
  clear hA0 hval0
  refine (walk a0 len0 cap0 z0 a1 len1 cap1 z1 W w0 w1).mono fun e W' ⟨he, bel⟩ => ?_
  subst he
  exact ⟨_, rfl, _, _, _, [], _, [], hW', trodAll_mk1 (shut_bool Try.underlying4 _), (trodAll_cons_mk (Below.trod laidOut (by kernel_rfl) (of_decide_eq_true (by kernel_rfl)) k0 bel lt0) (trodAll_cons_mk (Below.trod laidOut (by kernel_rfl) (of_decide_eq_true (by kernel_rfl)) k1 bel lt1) trodAll_mk0)), rfl, bel.frame _, fun h => by cases h⟩

theorem over : Rows.fnInsTakeRow.holds Try.pinned (OpenSpec.ofChange Rows.fnInsTakeSpec) :=
  OpenClaim.holds_of_wide 3 Try.f3 rfl rfl rfl rfl rfl rfl rfl ⟨rfl, rfl, rfl, rfl, rfl⟩ rfl rfl rfl rfl rfl (by kernel_rfl) Try.func3 (by kernel_rfl)
    (of_decide_eq_true (by kernel_rfl)) (by unfold Func.isWrapper; first | (rw [if_pos (by decide +kernel)]; kernel_rfl) | (rw [if_neg (by decide +kernel)]; exact ⟨rfl, rfl⟩))
    (fun os started H enc _ => lifted os started H enc)

theorem proved : Rows.FnInsTakeSaid := over
#print axioms proved
end Go.Proofs.Ythpajjlhjfhdpaa.fnInsTake
