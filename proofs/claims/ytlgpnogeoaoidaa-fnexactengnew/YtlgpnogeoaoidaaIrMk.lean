/-
  A piece of code's operations as one list of ints: contracts of the laws' own markIrBlock; how much of a machine there is, whatever is left.
-/
import Derived.Test.YtlgpnogeoaoidaaFlat
import Derived.Test.YtlgpnogeoaoidaaIrP
import Derived.Test.YtlgpnogeoaoidaaMchM2
namespace Go.Proofs.Ytlgpnogeoaoidaa.Irk
set_option linter.unusedVariables false
set_option linter.unusedSimpArgs false
open Go.ChangeShapes Go.WideShapes Go.ChangeAt Go.RowKit IntS Flat
open Ir (Opn Bk bv ORow WORow RBk OpAt SoftAt)
open Mch (Rec M RMach mv Small)
theorem marked_put {w u : World} {B off n j : Nat} {k : Int} (h : Marked w B off n k j u) (hj : j < n) {x : Int} (hx : x = k + (j : Int)) {p : Nat} (hp : p = off + j) : Marked w B off n k (j + 1) (u.setCell ⟨B, p, none⟩ (.int .i64 x)) := by
  subst hx hp
  exact h.next hj
def flatO : List Opn → List Int
  | [] => []
  | o :: r => o.kd :: o.x :: o.y :: o.k :: o.t :: flatO r
theorem flatO_len : ∀ os : List Opn, (flatO os).length = os.length * 5
  | [] => rfl
  | o :: r => by simp [flatO, flatO_len r]; omega
theorem flatO_app : ∀ a b : List Opn, flatO (a ++ b) = flatO a ++ flatO b
  | [], b => rfl
  | o :: a, b => by simp [flatO, flatO_app a b]
theorem flatO_at : ∀ (os : List Opn) (i : Nat) (c : Opn), os[i]? = some c → (flatO os)[i * 5]? = some c.kd ∧ (flatO os)[i * 5 + 1]? = some c.x ∧ (flatO os)[i * 5 + 2]? = some c.y ∧ (flatO os)[i * 5 + 3]? = some c.k ∧ (flatO os)[i * 5 + 4]? = some c.t
  | [], i, c, h => by simp at h
  | d :: r, 0, c, h => by
    obtain rfl := Option.some.inj h
    exact ⟨rfl, rfl, rfl, rfl, rfl⟩
  | d :: r, i + 1, c, h => by
    have := flatO_at r i c h
    rw [show (i + 1) * 5 = i * 5 + 1 + 1 + 1 + 1 + 1 by omega]
    exact this
theorem orow_of {w : World} {B : Nat} {v : Value} {os : List Opn} (h : FRow 5 w B v os.length (flatO os)) : ORow w B v os := by
  obtain ⟨a, cap, off, h1, h2, h3, hz, hl, h4⟩ := h
  refine ⟨a, cap, off, h1, h2, h3, hz, h4.imp (fun e => List.length_eq_zero_iff.1 e) fun ⟨e, q⟩ => ⟨e, fun i o ho => ?_⟩⟩
  obtain ⟨k1, k2, k3, k4, k5⟩ := flatO_at os i o ho
  exact ⟨q _ _ k1, q _ _ k2, q _ _ k3, q _ _ k4, q _ _ k5⟩
set_option maxRecDepth 8000 in
set_option maxHeartbeats 4000000 in
theorem markIrOpS (k : Int) (n : Nat) (fs : List Int) (B : Nat) (v : Value) (w : World) (h : WFRow 5 w B v n fs) (hk0 : 0 ≤ k) (hk1 : k ≤ 1000000000000) (hn : n ≤ 1000000000) :
    Calls Try.prog 46 #[v, .int .i64 k] w fun e w' => e = .returned (.int .i64 (k + (n : Int) * 5)) ∧ WFRow 5 w' B v n (marks k (n * 5)) ∧ Turn B w w' := by
  obtain ⟨a, cap, off, rfl, h2, h3, hz, hfl, h4⟩ := h
  have HM : Hid (cap ≤ maxLen) := h3
  have HZ := hide hz
  clear hz
  unfold maxLen at h3
  by_cases h0 : n = 0
  · subst h0
    clear h4 hfl
    go_enter Try.func46, Try.ntmps46
    go_wp2
    refine wp_loop_rounds 1 ?_
    rw [rounds_succ]
    go_wp2
    go_ret
    exact ⟨ret_int (by omega), ⟨a, cap, off, rfl, Nat.zero_le _, HM.out, HZ.out, marks_len _ _, Or.inl rfl⟩, Turn.refl _ _⟩
  · obtain ⟨rfl, hB, hc⟩ := h4.resolve_left h0
    have M0 : Hid (Marked w B off (n * 5) k 0 w) := marked_new hfl hB hc
    clear hc h4 hfl
    obtain ⟨KE, eKE⟩ : ∃ KE, k + (n : Int) * 5 = KE := ⟨_, rfl⟩
    rw [eKE]
    have EKE := hide eKE
    clear eKE
    go_enter Try.func46, Try.ntmps46
    go_wp2
    go_loopw [1, 5] (fun q i wr => ∃ (j : Nat) (kk : Int), j ≤ n ∧ i = .int .i64 j ∧ q = .int .i64 kk ∧ Hid (kk = k + ((j * 5 : Nat) : Int)) ∧ 0 ≤ kk ∧ kk ≤ 10000000000000 ∧ Hid (Marked w B off (n * 5) k (j * 5) wr)) (fun _ i _ => n - (intOf i).toNat)
    case atStart => exact ⟨0, k, by omega, rfl, rfl, by show _ = _; simp, hk0, by omega, M0⟩
    case round =>
      obtain ⟨j, kk, hj, rfl, rfl, HK, kk0, kk1, HB⟩ := hrel
      by_cases hlt : j < n
      · obtain ⟨y0, p0⟩ := HB.out.left (j * 5) (by omega) (by omega)
        obtain ⟨y1, p1⟩ := HB.out.left (j * 5 + 1) (by omega) (by omega)
        obtain ⟨y2, p2⟩ := HB.out.left (j * 5 + 2) (by omega) (by omega)
        obtain ⟨y3, p3⟩ := HB.out.left (j * 5 + 3) (by omega) (by omega)
        obtain ⟨y4, p4⟩ := HB.out.left (j * 5 + 4) (by omega) (by omega)
        have f0 := HB.out.soft (j * 5) (by omega)
        have f1 := HB.out.soft (j * 5 + 1) (by omega)
        have f2 := HB.out.soft (j * 5 + 2) (by omega)
        have f3 := HB.out.soft (j * 5 + 3) (by omega)
        have f4 := HB.out.soft (j * 5 + 4) (by omega)
        rw [← Nat.add_assoc] at p1 p2 p3 p4 f1 f2 f3 f4
        have M1 : Marked w B off (n * 5) k (j * 5 + 1) (wr.setCell ⟨B, off + j * 5, none⟩ (.int .i64 kk)) := marked_put HB.out (by omega) HK.out rfl
        have M2 : Marked w B off (n * 5) k (j * 5 + 2) ((wr.setCell ⟨B, off + j * 5, none⟩ (.int .i64 kk)).setCell ⟨B, off + j * 5 + 1, none⟩ (.int .i64 (kk + 1))) := marked_put M1 (by omega) (by have := HK.out; omega) (by omega)
        have M3 : Marked w B off (n * 5) k (j * 5 + 3) (((wr.setCell ⟨B, off + j * 5, none⟩ (.int .i64 kk)).setCell ⟨B, off + j * 5 + 1, none⟩ (.int .i64 (kk + 1))).setCell ⟨B, off + j * 5 + 2, none⟩ (.int .i64 (kk + 1 + 1))) := marked_put M2 (by omega) (by have := HK.out; omega) (by omega)
        have M4 : Marked w B off (n * 5) k (j * 5 + 4) ((((wr.setCell ⟨B, off + j * 5, none⟩ (.int .i64 kk)).setCell ⟨B, off + j * 5 + 1, none⟩ (.int .i64 (kk + 1))).setCell ⟨B, off + j * 5 + 2, none⟩ (.int .i64 (kk + 1 + 1))).setCell ⟨B, off + j * 5 + 3, none⟩ (.int .i64 (kk + 1 + 1 + 1))) := marked_put M3 (by omega) (by have := HK.out; omega) (by omega)
        have M5 : Marked w B off (n * 5) k (j * 5 + 5) (((((wr.setCell ⟨B, off + j * 5, none⟩ (.int .i64 kk)).setCell ⟨B, off + j * 5 + 1, none⟩ (.int .i64 (kk + 1))).setCell ⟨B, off + j * 5 + 2, none⟩ (.int .i64 (kk + 1 + 1))).setCell ⟨B, off + j * 5 + 3, none⟩ (.int .i64 (kk + 1 + 1 + 1))).setCell ⟨B, off + j * 5 + 4, none⟩ (.int .i64 (kk + 1 + 1 + 1 + 1))) := marked_put M4 (by omega) (by have := HK.out; omega) (by omega)
        rw [show j * 5 + 5 = (j + 1) * 5 by omega] at M5
        have NX := hide M5
        have HK2 : Hid (kk + 1 + 1 + 1 + 1 + 1 = k + (((j + 1) * 5 : Nat) : Int)) := show _ = _ by have := HK.out; omega
        have lw := HB.out.lt
        have lj : ((j : Nat) : Int) < (n : Nat) := by omega
        have kb : kk ≤ 1000000000000 + 5000000000 := by have := HK.out; omega
        clear HB M1 M2 M3 M4 M5 kk1
        go_wp2
        exact ⟨⟨j + 1, kk + 1 + 1 + 1 + 1 + 1, by omega, by go_num, by go_num, HK2, by omega, by omega, NX⟩, by simp [intOf]; omega⟩
      · have ej : j = n := by omega
        subst ej
        have HE : Hid (kk = KE) := show _ = _ by have := HK.out; have := EKE.out; omega
        go_wp2
        go_ret
        exact ⟨ret_int HE.out, marked_whole HB.out h2 HM.out, HB.out.turn⟩
set_option maxRecDepth 8000 in
set_option maxHeartbeats 4000000 in
theorem heldIrOpS (k : Int) (n : Nat) (B : Nat) (v : Value) (w : World) (h : FRow 5 w B v n (marks k (n * 5))) (hk0 : 0 ≤ k) (hk1 : k ≤ 1000000000000) (hn : n ≤ 1000000000) :
    Calls Try.prog 48 #[v, .int .i64 k] w fun e w' => e = .returned (.int .i64 (k + (n : Int) * 5)) ∧ Below w.heap.size w w' := by
  obtain ⟨a, cap, off, rfl, h2, h3, hz, hfl, h4⟩ := h
  clear hz hfl
  unfold maxLen at h3
  by_cases h0 : n = 0
  · subst h0
    clear h4
    go_enter Try.func48, Try.ntmps48
    go_wp2
    refine wp_loop_rounds 1 ?_
    rw [rounds_succ]
    go_wp2
    go_ret
    exact ⟨ret_int (by omega), Below.refl _ _⟩
  · obtain ⟨rfl, hc⟩ := h4.resolve_left h0
    have HC := hide hc
    clear hc h4
    obtain ⟨KE, eKE⟩ : ∃ KE, k + (n : Int) * 5 = KE := ⟨_, rfl⟩
    rw [eKE]
    have EKE := hide eKE
    clear eKE
    go_enter Try.func48, Try.ntmps48
    go_wp2
    go_loopw [1, 5] (fun q i wr => ∃ (j : Nat) (kk : Int), j ≤ n ∧ i = .int .i64 j ∧ q = .int .i64 kk ∧ Hid (kk = k + ((j * 5 : Nat) : Int)) ∧ 0 ≤ kk ∧ kk ≤ 10000000000000 ∧ Hid (Below w.heap.size w wr)) (fun _ i _ => n - (intOf i).toNat)
    case atStart => exact ⟨0, k, by omega, rfl, rfl, by show _ = _; simp, hk0, by omega, Below.refl _ _⟩
    case round =>
      obtain ⟨j, kk, hj, rfl, rfl, HK, kk0, kk1, HB⟩ := hrel
      by_cases hlt : j < n
      · have gt (d : Nat) (hd : d < 5) (x : Int) (hx : x = kk + (d : Int)) : wr.cell? ⟨B, off + (j * 5 + d), none⟩ = some (.int .i64 x) := by
          have := cell_below HB.out (HC.out (j * 5 + d) _ (marks_at (by omega)))
          rw [this]
          congr 2
          have := HK.out
          omega
        have c0 : wr.cell? ⟨B, off + j * 5, none⟩ = some (.int .i64 kk) := gt 0 (by omega) _ (by omega)
        have c1 : wr.cell? ⟨B, off + j * 5 + 1, none⟩ = some (.int .i64 (kk + 1)) := gt 1 (by omega) _ (by omega)
        have c2 : wr.cell? ⟨B, off + j * 5 + 2, none⟩ = some (.int .i64 (kk + 1 + 1)) := gt 2 (by omega) _ (by omega)
        have c3 : wr.cell? ⟨B, off + j * 5 + 3, none⟩ = some (.int .i64 (kk + 1 + 1 + 1)) := gt 3 (by omega) _ (by omega)
        have c4 : wr.cell? ⟨B, off + j * 5 + 4, none⟩ = some (.int .i64 (kk + 1 + 1 + 1 + 1)) := gt 4 (by omega) _ (by omega)
        have n0 := Mch.same_ne kk
        have n1 := Mch.same_ne (kk + 1)
        have n2 := Mch.same_ne (kk + 1 + 1)
        have n3 := Mch.same_ne (kk + 1 + 1 + 1)
        have n4 := Mch.same_ne (kk + 1 + 1 + 1 + 1)
        have HK2 : Hid (kk + 1 + 1 + 1 + 1 + 1 = k + (((j + 1) * 5 : Nat) : Int)) := show _ = _ by have := HK.out; omega
        have lj : ((j : Nat) : Int) < (n : Nat) := by omega
        have kb : kk ≤ 1000000000000 + 5000000000 := by have := HK.out; omega
        clear gt kk1
        go_wp2
        exact ⟨⟨j + 1, kk + 1 + 1 + 1 + 1 + 1, by omega, by go_num, by go_num, HK2, by omega, by omega, HB⟩, by simp [intOf]; omega⟩
      · have ej : j = n := by omega
        subst ej
        have HE : Hid (kk = KE) := show _ = _ by have := HK.out; have := EKE.out; omega
        go_wp2
        go_ret
        exact ⟨ret_int HE.out, HB.out⟩
theorem flatO_back : ∀ (os : List Opn) (j : Nat) (x : Int), (flatO os)[j]? = some x → ∃ (i r : Nat) (c : Opn), os[i]? = some c ∧ j = i * 5 + r ∧ (r = 0 ∧ x = c.kd ∨ r = 1 ∧ x = c.x ∨ r = 2 ∧ x = c.y ∨ r = 3 ∧ x = c.k ∨ r = 4 ∧ x = c.t)
  | [], j, x, h => by simp [flatO] at h
  | o :: r, 0, x, h => ⟨0, 0, o, rfl, rfl, Or.inl ⟨rfl, (Option.some.inj h).symm⟩⟩
  | o :: r, 1, x, h => ⟨0, 1, o, rfl, rfl, Or.inr (Or.inl ⟨rfl, (Option.some.inj h).symm⟩)⟩
  | o :: r, 2, x, h => ⟨0, 2, o, rfl, rfl, Or.inr (Or.inr (Or.inl ⟨rfl, (Option.some.inj h).symm⟩))⟩
  | o :: r, 3, x, h => ⟨0, 3, o, rfl, rfl, Or.inr (Or.inr (Or.inr (Or.inl ⟨rfl, (Option.some.inj h).symm⟩)))⟩
  | o :: r, 4, x, h => ⟨0, 4, o, rfl, rfl, Or.inr (Or.inr (Or.inr (Or.inr ⟨rfl, (Option.some.inj h).symm⟩)))⟩
  | o :: r, j + 5, x, h => by
    obtain ⟨i, q, c, h1, h2, h3⟩ := flatO_back r j x h
    exact ⟨i + 1, q, c, h1, by omega, h3⟩
theorem wf_of {w : World} {B : Nat} {v : Value} {os : List Opn} (h : WORow w B v os) : WFRow 5 w B v os.length (flatO os) := by
  obtain ⟨a, cap, off, h1, h2, h3, hz, h4⟩ := h
  refine ⟨a, cap, off, h1, h2, h3, hz, flatO_len os, h4.imp (fun e => by rw [e]; rfl) fun ⟨e, hl, q⟩ => ⟨e, hl, fun j x hx => ?_⟩⟩
  obtain ⟨i, r, c, k1, k2, k3⟩ := flatO_back os j x hx
  obtain ⟨⟨c0, c1, c2, c3, c4⟩, s0, s1, s2, s3, s4⟩ := q i c k1
  subst k2
  rw [← Nat.add_assoc]
  rcases k3 with ⟨rfl, rfl⟩ | ⟨rfl, rfl⟩ | ⟨rfl, rfl⟩ | ⟨rfl, rfl⟩ | ⟨rfl, rfl⟩
  · exact ⟨c0, s0⟩
  · exact ⟨c1, s1⟩
  · exact ⟨c2, s2⟩
  · exact ⟨c3, s3⟩
  · exact ⟨c4, s4⟩
set_option maxRecDepth 8000 in
set_option maxHeartbeats 4000000 in
theorem szMchL (left : Int) (f0 : 0 ≤ left) (f1 : left ≤ 1048576) (m : M) (c : List Value) (w : World) (h : RMach w c m) :
    Calls Try.prog 5 #[.agg c.toArray, .int .i64 left] w fun e w' => ∃ n : Int, e = .returned (.int .i64 n) ∧ -1 ≤ n ∧ (0 ≤ n → Small m) ∧ Below w.heap.size w w' := by
  obtain ⟨r, e, i, o, b1, b2, b3, b4, rfl, h1, h2, h3, h4⟩ := h
  obtain ⟨regs, pc, mem, save, lets, waits, halt, ins, outs, count⟩ := m
  obtain ⟨a1, c1, _, rfl, p1, q1, _⟩ := h1
  obtain ⟨a2, c2, _, rfl, p2, q2, _⟩ := h2
  obtain ⟨a3, c3, _, rfl, p3, q3, _⟩ := h3
  obtain ⟨a4, c4, _, rfl, p4, q4, _⟩ := h4
  simp only [mv] at *
  have BW : Hid (Below w.heap.size w (w.alloc (.cells #[.slice a1 regs.length c1, .int .i64 pc, .slice a2 mem.length c2, .int .i64 save, .bool lets, .bool waits, .int .i64 halt, .slice a3 ins.length c3, .slice a4 outs.length c4, .int .i64 count] 24))) := (Below.refl _ _).alloc (Nat.le_refl _) _
  go_enter Try.func5, Try.ntmps5
  go_wp2_with fail
  refine (szIntS regs.length c1 a1 left _ p1 q1 (by omega) (by omega)).mono ?_
  rintro e u ⟨rfl, rfl⟩
  by_cases e1 : left < (regs.length : Int)
  · rw [if_pos e1]
    go_wp2
    go_ret
    exact ⟨-1, rfl, by omega, fun h => by omega, BW.out⟩
  · rw [if_neg e1]
    go_wp2_with fail
    refine (szIntS mem.length c2 a2 (left - (regs.length : Int)) _ p2 q2 (by omega) (by omega)).mono ?_
    rintro e u ⟨rfl, rfl⟩
    by_cases e2 : (left - (regs.length : Int)) < (mem.length : Int)
    · rw [if_pos e2]
      go_wp2
      go_ret
      exact ⟨-1, rfl, by omega, fun h => by omega, BW.out⟩
    · rw [if_neg e2]
      go_wp2_with fail
      refine (szIntS ins.length c3 a3 (left - (regs.length : Int) - (mem.length : Int)) _ p3 q3 (by omega) (by omega)).mono ?_
      rintro e u ⟨rfl, rfl⟩
      by_cases e3 : (left - (regs.length : Int) - (mem.length : Int)) < (ins.length : Int)
      · rw [if_pos e3]
        go_wp2
        go_ret
        exact ⟨-1, rfl, by omega, fun h => by omega, BW.out⟩
      · rw [if_neg e3]
        go_wp2_with fail
        refine (szIntS outs.length c4 a4 (left - (regs.length : Int) - (mem.length : Int) - (ins.length : Int)) _ p4 q4 (by omega) (by omega)).mono ?_
        rintro e u ⟨rfl, rfl⟩
        by_cases e4 : (left - (regs.length : Int) - (mem.length : Int) - (ins.length : Int)) < (outs.length : Int)
        · rw [if_pos e4]
          go_wp2
          go_ret
          exact ⟨-1, rfl, by omega, fun h => by omega, BW.out⟩
        · rw [if_neg e4]
          go_wp2
          go_ret
          exact ⟨_, rfl, by omega, fun _ => ⟨by show regs.length ≤ 1048576; omega, by show mem.length ≤ 1048576; omega, by show ins.length ≤ 1048576; omega, by show outs.length ≤ 1048576; omega⟩, BW.out⟩
end Go.Proofs.Ytlgpnogeoaoidaa.Irk
