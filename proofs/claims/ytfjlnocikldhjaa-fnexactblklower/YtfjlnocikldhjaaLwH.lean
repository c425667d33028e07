/-
  Instructions at a place as operations: BlkLower, the specification's and the program's.
-/
import Derived.Test.YtfjlnocikldhjaaLwD
import Derived.Test.YtfjlnocikldhjaaLwGa
import Derived.Test.YtfjlnocikldhjaaLwGb
import Derived.Test.YtfjlnocikldhjaaLwGc
import Derived.Test.YtfjlnocikldhjaaLwGd
import Derived.Test.YtfjlnocikldhjaaLwGe
import Derived.Test.YtfjlnocikldhjaaLwGf
import Derived.Test.YtfjlnocikldhjaaLwGg
import Derived.Test.YtfjlnocikldhjaaLwGh
import Derived.Test.YtfjlnocikldhjaaLwGi
import Derived.Test.YtfjlnocikldhjaaLwGj
import Derived.Test.YtfjlnocikldhjaaLwGk
import Derived.Test.YtfjlnocikldhjaaLwGl
import Derived.Test.YtfjlnocikldhjaaLwGm
import Derived.Test.YtfjlnocikldhjaaLwGn
import Derived.Test.YtfjlnocikldhjaaLwGo
namespace Go.Proofs.Ytfjlnocikldhjaa.Lw
set_option linter.unusedVariables false
set_option linter.unusedSimpArgs false
open Go.ChangeShapes Go.WideShapes Go.ChangeAt Go.RowKit IntS Flat
open InsS (In4 IRow at4)
open Blk (OwnN okL okAll okAt ok1 drop_at drop_end)
open Ins (okB endsB formB)
open Ir (Opn Bk lay7)
open Mch (Rec)
def lowF (b : Bk) (t : Int) : List In4 → Bk
  | [] => b
  | i :: r => lowF (oneB b t i) (t + 1) r
def begB (pc : Int) (m : Nat) : Bk := ⟨pc, m, [], 1, 0, 0, pc + m⟩
def lowB (pc : Int) (is : List In4) : Bk := if okL pc is = true then lowF (begB pc is.length) 0 is else ⟨0, 0, [], 0, 0, 0, 0⟩
theorem one_len (m t : Int) (i : In4) : (oneL m t i).length ≤ 5 := by
  unfold oneL
  repeat' split
  all_goals simp
theorem oneB_ops (b : Bk) (t : Int) (i : In4) : (oneB b t i).ops = b.ops ++ oneL b.ops.length t i := by
  unfold oneB
  repeat' split
  all_goals rfl
theorem oneB_len (b : Bk) (t : Int) (i : In4) : (oneB b t i).ops.length ≤ b.ops.length + 5 := by
  rw [oneB_ops, List.length_append]
  have := one_len b.ops.length t i
  omega
theorem oneB_y {b : Bk} {t : Int} {i : In4} (h : endsB i.op = false) : (oneB b t i).y = b.y := by
  unfold endsB at h
  have h2 : ¬ (i.op = 11 ∨ i.op = 12 ∨ i.op = 13) := of_decide_eq_false h
  unfold oneB
  rw [if_neg (fun e => h2 (Or.inl e)), if_neg (fun e => h2 (Or.inr (Or.inl e))), if_neg (fun e => h2 (Or.inr (Or.inr e)))]
theorem low_len : ∀ (is : List In4) (b : Bk) (t : Int), (lowF b t is).ops.length ≤ b.ops.length + 5 * is.length
  | [], b, t => by simp [lowF]
  | i :: r, b, t => by
    have h1 := low_len r (oneB b t i) (t + 1)
    have h2 := oneB_len b t i
    simp only [lowF, List.length_cons]
    omega
theorem okL_len {pc : Int} {is : List In4} (h : okL pc is = true) : 1 ≤ is.length ∧ is.length ≤ 8 ∧ 0 ≤ pc ∧ pc ≤ 64 := by
  unfold okL at h
  simp only [Bool.and_eq_true, decide_eq_true_eq] at h
  omega
theorem lowB_len (pc : Int) (is : List In4) : (lowB pc is).ops.length ≤ 40 := by
  unfold lowB
  split
  · rename_i h
    have h1 := low_len is (begB pc is.length) 0
    have h2 := okL_len h
    have h3 : (begB pc is.length).ops.length = 0 := rfl
    omega
  · simp
/-- What is known of an instruction of a piece of code. -/
theorem ok_at {pc : Int} {is : List In4} (h : okL pc is = true) {k : Nat} {i : In4} (hi : is[k]? = some i) : 1 ≤ i.op ∧ i.op ≤ 15 ∧ (i.op = 8 → 0 ≤ i.k ∧ i.k ≤ 15) ∧ (k + 1 < is.length → endsB i.op = false) := by
  unfold okL okAll at h
  simp only [Bool.and_eq_true, List.all_eq_true] at h
  have hk : k < is.length := (List.getElem?_eq_some_iff.1 hi).1
  have h1 := h.2 k (List.mem_range.2 hk)
  rw [Blk.okAt_some hi] at h1
  unfold ok1 at h1
  simp only [Bool.and_eq_true, Bool.or_eq_true, Bool.not_eq_true', decide_eq_false_iff_not, decide_eq_true_eq] at h1
  obtain ⟨⟨h2, h3⟩, h4⟩ := h1
  obtain ⟨o0, o1, _, _, _, _, k0, k1, hf⟩ := Ins.okB_bd h2
  refine ⟨by omega, o1, fun e => ?_, fun e => ?_⟩
  · rw [e] at hf
    unfold formB at hf
    simp at hf
    omega
  · rcases h4 with h4 | h4
    · exact h4
    · omega
/-- The program's lower, for every instruction of a piece of code. -/
theorem lower (b : Bk) (t : Int) (i : In4) (q1 : Option Addr) (c1 : Nat) (q2 : Option Addr) (c2 lo p : Nat) (w : World) (H : Bd w lo p q1 c1 q2 c2 b t []) (hlo : lo ≤ w.heap.size) (hl : b.ops.length ≤ 500) (h1 : 1 ≤ i.op) (h2 : i.op ≤ 15) (h3 : i.op = 8 → 0 ≤ i.k ∧ i.k ≤ 15) (hy : b.y = 0) :
    Calls Try.prog 49 #[.pointer (some ⟨p, 0, none⟩), .agg #[.int .i64 i.op, .int .i64 i.d, .int .i64 i.a, .int .i64 i.k]] w fun e w' => Bo w lo p q1 q2 e w' (oneB b t i) t [] := by
  obtain ⟨op, d, a, ik⟩ := i
  simp only [] at h1 h2 h3 ⊢
  have hh : op = 1 ∨ op = 2 ∨ op = 3 ∨ op = 4 ∨ op = 5 ∨ op = 6 ∨ op = 7 ∨ op = 8 ∨ op = 9 ∨ op = 10 ∨ op = 11 ∨ op = 12 ∨ op = 13 ∨ op = 14 ∨ op = 15 := by omega
  rcases hh with rfl | rfl | rfl | rfl | rfl | rfl | rfl | rfl | rfl | rfl | rfl | rfl | rfl | rfl | rfl
  · exact lower_1 b t d a ik q1 c1 q2 c2 lo p w H hlo hl
  · exact lower_2 b t d a ik q1 c1 q2 c2 lo p w H hlo hl
  · exact lower_3 b t d a ik q1 c1 q2 c2 lo p w H hlo hl
  · exact lower_4 b t d a ik q1 c1 q2 c2 lo p w H hlo hl
  · exact lower_5 b t d a ik q1 c1 q2 c2 lo p w H hlo hl
  · exact lower_6 b t d a ik q1 c1 q2 c2 lo p w H hlo hl
  · exact lower_7 b t d a ik q1 c1 q2 c2 lo p w H hlo hl
  · exact lower_8 b t d a ik q1 c1 q2 c2 lo p w H hlo hl (h3 rfl).1 (h3 rfl).2
  · exact lower_9 b t d a ik q1 c1 q2 c2 lo p w H hlo hl
  · exact lower_10 b t d a ik q1 c1 q2 c2 lo p w H hlo hl
  · exact lower_11 b t d a ik q1 c1 q2 c2 lo p w H hlo hl
  · exact lower_12 b t d a ik q1 c1 q2 c2 lo p w H hlo hl
  · have hr := lower_13 b t d a ik q1 c1 q2 c2 lo p w H hlo hl
    refine hr.mono (fun e w' hB => ?_)
    have e9 : oneB b t ⟨13, d, a, ik⟩ = ⟨b.pc, b.ln, b.ops ++ [opG a], 2, (b.ops.length : Int), 0, 0⟩ := by
      have e8 : oneB b t ⟨13, d, a, ik⟩ = ⟨b.pc, b.ln, b.ops ++ [opG a], 2, (b.ops.length : Int), b.y, 0⟩ := rfl
      rw [e8, hy]
    rw [e9]
    exact hB
  · exact lower_14 b t d a ik q1 c1 q2 c2 lo p w H hlo hl
  · exact lower_15 b t d a ik q1 c1 q2 c2 lo p w H hlo hl
theorem Mb.below {w w' : World} {p lo : Nat} {q1 q2 r1 r2 : Option Addr} (h : Mb w p q1 q2 w' r1 r2) (hl : lo ≤ w.heap.size) (hp : lo ≤ p) (h1 : ∀ G, q1 = some ⟨G, 0, none⟩ → lo ≤ G) (h2 : ∀ G, q2 = some ⟨G, 0, none⟩ → lo ≤ G) : Below lo w w' :=
  ⟨h.os, h.tape, h.output, h.size, fun k hk => h.block k (by omega) (by omega) (fun e => by have := h1 k e; omega) (fun e => by have := h2 k e; omega)⟩
theorem Bd.frame {w w' : World} {lo p : Nat} {q1 : Option Addr} {c1 : Nat} {q2 : Option Addr} {c2 : Nat} {b : Bk} {t : Int} {un : List Int} {r1 r2 : Option Addr} (h : Bd w lo p q1 c1 q2 c2 b t un) (hl : lo ≤ w.heap.size) (hm : Mb w p q1 q2 w' r1 r2) : Below lo w w' := hm.below hl h.lp (fun G e => (h.o1.q_lt e).1) (fun G e => (h.o2.q_lt e).1)
set_option maxRecDepth 8000 in
set_option maxHeartbeats 8000000 in
theorem builderAt (pc : Int) (m : Nat) (w : World) (h0 : 0 ≤ pc) (h1 : pc ≤ 64) (hm : m ≤ 8) :
    Calls Try.prog 47 #[.int .i64 pc, .int .i64 m] w fun e w' => ∃ p r1 k1 r2 k2, e = .returned (.pointer (some ⟨p, 0, none⟩)) ∧ Bd w' w.heap.size p r1 k1 r2 k2 (begB pc m) 0 [] ∧ Below w.heap.size w w' := by
  have bo : Below w.heap.size w (w.alloc (.cells #[.int .i64 pc, .int .i64 m, .slice none 0 0, .int .i64 0, .int .i64 0, .int .i64 0, .int .i64 0, .int .i64 0, .slice none 0 0] 70)) := (Below.refl _ _).alloc (Nat.le_refl _) _
  have HB0 : Hid (Bd (w.alloc (.cells #[.int .i64 pc, .int .i64 m, .slice none 0 0, .int .i64 0, .int .i64 0, .int .i64 0, .int .i64 0, .int .i64 0, .slice none 0 0] 70)) w.heap.size w.heap.size none 0 none 0 ⟨pc, m, [], 0, 0, 0, 0⟩ 0 []) := ⟨Rec.new w _ _, OwnF.nil _ _ _ _, OwnF.nil _ _ _ _, (fun e => by cases e), (fun e => by cases e), (fun G e => by cases e), Nat.le_refl _⟩
  have BW := hide bo
  clear bo
  go_enter Try.func47, Try.ntmps47
  go_wp2_with fail
  refine (endB ⟨pc, m, [], 0, 0, 0, 0⟩ 0 [] 1 0 0 (pc + m) none 0 none 0 w.heap.size w.heap.size _ HB0.out).mono ?_
  rintro e u1 BO
  obtain ⟨rfl, r1, k1, r2, k2, hB, hM⟩ := BO
  have HB1 := hide hB
  have BF := hide (BW.out.trans (HB0.out.frame BW.out.size hM))
  clear hB hM HB0 BW
  go_wp2
  go_ret
  exact ⟨_, _, _, _, _, rfl, HB1.out, BF.out⟩
set_option maxRecDepth 8000 in
set_option maxHeartbeats 16000000 in
theorem implLower (pc : Int) (is : List In4) (B : Nat) (v : Value) (w : World) (h : IRow w B v is) (hl : is.length ≤ 1048576) :
    Calls Try.prog 22 #[.int .i64 pc, v] w fun e w' => ∃ q c, e = .returned (bx (lowB pc is) q c) ∧ OwnO w' w.heap.size (.slice q (lowB pc is).ops.length c) (lowB pc is).ops ∧ Below w.heap.size w w' := by
  have RI := hide h
  obtain ⟨a, cap, off, rfl, h2, h3, hz, hfl, h4⟩ := h
  unfold maxLen at h3
  clear hz hfl
  obtain ⟨N, en⟩ : ∃ N, is.length = N := ⟨_, rfl⟩
  have EN := hide en
  rw [en] at hl h2 h4 RI ⊢
  have H4 := hide h4
  clear en h4
  obtain ⟨R, eR⟩ : ∃ R, lowB pc is = R := ⟨_, rfl⟩
  rw [eR]
  have ER := hide eR
  clear eR
  have RZ := hide (Rec.new w [.int .i64 0, .int .i64 0, .slice none 0 0, .int .i64 0, .int .i64 0, .int .i64 0, .int .i64 0] 42)
  have BW : Hid (Below w.heap.size w (w.alloc (.cells #[.int .i64 0, .int .i64 0, .slice none 0 0, .int .i64 0, .int .i64 0, .int .i64 0, .int .i64 0] 42))) := (Below.refl _ _).alloc (Nat.le_refl _) _
  go_enter Try.func22, Try.ntmps22
  go_wp2_with fail
  refine (Blk.implOk pc is B _ _ (by have h9 := RI.out.below BW.out; rw [← EN.out] at h9 ⊢; exact h9) (by rw [EN.out]; exact hl)).mono ?_
  rintro e u1 ⟨rfl, hb⟩
  generalize w.alloc (.cells #[.int .i64 0, .int .i64 0, .slice none 0 0, .int .i64 0, .int .i64 0, .int .i64 0, .int .i64 0] 42) = V0 at RZ BW hb
  replace RZ := hide (RZ.out.below hb)
  replace BW := hide (BW.out.trans (hb.mono BW.out.size))
  clear hb
  by_cases okl : okL pc is = true
  case neg =>
    have HD : Hid (R = ⟨0, 0, [], 0, 0, 0, 0⟩) := show _ = _ by rw [← ER.out, lowB, if_neg okl]
    rw [Bool.not_eq_true] at okl
    rw [okl]
    clear okl
    go_wp2_with (refine lay7 rfl rfl _ _ rfl (w.heap.size) _ _ _ _ _ _ _ RZ.out rfl _ _ _ _ _ _ _ _ _ rfl ?_; intro v9 RB TB; refine Hid.out ?_)
    replace BW := hide (BW.out.trans (TB.out.below (Nat.le_refl _) BW.out.size))
    have z0 := RB.out.cell 0 _ rfl
    have z1 := RB.out.cell 1 _ rfl
    have z2 := RB.out.cell 2 _ rfl
    have z3 := RB.out.cell 3 _ rfl
    have z4 := RB.out.cell 4 _ rfl
    have z5 := RB.out.cell 5 _ rfl
    have z6 := RB.out.cell 6 _ rfl
    clear RB TB RZ
    refine hide ?_
    go_wp2
    refine bodyPost_ret (v := .agg #[.int .i64 0, .int .i64 0, .slice none 0 0, .int .i64 0, .int .i64 0, .int .i64 0, .int .i64 0]) (by simp [results, Try.results22, go_sem, z0, z1, z2, z3, z4, z5, z6]) rfl ⟨none, 0, ?_, ?_, BW.out⟩
    · rw [HD.out]; rfl
    · rw [HD.out]; exact OwnF.nil _ _ _ _
  have OKL := hide okl
  have LN := okL_len okl
  rw [EN.out] at LN
  have RL : Hid (R = lowF (begB pc N) 0 is) := show _ = _ by rw [← ER.out, lowB, if_pos okl, EN.out]
  rw [okl]
  clear okl
  obtain ⟨rfl, hc⟩ := H4.out.resolve_left (by omega)
  have HC := hide hc
  clear hc H4
  go_wp2_with fail
  refine (builderAt pc N _ LN.2.2.1 LN.2.2.2 LN.2.1).mono ?_
  rintro e u2 ⟨p, r1, k1, r2, k2, rfl, HB, hb⟩
  have PZ : Hid (u1.heap.size ≤ p ∧ w.heap.size < u1.heap.size) := ⟨HB.lp, RZ.out.lt⟩
  replace HB := hide HB
  replace RZ := hide (RZ.out.below hb)
  have US : Hid (w.heap.size ≤ u1.heap.size) := BW.out.size
  replace BW := hide (BW.out.trans (hb.mono BW.out.size))
  have U2 : Hid (u1.heap.size ≤ u2.heap.size) := hb.size
  clear hb
  go_wp2
  go_loopw [19] (fun x wr => ∃ (k : Nat) (b : Bk) (t : Int) (r1 : Option Addr) (k1 : Nat) (r2 : Option Addr) (k2 : Nat), k ≤ N ∧ x = .int .i64 k ∧ Hid (Bd wr u1.heap.size p r1 k1 r2 k2 b t []) ∧ Hid (R = lowF b k (is.drop k)) ∧ Hid (b.ops.length ≤ 5 * k) ∧ Hid (k < N → b.y = 0) ∧ Hid (Rec (w.heap.size) [.int .i64 0, .int .i64 0, .slice none 0 0, .int .i64 0, .int .i64 0, .int .i64 0, .int .i64 0] wr) ∧ Hid (Below w.heap.size w wr) ∧ Hid (u1.heap.size ≤ wr.heap.size)) (fun x _ => N - (intOf x).toNat)
  case atStart => exact ⟨0, begB pc N, 0, r1, k1, r2, k2, by omega, rfl, HB, RL, by show _ ≤ _; simp [begB], fun _ => rfl, RZ, BW, U2⟩
  case round =>
    obtain ⟨k, b, t, r1, k1, r2, k2, hk, rfl, HB, RL, BL, BY, RZ, BW, U2⟩ := hrel
    by_cases hlt : k < N
    case neg =>
      have HD : Hid (b = R) := show _ = _ by rw [RL.out, drop_end (by have := EN.out; omega)]; rfl
      obtain ⟨pc', ln', ops, en, x, y, kk⟩ := b
      have zb0 := HB.out.r.cell 0 _ rfl
      have zb1 := HB.out.r.cell 1 _ rfl
      have zb2 := HB.out.r.cell 2 _ rfl
      have zb3 := HB.out.r.cell 3 _ rfl
      have zb4 := HB.out.r.cell 4 _ rfl
      have zb5 := HB.out.r.cell 5 _ rfl
      have zb6 := HB.out.r.cell 6 _ rfl
      simp only [] at zb0 zb1 zb2 zb3 zb4 zb5 zb6
      go_wp2_with (refine lay7 rfl rfl _ _ rfl (w.heap.size) _ _ _ _ _ _ _ RZ.out rfl _ _ _ _ _ _ _ _ _ rfl ?_; intro v9 RB TB; refine Hid.out ?_)
      have OF := hide ((HB.out.o1.turn TB.out (Or.inl (by have := PZ.out; omega))).mono US.out)
      replace BW := hide (BW.out.trans (TB.out.below (Nat.le_refl _) BW.out.size))
      have z0 := RB.out.cell 0 _ rfl
      have z1 := RB.out.cell 1 _ rfl
      have z2 := RB.out.cell 2 _ rfl
      have z3 := RB.out.cell 3 _ rfl
      have z4 := RB.out.cell 4 _ rfl
      have z5 := RB.out.cell 5 _ rfl
      have z6 := RB.out.cell 6 _ rfl
      clear RB TB RZ HB zb0 zb1 zb2 zb3 zb4 zb5 zb6
      refine hide ?_
      go_wp2
      refine bodyPost_ret (v := .agg #[.int .i64 pc', .int .i64 ln', .slice r1 ops.length k1, .int .i64 en, .int .i64 x, .int .i64 y, .int .i64 kk]) (by simp [results, Try.results22, go_sem, z0, z1, z2, z3, z4, z5, z6]) rfl ⟨r1, k1, ?_, ?_, BW.out⟩
      · rw [← HD.out]; rfl
      · rw [← HD.out]; exact OF.out
    obtain ⟨i, et⟩ : ∃ i, is[k]? = some i := ⟨_, List.getElem?_eq_getElem (by rw [EN.out]; exact hlt)⟩
    have OA := ok_at OKL.out et
    rw [EN.out] at OA
    obtain ⟨o1, o2, o3, o4⟩ := OA
    obtain ⟨q0, q1', q2', q3⟩ := at4 HC.out et
    have d0 := cell_below BW.out q0
    have d1 := cell_below BW.out q1'
    have d2 := cell_below BW.out q2'
    have d3 := cell_below BW.out q3
    have DR := hide (drop_at et)
    have lk : ((k : Nat) : Int) < (N : Nat) := by omega
    have O3 := hide o3
    have O4 := hide o4
    have O12 := hide (And.intro o1 o2)
    clear et q0 q1' q2' q3 o1 o2 o3 o4
    have bo : Below wr.heap.size wr (wr.alloc (.cells #[.int .i64 i.op, .int .i64 i.d, .int .i64 i.a, .int .i64 i.k] 55)) := (Below.refl _ _).alloc (Nat.le_refl _) _
    have RX := hide (And.intro (Rec.new wr [.int .i64 i.op, .int .i64 i.d, .int .i64 i.a, .int .i64 i.k] 55) (And.intro (far_o HB.out.o1 wr.heap.size (Nat.le_refl _)) (far_n HB.out.o2 wr.heap.size (Nat.le_refl _))))
    have PN : Hid (wr.heap.size ≠ p) := show _ ≠ _ by have := HB.out.r.lt; omega
    have ZN : Hid (w.heap.size ≠ p ∧ r1 ≠ some ⟨w.heap.size, 0, none⟩ ∧ r2 ≠ some ⟨w.heap.size, 0, none⟩) := ⟨by have := PZ.out; omega, fun e => by have := (HB.out.o1.q_lt e).1; have := PZ.out; omega, fun e => by have := (HB.out.o2.q_lt e).1; have := PZ.out; omega⟩
    replace HB := hide (HB.out.below bo)
    replace RZ := hide (RZ.out.below bo)
    replace BW := hide (BW.out.trans (bo.mono BW.out.size))
    replace U2 := hide (Nat.le_trans U2.out bo.size)
    clear bo
    go_wp2_with fail
    generalize wr.alloc (.cells #[.int .i64 i.op, .int .i64 i.d, .int .i64 i.a, .int .i64 i.k] 55) = v1 at RX HB RZ BW U2 ⊢
    clear d0 d1 d2 d3
    refine (wpIn_wide (n := 0)).1 ?_
    have bA : Below v1.heap.size v1 v1.drew := (Below.refl _ _).drew
    replace RX := hide (And.intro (RX.out.1.below bA) RX.out.2)
    replace HB := hide (HB.out.below bA)
    replace RZ := hide (RZ.out.below bA)
    replace BW := hide (BW.out.trans (bA.mono BW.out.size))
    replace U2 := hide (Nat.le_trans U2.out bA.size)
    clear bA
    refine PhaseIn.region (S := fun w' => Rec wr.heap.size [.int .i64 i.op, .int .i64 i.d, .int .i64 i.a, .int .i64 i.k] w' ∧ True) 5 (by kernel_rfl) ?_
    generalize v1.drew = d1 at RX HB RZ BW U2 ⊢
    have hHeld : Rec wr.heap.size [.int .i64 i.op, .int .i64 i.d, .int .i64 i.a, .int .i64 i.k] d1 ∧ True := ⟨RX.out.1, trivial⟩
    refine PhaseIn.takeD (i := 0) (v := ?_) [0, 2, 4] 24 rfl (by rfl) (by kernel_rfl) (by kernel_rfl) (by kernel_rfl) (by kernel_rfl) (by kernel_rfl) (fun _ _ _ h => h) (Or.inl ⟨by kernel_rfl, ?_⟩) hHeld ?_
    rotate_left
    · intro w' hSw
      (try dsimp only at hSw)
      go_simp
      first | done | with_reducible rfl
    try simp only [Act.put, List.setIfInBounds_toArray, List.set]
    refine PhaseIn.takeD (i := 1) (v := ?_) [1, 2, 4] 25 rfl (by rfl) (by kernel_rfl) (by kernel_rfl) (by kernel_rfl) (by kernel_rfl) (by kernel_rfl) (fun _ _ _ h => h) (Or.inl ⟨by kernel_rfl, ?_⟩) hHeld ?_
    rotate_left
    · intro w' hSw
      (try dsimp only at hSw)
      go_simp
      first | done | with_reducible rfl
    try simp only [Act.put, List.setIfInBounds_toArray, List.set]
    refine PhaseIn.takeD (i := 3) (v := ?_) [3, 4] 27 rfl (by rfl) (by kernel_rfl) (by kernel_rfl) (by kernel_rfl) (by kernel_rfl) (by kernel_rfl) (fun _ _ _ h => h) (Or.inl ⟨by kernel_rfl, ?_⟩) hHeld ?_
    rotate_left
    · intro w' hSw
      (try dsimp only at hSw)
      have z0 := hSw.1.cell 0 _ rfl; have z1 := hSw.1.cell 1 _ rfl; have z2 := hSw.1.cell 2 _ rfl; have z3 := hSw.1.cell 3 _ rfl
      go_simp
      first | done | with_reducible rfl
    try simp only [Act.put, List.setIfInBounds_toArray, List.set]
    refine PhaseIn.one (i := 2) (by kernel_rfl) rfl (by kernel_rfl) (fun K hK => ?_)
    unfold Oper.wpIn
    refine ⟨fun _ _ => trivial, ?_⟩
    go_simp
    refine ⟨rfl, (callsIn_wide.2 (instruction b t [] k r1 k1 r2 k2 u1.heap.size p _ HB.out)).mono ?_⟩
    rintro e u3 ⟨rfl, s1, j1, s2, j2, hB, hM⟩
    have BM := hide (HB.out.frame U2.out hM)
    replace RX := hide (hM.box RX.out.1 PN.out RX.out.2.1 RX.out.2.2)
    obtain ⟨rz, zn1, zn2⟩ := hM.box RZ.out ZN.out.1 ZN.out.2.1 ZN.out.2.2
    replace RZ := hide rz
    replace ZN := hide (And.intro ZN.out.1 (And.intro zn1 zn2))
    replace hHeld : Rec wr.heap.size [.int .i64 i.op, .int .i64 i.d, .int .i64 i.a, .int .i64 i.k] u3 ∧ True := ⟨RX.out.1, trivial⟩
    refine hK _ _ (fun _ => hHeld) ?_
    replace BW := hide (BW.out.trans (BM.out.mono US.out))
    replace U2 := hide (Nat.le_trans U2.out hM.size)
    replace HB := hide hB
    clear hK K hM BM rz zn1 zn2
    try simp only [Act.put, List.setIfInBounds_toArray, List.set]
    refine PhaseIn.one (i := 4) (by kernel_rfl) rfl (by kernel_rfl) (fun K hK => ?_)
    unfold Oper.wpIn
    refine ⟨fun _ _ => trivial, ?_⟩
    go_simp
    refine ⟨rfl, (callsIn_wide.2 (lower b k i s1 j1 s2 j2 u1.heap.size p _ HB.out U2.out (by have := BL.out; omega) O12.out.1 O12.out.2 O3.out (BY.out hlt))).mono ?_⟩
    rintro e u4 ⟨rfl, r1', k1', r2', k2', hB, hM⟩
    have BM := hide (HB.out.frame U2.out hM)
    replace RX := hide (hM.box RX.out.1 PN.out RX.out.2.1 RX.out.2.2)
    obtain ⟨rz, zn1, zn2⟩ := hM.box RZ.out ZN.out.1 ZN.out.2.1 ZN.out.2.2
    replace RZ := hide rz
    replace ZN := hide (And.intro ZN.out.1 (And.intro zn1 zn2))
    replace hHeld : Rec wr.heap.size [.int .i64 i.op, .int .i64 i.d, .int .i64 i.a, .int .i64 i.k] u4 ∧ True := ⟨RX.out.1, trivial⟩
    refine hK _ _ (fun _ => hHeld) ?_
    replace BW := hide (BW.out.trans (BM.out.mono US.out))
    replace U2 := hide (Nat.le_trans U2.out hM.size)
    replace HB := hide hB
    clear hK K hM BM rz zn1 zn2
    try simp only [Act.put, List.setIfInBounds_toArray, List.set]
    refine PhaseIn.done (by kernel_rfl) ?_ _
    clear hHeld
    have RN : Hid (R = lowF (oneB b k i) ((k + 1 : Nat) : Int) (is.drop (k + 1))) := show _ = _ by rw [RL.out, DR.out]; rfl
    have BN : Hid ((oneB b k i).ops.length ≤ 5 * (k + 1)) := show _ ≤ _ by have := oneB_len b k i; have := BL.out; omega
    have YN : Hid (k + 1 < N → (oneB b k i).y = 0) := fun e => (oneB_y (O4.out e)).trans (BY.out hlt)
    clear RL BL BY
    go_wp2
    exact ⟨⟨k + 1, _, _, _, _, _, _, by omega, by go_num, HB, RN, BN, YN, RZ, BW, U2⟩, by simp [intOf]; omega⟩
set_option maxRecDepth 8000 in
set_option maxHeartbeats 16000000 in
theorem specLower (pc : Int) (is : List In4) (B : Nat) (v : Value) (w : World) (h : IRow w B v is) (hl : is.length ≤ 1048576) :
    Calls Try.prog 21 #[.int .i64 pc, v] w fun e w' => ∃ q c, e = .returned (bx (lowB pc is) q c) ∧ OwnO w' w.heap.size (.slice q (lowB pc is).ops.length c) (lowB pc is).ops ∧ Below w.heap.size w w' := by
  have RI := hide h
  obtain ⟨a, cap, off, rfl, h2, h3, hz, hfl, h4⟩ := h
  unfold maxLen at h3
  clear hz hfl
  obtain ⟨N, en⟩ : ∃ N, is.length = N := ⟨_, rfl⟩
  have EN := hide en
  rw [en] at hl h2 h4 RI ⊢
  have H4 := hide h4
  clear en h4
  obtain ⟨R, eR⟩ : ∃ R, lowB pc is = R := ⟨_, rfl⟩
  rw [eR]
  have ER := hide eR
  clear eR
  have RZ := hide (Rec.new w [.int .i64 0, .int .i64 0, .slice none 0 0, .int .i64 0, .int .i64 0, .int .i64 0, .int .i64 0] 42)
  have BW : Hid (Below w.heap.size w (w.alloc (.cells #[.int .i64 0, .int .i64 0, .slice none 0 0, .int .i64 0, .int .i64 0, .int .i64 0, .int .i64 0] 42))) := (Below.refl _ _).alloc (Nat.le_refl _) _
  go_enter Try.func21, Try.ntmps21
  go_wp2_with fail
  refine (Blk.specOk pc is B _ _ (by have h9 := RI.out.below BW.out; rw [← EN.out] at h9 ⊢; exact h9) (by rw [EN.out]; exact hl)).mono ?_
  rintro e u1 ⟨rfl, hb⟩
  generalize w.alloc (.cells #[.int .i64 0, .int .i64 0, .slice none 0 0, .int .i64 0, .int .i64 0, .int .i64 0, .int .i64 0] 42) = V0 at RZ BW hb
  replace RZ := hide (RZ.out.below hb)
  replace BW := hide (BW.out.trans (hb.mono BW.out.size))
  clear hb
  by_cases okl : okL pc is = true
  case neg =>
    have HD : Hid (R = ⟨0, 0, [], 0, 0, 0, 0⟩) := show _ = _ by rw [← ER.out, lowB, if_neg okl]
    rw [Bool.not_eq_true] at okl
    rw [okl]
    clear okl
    go_wp2_with (refine lay7 rfl rfl _ _ rfl (w.heap.size) _ _ _ _ _ _ _ RZ.out rfl _ _ _ _ _ _ _ _ _ rfl ?_; intro v9 RB TB; refine Hid.out ?_)
    replace BW := hide (BW.out.trans (TB.out.below (Nat.le_refl _) BW.out.size))
    have z0 := RB.out.cell 0 _ rfl
    have z1 := RB.out.cell 1 _ rfl
    have z2 := RB.out.cell 2 _ rfl
    have z3 := RB.out.cell 3 _ rfl
    have z4 := RB.out.cell 4 _ rfl
    have z5 := RB.out.cell 5 _ rfl
    have z6 := RB.out.cell 6 _ rfl
    clear RB TB RZ
    refine hide ?_
    go_wp2
    refine bodyPost_ret (v := .agg #[.int .i64 0, .int .i64 0, .slice none 0 0, .int .i64 0, .int .i64 0, .int .i64 0, .int .i64 0]) (by simp [results, Try.results21, go_sem, z0, z1, z2, z3, z4, z5, z6]) rfl ⟨none, 0, ?_, ?_, BW.out⟩
    · rw [HD.out]; rfl
    · rw [HD.out]; exact OwnF.nil _ _ _ _
  have OKL := hide okl
  have LN := okL_len okl
  rw [EN.out] at LN
  have RL : Hid (R = lowF (begB pc N) 0 is) := show _ = _ by rw [← ER.out, lowB, if_pos okl, EN.out]
  rw [okl]
  clear okl
  obtain ⟨rfl, hc⟩ := H4.out.resolve_left (by omega)
  have HC := hide hc
  clear hc H4
  have bo : Below u1.heap.size u1 (u1.alloc (.cells #[.int .i64 pc, .int .i64 N, .slice none 0 0, .int .i64 1, .int .i64 0, .int .i64 0, .int .i64 (pc + N)] 42)) := (Below.refl _ _).alloc (Nat.le_refl _) _
  have RB0 := hide (Rec.new u1 [.int .i64 pc, .int .i64 N, .slice none 0 0, .int .i64 1, .int .i64 0, .int .i64 0, .int .i64 (pc + N)] 42)
  have PZ : Hid (w.heap.size < u1.heap.size) := RZ.out.lt
  have US : Hid (w.heap.size ≤ u1.heap.size) := BW.out.size
  replace RZ := hide (RZ.out.below bo)
  replace BW := hide (BW.out.trans (bo.mono BW.out.size))
  have U2 : Hid (u1.heap.size < (u1.alloc (.cells #[.int .i64 pc, .int .i64 N, .slice none 0 0, .int .i64 1, .int .i64 0, .int .i64 0, .int .i64 (pc + N)] 42)).heap.size) := RB0.out.lt
  clear bo
  go_wp2
  generalize u1.alloc (.cells #[.int .i64 pc, .int .i64 N, .slice none 0 0, .int .i64 1, .int .i64 0, .int .i64 0, .int .i64 (pc + N)] 42) = v0 at RB0 RZ BW U2 ⊢
  go_loopw [6] (fun x wr => ∃ (k : Nat) (b : Bk) (q : Option Addr) (c : Nat), k ≤ N ∧ x = .int .i64 k ∧ Hid (Rec u1.heap.size [.int .i64 b.pc, .int .i64 b.ln, .slice q b.ops.length c, .int .i64 b.en, .int .i64 b.x, .int .i64 b.y, .int .i64 b.k] wr) ∧ Hid (OwnO wr (u1.heap.size + 1) (.slice q b.ops.length c) b.ops) ∧ Hid (R = lowF b k (is.drop k)) ∧ Hid (b.ops.length ≤ 5 * k) ∧ Hid (Rec (w.heap.size) [.int .i64 0, .int .i64 0, .slice none 0 0, .int .i64 0, .int .i64 0, .int .i64 0, .int .i64 0] wr) ∧ Hid (Below w.heap.size w wr) ∧ Hid (u1.heap.size < wr.heap.size)) (fun x _ => N - (intOf x).toNat)
  case atStart => exact ⟨0, begB pc N, none, 0, by omega, rfl, RB0, OwnF.nil _ _ _ _, RL, by show _ ≤ _; simp [begB], RZ, BW, U2⟩
  case round =>
    obtain ⟨k, b, q, c, hk, rfl, RB, OB, RL, BL, RZ, BW, U2⟩ := hrel
    by_cases hlt : k < N
    case neg =>
      have HD : Hid (b = R) := show _ = _ by rw [RL.out, drop_end (by have := EN.out; omega)]; rfl
      obtain ⟨pc', ln', ops, en, x, y, kk⟩ := b
      have zb0 := RB.out.cell 0 _ rfl
      have zb1 := RB.out.cell 1 _ rfl
      have zb2 := RB.out.cell 2 _ rfl
      have zb3 := RB.out.cell 3 _ rfl
      have zb4 := RB.out.cell 4 _ rfl
      have zb5 := RB.out.cell 5 _ rfl
      have zb6 := RB.out.cell 6 _ rfl
      simp only [] at zb0 zb1 zb2 zb3 zb4 zb5 zb6
      go_wp2_with (refine lay7 rfl rfl _ _ rfl (w.heap.size) _ _ _ _ _ _ _ RZ.out rfl _ _ _ _ _ _ _ _ _ rfl ?_; intro v9 RF TB; refine Hid.out ?_)
      have OF := hide ((OB.out.turn TB.out (Or.inl (by have := PZ.out; omega))).mono (lo' := w.heap.size) (by have := US.out; omega))
      replace BW := hide (BW.out.trans (TB.out.below (Nat.le_refl _) BW.out.size))
      have z0 := RF.out.cell 0 _ rfl
      have z1 := RF.out.cell 1 _ rfl
      have z2 := RF.out.cell 2 _ rfl
      have z3 := RF.out.cell 3 _ rfl
      have z4 := RF.out.cell 4 _ rfl
      have z5 := RF.out.cell 5 _ rfl
      have z6 := RF.out.cell 6 _ rfl
      clear RF TB RZ RB zb0 zb1 zb2 zb3 zb4 zb5 zb6
      refine hide ?_
      go_wp2
      refine bodyPost_ret (v := .agg #[.int .i64 pc', .int .i64 ln', .slice q ops.length c, .int .i64 en, .int .i64 x, .int .i64 y, .int .i64 kk]) (by simp [results, Try.results21, go_sem, z0, z1, z2, z3, z4, z5, z6]) rfl ⟨q, c, ?_, ?_, BW.out⟩
      · rw [← HD.out]; rfl
      · rw [← HD.out]; exact OF.out
    obtain ⟨i, et⟩ : ∃ i, is[k]? = some i := ⟨_, List.getElem?_eq_getElem (by rw [EN.out]; exact hlt)⟩
    have OA := ok_at OKL.out et
    obtain ⟨o1, o2, o3, o4⟩ := OA
    obtain ⟨q0, q1', q2', q3⟩ := at4 HC.out et
    have DR := hide (drop_at et)
    have lk : ((k : Nat) : Int) < (N : Nat) := by omega
    have O3 := hide o3
    have O12 := hide (And.intro o1 o2)
    have Q4 := hide (And.intro q0 (And.intro q1' (And.intro q2' q3)))
    clear et q0 q1' q2' q3 o1 o2 o3 o4
    go_wp2_with fail
    refine (wpIn_wide (n := 0)).1 ?_
    have bA : Below wr.heap.size wr wr.drew := (Below.refl _ _).drew
    replace RB := hide (RB.out.below bA)
    replace OB := hide (OB.out.below bA)
    replace RZ := hide (RZ.out.below bA)
    replace BW := hide (BW.out.trans (bA.mono BW.out.size))
    replace U2 := hide (Nat.lt_of_lt_of_le U2.out bA.size)
    clear bA
    refine PhaseIn.region (S := fun w' => Rec u1.heap.size [.int .i64 b.pc, .int .i64 b.ln, .slice q b.ops.length c, .int .i64 b.en, .int .i64 b.x, .int .i64 b.y, .int .i64 b.k] w' ∧ Below w.heap.size w w') 7 (by kernel_rfl) ?_
    generalize wr.drew = d1 at RB OB RZ BW U2 ⊢
    have hHeld := And.intro RB.out BW.out
    refine PhaseIn.takeD (i := 0) (v := ?_) [0, 6, 7] 26 rfl (by rfl) (by kernel_rfl) (by kernel_rfl) (by kernel_rfl) (by kernel_rfl) (by kernel_rfl) (fun _ _ _ h => h) (Or.inl ⟨by kernel_rfl, ?_⟩) hHeld ?_
    rotate_left
    · intro w' hSw
      (try dsimp only at hSw)
      have z0 := hSw.1.cell 0 _ rfl; have z1 := hSw.1.cell 1 _ rfl; have z2 := hSw.1.cell 2 _ rfl; have z3 := hSw.1.cell 3 _ rfl; have z4 := hSw.1.cell 4 _ rfl; have z5 := hSw.1.cell 5 _ rfl; have z6 := hSw.1.cell 6 _ rfl
      go_simp
      first | done | with_reducible rfl
    try simp only [Act.put, List.setIfInBounds_toArray, List.set]
    refine PhaseIn.takeD (i := 1) (v := ?_) [1, 3, 4, 6, 7] 27 rfl (by rfl) (by kernel_rfl) (by kernel_rfl) (by kernel_rfl) (by kernel_rfl) (by kernel_rfl) (fun _ _ _ h => h) (Or.inl ⟨by kernel_rfl, ?_⟩) hHeld ?_
    rotate_left
    · intro w' hSw
      (try dsimp only at hSw)
      go_simp
      first | done | with_reducible rfl
    try simp only [Act.put, List.setIfInBounds_toArray, List.set]
    refine PhaseIn.takeD (i := 2) (v := ?_) [2, 3, 4, 6, 7] 28 rfl (by rfl) (by kernel_rfl) (by kernel_rfl) (by kernel_rfl) (by kernel_rfl) (by kernel_rfl) (fun _ _ _ h => h) (Or.inl ⟨by kernel_rfl, ?_⟩) hHeld ?_
    rotate_left
    · intro w' hSw
      (try dsimp only at hSw)
      go_simp
      first | done | with_reducible rfl
    try simp only [Act.put, List.setIfInBounds_toArray, List.set]
    refine PhaseIn.takeD (i := 3) (v := ?_) [3, 4, 6, 7] 29 rfl (by rfl) (by kernel_rfl) (by kernel_rfl) (by kernel_rfl) (by kernel_rfl) (by kernel_rfl) (fun _ _ _ h => h) (Or.inl ⟨by kernel_rfl, ?_⟩) hHeld ?_
    rotate_left
    · intro w' hSw
      (try dsimp only at hSw)
      go_simp
      first | done | with_reducible rfl
    try simp only [Act.put, List.setIfInBounds_toArray, List.set]
    refine PhaseIn.takeD (i := 4) (v := ?_) [4, 6, 7] 30 rfl (by rfl) (by kernel_rfl) (by kernel_rfl) (by kernel_rfl) (by kernel_rfl) (by kernel_rfl) (fun _ _ _ h => h) (Or.inl ⟨by kernel_rfl, ?_⟩) hHeld ?_
    rotate_left
    · intro w' hSw
      (try dsimp only at hSw)
      have z0 := cell_below hSw.2 Q4.out.1; have z1 := cell_below hSw.2 Q4.out.2.1; have z2 := cell_below hSw.2 Q4.out.2.2.1; have z3 := cell_below hSw.2 Q4.out.2.2.2
      go_simp
      first | done | with_reducible rfl
    try simp only [Act.put, List.setIfInBounds_toArray, List.set]
    refine PhaseIn.takeD (i := 5) (v := ?_) [5, 6, 7] 31 rfl (by rfl) (by kernel_rfl) (by kernel_rfl) (by kernel_rfl) (by kernel_rfl) (by kernel_rfl) (fun _ _ _ h => h) (Or.inl ⟨by kernel_rfl, ?_⟩) hHeld ?_
    rotate_left
    · intro w' hSw
      (try dsimp only at hSw)
      go_simp
      first | done | with_reducible rfl
    try simp only [Act.put, List.setIfInBounds_toArray, List.set]
    refine PhaseIn.one (i := 6) (by kernel_rfl) rfl (by kernel_rfl) (fun K hK => ?_)
    unfold Oper.wpIn
    refine ⟨fun _ _ => trivial, ?_⟩
    go_simp
    refine ⟨rfl, (callsIn_wide.2 ((l7One b i k q c (u1.heap.size + 1) _ OB.out (by have := U2.out; omega) (by have := BL.out; omega) O12.out.1 O12.out.2 O3.out))).mono ?_⟩
    rintro e u3 ⟨q', c', rfl, RT⟩
    have QB : q ≠ some ⟨u1.heap.size, 0, none⟩ := fun e => by have := (OB.out.q_lt e).1; omega
    have QZ : q ≠ some ⟨w.heap.size, 0, none⟩ := fun e => by have := (OB.out.q_lt e).1; have := PZ.out; omega
    obtain ⟨rb, nb⟩ := RT.mv.box RB.out QB
    obtain ⟨rz, nz⟩ := RT.mv.box RZ.out QZ
    have BM := RT.mv.below (lo := u1.heap.size + 1) (by have := U2.out; omega) (fun G e => (OB.out.q_lt e).1)
    replace BW := hide (BW.out.trans (BM.mono (by have := US.out; omega)))
    replace hHeld := And.intro rb BW.out
    refine hK _ _ (fun _ => hHeld) ?_
    have RN : Hid (R = lowF (oneB b k i) ((k + 1 : Nat) : Int) (is.drop (k + 1))) := show _ = _ by rw [RL.out, DR.out]; rfl
    have BN : Hid ((oneB b k i).ops.length ≤ 5 * (k + 1)) := show _ ≤ _ by have := oneB_len b k i; have := BL.out; omega
    obtain ⟨b2, eb2⟩ : ∃ b2, oneB b k i = b2 := ⟨_, rfl⟩
    rw [eb2] at RT RN BN ⊢
    clear eb2 RL BL
    replace OB := hide RT.own
    replace U2 := hide (Nat.lt_of_lt_of_le U2.out RT.mv.size)
    replace RB := hide rb
    replace RZ := hide rz
    have NB := hide nb
    unfold bx
    clear hK K RT QB QZ rb nb rz nz BM
    try simp only [Act.put, List.setIfInBounds_toArray, List.set]
    have z0 := RB.out.cell 0 _ rfl
    have s0 := RB.out.soft 0
    have z1 := RB.out.cell 1 _ rfl
    have s1 := RB.out.soft 1
    have z2 := RB.out.cell 2 _ rfl
    have s2 := RB.out.soft 2
    have z3 := RB.out.cell 3 _ rfl
    have s3 := RB.out.soft 3
    have z4 := RB.out.cell 4 _ rfl
    have s4 := RB.out.soft 4
    have z5 := RB.out.cell 5 _ rfl
    have s5 := RB.out.soft 5
    have z6 := RB.out.cell 6 _ rfl
    have s6 := RB.out.soft 6
    refine PhaseIn.one (i := 7) (by kernel_rfl) rfl (by kernel_rfl) (fun K hK => ?_)
    unfold Oper.wpIn
    refine ⟨fun _ _ => trivial, ?_⟩
    go_simp
    have t7 : Turn (u1.heap.size) u3 (((((((u3.setCell ⟨u1.heap.size, 0, none⟩ (.int .i64 b2.pc)).setCell ⟨u1.heap.size, 1, none⟩ (.int .i64 b2.ln)).setCell ⟨u1.heap.size, 2, none⟩ (.slice q' b2.ops.length c')).setCell ⟨u1.heap.size, 3, none⟩ (.int .i64 b2.en)).setCell ⟨u1.heap.size, 4, none⟩ (.int .i64 b2.x)).setCell ⟨u1.heap.size, 5, none⟩ (.int .i64 b2.y)).setCell ⟨u1.heap.size, 6, none⟩ (.int .i64 b2.k)) := ((((((((Turn.refl (u1.heap.size) u3).setCell (p := ⟨u1.heap.size, 0, none⟩) rfl (.int .i64 b2.pc)).setCell (p := ⟨u1.heap.size, 1, none⟩) rfl (.int .i64 b2.ln)).setCell (p := ⟨u1.heap.size, 2, none⟩) rfl (.slice q' b2.ops.length c')).setCell (p := ⟨u1.heap.size, 3, none⟩) rfl (.int .i64 b2.en)).setCell (p := ⟨u1.heap.size, 4, none⟩) rfl (.int .i64 b2.x)).setCell (p := ⟨u1.heap.size, 5, none⟩) rfl (.int .i64 b2.y)).setCell (p := ⟨u1.heap.size, 6, none⟩) rfl (.int .i64 b2.k))
    refine hK _ _ (fun h => absurd h (by omega)) ?_
    have RB2 := hide (((((((RB.out.set 0 (.int .i64 b2.pc) (by simp) (show _ = ([.int .i64 b2.pc, .int .i64 b.ln, .slice q b.ops.length c, .int .i64 b.en, .int .i64 b.x, .int .i64 b.y, .int .i64 b.k] : List Value) from rfl)).set 1 (.int .i64 b2.ln) (by simp) (show _ = ([.int .i64 b2.pc, .int .i64 b2.ln, .slice q b.ops.length c, .int .i64 b.en, .int .i64 b.x, .int .i64 b.y, .int .i64 b.k] : List Value) from rfl)).set 2 (.slice q' b2.ops.length c') (by simp) (show _ = ([.int .i64 b2.pc, .int .i64 b2.ln, .slice q' b2.ops.length c', .int .i64 b.en, .int .i64 b.x, .int .i64 b.y, .int .i64 b.k] : List Value) from rfl)).set 3 (.int .i64 b2.en) (by simp) (show _ = ([.int .i64 b2.pc, .int .i64 b2.ln, .slice q' b2.ops.length c', .int .i64 b2.en, .int .i64 b.x, .int .i64 b.y, .int .i64 b.k] : List Value) from rfl)).set 4 (.int .i64 b2.x) (by simp) (show _ = ([.int .i64 b2.pc, .int .i64 b2.ln, .slice q' b2.ops.length c', .int .i64 b2.en, .int .i64 b2.x, .int .i64 b.y, .int .i64 b.k] : List Value) from rfl)).set 5 (.int .i64 b2.y) (by simp) (show _ = ([.int .i64 b2.pc, .int .i64 b2.ln, .slice q' b2.ops.length c', .int .i64 b2.en, .int .i64 b2.x, .int .i64 b2.y, .int .i64 b.k] : List Value) from rfl)).set 6 (.int .i64 b2.k) (by simp) (show _ = ([.int .i64 b2.pc, .int .i64 b2.ln, .slice q' b2.ops.length c', .int .i64 b2.en, .int .i64 b2.x, .int .i64 b2.y, .int .i64 b2.k] : List Value) from rfl))
    replace OB := hide (OB.out.apart t7 (fun G e h => NB.out (by rw [e, h])))
    replace RZ := hide (RZ.out.turn t7 (by have := PZ.out; omega))
    replace BW := hide (BW.out.trans (t7.below US.out BW.out.size))
    replace U2 := hide (Nat.lt_of_lt_of_le U2.out t7.size)
    clear hK K t7 hHeld RB z0 s0 z1 s1 z2 s2 z3 s3 z4 s4 z5 s5 z6 s6
    try simp only [Act.put, List.setIfInBounds_toArray, List.set]
    generalize (((((((u3.setCell ⟨u1.heap.size, 0, none⟩ (.int .i64 b2.pc)).setCell ⟨u1.heap.size, 1, none⟩ (.int .i64 b2.ln)).setCell ⟨u1.heap.size, 2, none⟩ (.slice q' b2.ops.length c')).setCell ⟨u1.heap.size, 3, none⟩ (.int .i64 b2.en)).setCell ⟨u1.heap.size, 4, none⟩ (.int .i64 b2.x)).setCell ⟨u1.heap.size, 5, none⟩ (.int .i64 b2.y)).setCell ⟨u1.heap.size, 6, none⟩ (.int .i64 b2.k)) = u4 at RB2 OB RZ BW U2 ⊢
    refine PhaseIn.done (by kernel_rfl) ?_ _
    go_wp2
    exact ⟨⟨k + 1, b2, q', c', by omega, by go_num, RB2, OB, RN, BN, RZ, BW, U2⟩, by simp [intOf]; omega⟩
end Go.Proofs.Ytfjlnocikldhjaa.Lw
