/-
  How many operations of a piece of code reach out: both sides' IrEvents.
-/
import Derived.Test.YtbhaidlkodpnpaaIrP
namespace Go.Proofs.Ytbhaidlkodpnpaa.Ir
set_option linter.unusedVariables false
open Go.ChangeShapes Go.WideShapes Go.ChangeAt Go.RowKit IntS Mch

def evB (o : Opn) : Bool := decide (4 ≤ o.kd ∧ o.kd ≤ 7)
def evN (os : List Opn) : Nat := os.countP evB
theorem ev_next {os : List Opn} {k : Nat} {o : Opn} (h : os[k]? = some o) : evN (os.take (k + 1)) = evN (os.take k) + (if evB o then 1 else 0) := by
  rw [List.take_add_one, h]
  unfold evN
  rw [List.countP_append]
  cases e : evB o <;> simp [e]
theorem ev_le (os : List Opn) : evN os ≤ os.length := List.countP_le_length
set_option maxRecDepth 8000 in
set_option maxHeartbeats 4000000 in
theorem specEvents (b : Bk) (c : List Value) (w : World) (h : RBk w c b) :
    Calls Try.prog 5 #[.agg c.toArray] w fun e w' => e = .returned (.int .i64 (evN b.ops)) ∧ Below w.heap.size w w' := by
  obtain ⟨a, cap, B, rfl, hr⟩ := h
  obtain ⟨pc, ln, ops, en, x, y, k⟩ := b
  simp only [bv] at *
  have bV : Below w.heap.size w (w.alloc (.cells #[.int .i64 pc, .int .i64 ln, .slice a ops.length cap, .int .i64 en, .int .i64 x, .int .i64 y, .int .i64 k] 29)) := (Below.refl _ _).alloc (Nat.le_refl _) _
  have R := hide (Rec.new w [.int .i64 pc, .int .i64 ln, .slice a ops.length cap, .int .i64 en, .int .i64 x, .int .i64 y, .int .i64 k] 29)
  replace hr := hr.below bV
  obtain ⟨a', cap', off, e, hn, hm, _, h4⟩ := hr
  obtain ⟨rfl, -, rfl⟩ : a = a' ∧ True ∧ cap = cap' := by cases e; exact ⟨rfl, trivial, rfl⟩
  clear e
  unfold maxLen at hm
  have BW := hide bV
  have H4 := hide h4
  obtain ⟨n, en'⟩ : ∃ n, ops.length = n := ⟨_, rfl⟩
  have EN := hide en'
  rw [en'] at hn R BW H4 ⊢
  clear bV h4 en'
  go_enter Try.func5, Try.ntmps5
  go_wp2
  generalize w.alloc _ = u0 at BW R H4 ⊢
  go_loopw [3, 4] (fun m i wr => ∃ k : Nat, k ≤ n ∧ i = .int .i64 k ∧ m = .int .i64 (evN (ops.take k)) ∧ Hid (Below u0.heap.size u0 wr)) (fun _ i _ => n - (intOf i).toNat)
  case atStart => exact ⟨0, by omega, rfl, rfl, Below.refl _ _⟩
  case round =>
    obtain ⟨k, hk, rfl, rfl, HB⟩ := hrel
    have R1 := R.out.below HB.out
    have r2 := R1.cell 2 _ rfl
    by_cases hlt : k < n
    · obtain ⟨o, et⟩ : ∃ o, ops[k]? = some o := ⟨_, List.getElem?_eq_getElem (by rw [EN.out]; exact hlt)⟩
      obtain ⟨rfl, hc⟩ := H4.out.resolve_left (fun e => by rw [e] at et; simp at et)
      obtain ⟨d0, d1, d2, d3, d4⟩ := (hc k o et).below HB.out
      have lk : ((k : Nat) : Int) < (n : Nat) := by omega
      have EV := hide (ev_next et)
      have le : evN (ops.take k) ≤ k := Nat.le_trans (ev_le _) (by simp; omega)
      clear et hc R1
      go_wp2_with fail
      refine (l1In o.kd 4 7 _).mono ?_
      rintro e u1 ⟨rfl, rfl⟩
      have eE : inI o.kd 4 7 = evB o := rfl
      rw [eE]
      clear eE
      by_cases eb : evB o = true
      · rw [eb]
        replace EV : Hid ((evN (ops.take (k + 1)) : Int) = evN (ops.take k) + 1) := show _ = _ by have := EV.out; rw [if_pos eb] at this; omega
        clear eb
        go_wp2
        exact ⟨⟨k + 1, by omega, by go_num, congrArg (Value.int .i64) EV.out.symm, HB⟩, by simp [intOf]; omega⟩
      · replace EV : Hid ((evN (ops.take (k + 1)) : Int) = evN (ops.take k)) := show _ = _ by have := EV.out; rw [if_neg eb] at this; omega
        rw [Bool.not_eq_true] at eb
        rw [eb]
        clear eb
        go_wp2
        exact ⟨⟨k + 1, by omega, by go_num, congrArg (Value.int .i64) EV.out.symm, HB⟩, by simp [intOf]; omega⟩
    · have EE : Hid ((evN (ops.take k) : Int) = evN ops) := show _ = _ by rw [List.take_of_length_le (by rw [EN.out]; omega)]
      have BZ := hide (BW.out.trans (HB.out.mono BW.out.size))
      clear R1
      go_wp2
      go_ret
      exact ⟨ret_int EE.out, BZ.out⟩
theorem reaches (n : Int) (w : World) : Calls Try.prog 12 #[.int .i64 n] w fun e w' => e = .returned (.bool (inI n 4 7)) ∧ w' = w := by
  by_cases h0 : 4 ≤ n
  · by_cases h1 : n ≤ 7
    · have HD : Hid (inI n 4 7 = true) := decide_eq_true ⟨h0, h1⟩
      go_enter Try.func12, Try.ntmps12
      go_wp2
      go_ret
      exact ⟨ret_bool HD.out.symm, rfl⟩
    · have HD : Hid (inI n 4 7 = false) := decide_eq_false (fun h => h1 h.2)
      go_enter Try.func12, Try.ntmps12
      go_wp2
      go_ret
      exact ⟨ret_bool HD.out.symm, rfl⟩
  · have HD : Hid (inI n 4 7 = false) := decide_eq_false (fun h => h0 h.1)
    go_enter Try.func12, Try.ntmps12
    go_wp2
    go_ret
    exact ⟨ret_bool HD.out.symm, rfl⟩
set_option maxRecDepth 8000 in
set_option maxHeartbeats 4000000 in
theorem implEvents (b : Bk) (c : List Value) (w : World) (h : RBk w c b) :
    Calls Try.prog 7 #[.agg c.toArray] w fun e w' => e = .returned (.int .i64 (evN b.ops)) ∧ Below w.heap.size w w' := by
  obtain ⟨a, cap, B, rfl, hr⟩ := h
  obtain ⟨pc, ln, ops, en, x, y, k⟩ := b
  simp only [bv] at *
  have bV : Below w.heap.size w (w.alloc (.cells #[.int .i64 pc, .int .i64 ln, .slice a ops.length cap, .int .i64 en, .int .i64 x, .int .i64 y, .int .i64 k] 29)) := (Below.refl _ _).alloc (Nat.le_refl _) _
  have R := hide (Rec.new w [.int .i64 pc, .int .i64 ln, .slice a ops.length cap, .int .i64 en, .int .i64 x, .int .i64 y, .int .i64 k] 29)
  replace hr := hr.below bV
  obtain ⟨a', cap', off, e, hn, hm, _, h4⟩ := hr
  obtain ⟨rfl, -, rfl⟩ : a = a' ∧ True ∧ cap = cap' := by cases e; exact ⟨rfl, trivial, rfl⟩
  clear e
  unfold maxLen at hm
  have BW := hide bV
  have H4 := hide h4
  obtain ⟨n, en'⟩ : ∃ n, ops.length = n := ⟨_, rfl⟩
  have EN := hide en'
  rw [en'] at hn R BW H4 ⊢
  clear bV h4 en'
  go_enter Try.func7, Try.ntmps7
  go_wp2
  generalize w.alloc _ = u0 at BW R H4 ⊢
  go_loopw [3, 9] (fun m i wr => ∃ k : Nat, k ≤ n ∧ i = .int .i64 k ∧ m = .int .i64 (evN (ops.take k)) ∧ Hid (Below u0.heap.size u0 wr)) (fun _ i _ => n - (intOf i).toNat)
  case atStart => exact ⟨0, by omega, rfl, rfl, Below.refl _ _⟩
  case round =>
    obtain ⟨k, hk, rfl, rfl, HB⟩ := hrel
    have R1 := R.out.below HB.out
    have r2 := R1.cell 2 _ rfl
    by_cases hlt : k < n
    · obtain ⟨o, et⟩ : ∃ o, ops[k]? = some o := ⟨_, List.getElem?_eq_getElem (by rw [EN.out]; exact hlt)⟩
      obtain ⟨rfl, hc⟩ := H4.out.resolve_left (fun e => by rw [e] at et; simp at et)
      obtain ⟨d0, d1, d2, d3, d4⟩ := (hc k o et).below HB.out
      have lk : ((k : Nat) : Int) < (n : Nat) := by omega
      have EV := hide (ev_next et)
      have le : evN (ops.take k) ≤ k := Nat.le_trans (ev_le _) (by simp; omega)
      clear et hc R1
      go_wp2_with fail
      refine (reaches o.kd _).mono ?_
      rintro e u1 ⟨rfl, rfl⟩
      have eE : inI o.kd 4 7 = evB o := rfl
      rw [eE]
      clear eE
      by_cases eb : evB o = true
      · rw [eb]
        replace EV : Hid ((evN (ops.take (k + 1)) : Int) = evN (ops.take k) + 1) := show _ = _ by have := EV.out; rw [if_pos eb] at this; omega
        clear eb
        go_wp2
        exact ⟨⟨k + 1, by omega, by go_num, congrArg (Value.int .i64) EV.out.symm, HB.out.alloc HB.out.size _⟩, by simp [intOf]; omega⟩
      · replace EV : Hid ((evN (ops.take (k + 1)) : Int) = evN (ops.take k)) := show _ = _ by have := EV.out; rw [if_neg eb] at this; omega
        rw [Bool.not_eq_true] at eb
        rw [eb]
        clear eb
        go_wp2
        exact ⟨⟨k + 1, by omega, by go_num, congrArg (Value.int .i64) EV.out.symm, HB.out.alloc HB.out.size _⟩, by simp [intOf]; omega⟩
    · have EE : Hid ((evN (ops.take k) : Int) = evN ops) := show _ = _ by rw [List.take_of_length_le (by rw [EN.out]; omega)]
      have BZ := hide (BW.out.trans (HB.out.mono BW.out.size))
      clear R1
      go_wp2
      go_ret
      exact ⟨ret_int EE.out, BZ.out⟩
end Go.Proofs.Ytbhaidlkodpnpaa.Ir
