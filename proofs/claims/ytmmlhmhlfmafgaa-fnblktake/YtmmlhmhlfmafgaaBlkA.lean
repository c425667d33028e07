/-
  Instructions as words, words as instructions, and which instructions are a piece of code: BlkOk, BlkWords, BlkTake, the specification's and the program's.
-/
import Derived.Test.YtmmlhmhlfmafgaaInsS
import Derived.Test.YtmmlhmhlfmafgaaInsI
namespace Go.Proofs.Ytmmlhmhlfmafgaa.Blk
set_option linter.unusedVariables false
set_option linter.unusedSimpArgs false
open Go.ChangeShapes Go.WideShapes Go.ChangeAt Go.RowKit IntS Flat InsS
open Ins (okB endsB inB putN takeB takeC)
/-- An instruction that may stand in a piece of code, at its end or ahead of it. -/
def ok1 (last : Bool) (i : In4) : Bool := okB i.op i.d i.a i.k && !decide (i.op = 0) && (!endsB i.op || last)
def okAt (is : List In4) (j : Nat) : Bool := match is[j]? with
  | some i => ok1 (decide (j + 1 = is.length)) i
  | none => true
def okAll (is : List In4) : Bool := (List.range is.length).all (okAt is)
def okL (pc : Int) (is : List In4) : Bool := decide ((1 ≤ is.length ∧ is.length ≤ 8) ∧ 0 ≤ pc ∧ pc ≤ 64 - (is.length : Int)) && okAll is
theorem okAll_yes {is : List In4} (h : ∀ j, j < is.length → okAt is j = true) : okAll is = true := by
  unfold okAll
  rw [List.all_eq_true]
  intro j hj
  exact h j (List.mem_range.1 hj)
theorem okAll_no {is : List In4} {j : Nat} (hj : j < is.length) (h : okAt is j = false) : okAll is = false := by
  unfold okAll
  rw [Bool.eq_false_iff]
  intro ha
  rw [List.all_eq_true] at ha
  have := ha j (List.mem_range.2 hj)
  rw [h] at this
  cases this
theorem okAt_some {is : List In4} {j : Nat} {i : In4} (h : is[j]? = some i) : okAt is j = ok1 (decide (j + 1 = is.length)) i := by
  unfold okAt
  rw [h]
theorem okL_short {pc : Int} {is : List In4} (h : ¬ ((1 ≤ is.length ∧ is.length ≤ 8) ∧ 0 ≤ pc ∧ pc ≤ 64 - (is.length : Int))) : okL pc is = false := by
  unfold okL
  rw [decide_eq_false h]
  rfl
theorem okL_in {pc : Int} {is : List In4} (h : (1 ≤ is.length ∧ is.length ≤ 8) ∧ 0 ≤ pc ∧ pc ≤ 64 - (is.length : Int)) : okL pc is = okAll is := by
  unfold okL
  rw [decide_eq_true h]
  rfl
/-- The specification's l7Plain. -/
theorem l7Plain (i : In4) (w : World) : Calls Try.prog 33 #[.agg #[.int .i64 i.op, .int .i64 i.d, .int .i64 i.a, .int .i64 i.k]] w fun e w' => e = .returned (.bool (ok1 false i)) ∧ Below w.heap.size w w' := by
  obtain ⟨op, d, a, k⟩ := i
  have B0 : Below w.heap.size w (w.alloc (.cells #[.int .i64 op, .int .i64 d, .int .i64 a, .int .i64 k] 33)) := (Below.refl _ _).alloc (Nat.le_refl _) _
  go_enter Try.func33, Try.ntmps33
  go_wp2_with fail
  refine (Ins.insOk op d a k _).mono ?_
  rintro e w1 ⟨rfl, hb⟩
  have B1 := hide (B0.trans (hb.mono B0.size))
  have c0 : w1.cell? ⟨w.heap.size, 0, none⟩ = some (.int .i64 op) := cell_below hb (by simp)
  clear hb B0
  cases hk : okB op d a k with
  | false =>
    have HD : Hid (ok1 false ⟨op, d, a, k⟩ = false) := show _ = _ by simp [ok1, hk]
    go_wp2
    go_ret
    exact ⟨ret_bool HD.out.symm, B1.out⟩
  | true =>
    by_cases h0 : op = 0
    · have HD : Hid (ok1 false ⟨op, d, a, k⟩ = false) := show _ = _ by simp [ok1, h0]
      have n0 : (op != 0) = false := by simp [h0]
      clear h0
      go_wp2
      go_ret
      exact ⟨ret_bool HD.out.symm, B1.out⟩
    · have HD : Hid (ok1 false ⟨op, d, a, k⟩ = !endsB op) := show _ = _ by simp [ok1, h0, hk]
      have n0 : (op != 0) = true := by simpa using h0
      clear h0
      go_wp2_with fail
      refine (Ins.insEnds op _).mono ?_
      rintro e w2 ⟨rfl, hw⟩
      rw [hw]
      clear hw w2
      cases he : endsB op with
      | false =>
        go_wp2
        go_ret
        exact ⟨ret_bool (by rw [HD.out, he]; rfl), B1.out⟩
      | true =>
        go_wp2
        go_ret
        exact ⟨ret_bool (by rw [HD.out, he]; rfl), B1.out⟩
set_option maxRecDepth 8000 in
set_option maxHeartbeats 8000000 in
theorem specOk (pc : Int) (is : List In4) (B : Nat) (v : Value) (w : World) (h : IRow w B v is) (hl : is.length ≤ 1048576) :
    Calls Try.prog 17 #[.int .i64 pc, v] w fun e w' => e = .returned (.bool (okL pc is)) ∧ Below w.heap.size w w' := by
  obtain ⟨a, cap, off, rfl, h2, h3, hz, hfl, h4⟩ := h
  unfold maxLen at h3
  clear hz hfl
  obtain ⟨n, en⟩ : ∃ n, is.length = n := ⟨_, rfl⟩
  have EN := hide en
  rw [en] at hl h2 h4 ⊢
  have H4 := hide h4
  clear en h4
  go_enter Try.func17, Try.ntmps17
  go_wp2_with fail
  refine (Ins.l1In n 1 8 _).mono ?_
  rintro e w1 ⟨rfl, hw⟩
  rw [hw]
  clear hw w1
  by_cases hr : 1 ≤ n ∧ n ≤ 8
  case neg =>
    have HD : Hid (okL pc is = false) := okL_short (fun h => hr (by have := EN.out; omega))
    rw [show inB n 1 8 = false from decide_eq_false (by omega)]
    go_wp2
    go_ret
    exact ⟨ret_bool HD.out.symm, Below.refl _ _⟩
  rw [show inB n 1 8 = true from decide_eq_true (by omega)]
  go_wp2_with fail
  refine (Ins.l1In pc 0 (64 - (n : Int)) _).mono ?_
  rintro e w1 ⟨rfl, hw⟩
  rw [hw]
  clear hw w1
  by_cases hp : 0 ≤ pc ∧ pc ≤ 64 - (n : Int)
  case neg =>
    have HD : Hid (okL pc is = false) := okL_short (fun h => hp (by have := EN.out; omega))
    rw [show inB pc 0 (64 - (n : Int)) = false from decide_eq_false hp]
    go_wp2
    go_ret
    exact ⟨ret_bool HD.out.symm, Below.refl _ _⟩
  rw [show inB pc 0 (64 - (n : Int)) = true from decide_eq_true hp]
  have HL : Hid (okL pc is = okAll is) := okL_in (by have := EN.out; omega)
  clear hp
  obtain ⟨rfl, hc⟩ := H4.out.resolve_left (by omega)
  have HC := hide hc
  clear hc H4
  go_wp2
  go_loopw [5] (fun i wr => ∃ k : Nat, k ≤ n ∧ i = .int .i64 k ∧ Hid (∀ j, j < k → okAt is j = true) ∧ Hid (Below w.heap.size w wr)) (fun i _ => n - (intOf i).toNat)
  case atStart => exact ⟨0, by omega, rfl, fun j hj => by omega, Below.refl _ _⟩
  case round =>
    obtain ⟨k, hk, rfl, HE, HB⟩ := hrel
    by_cases hlt : k < n
    case neg =>
      have HD : Hid (okL pc is = true) := show _ = _ by rw [HL.out]; exact okAll_yes (fun j hj => HE.out j (by have := EN.out; omega))
      go_wp2
      go_ret
      exact ⟨ret_bool HD.out.symm, HB.out⟩
    obtain ⟨i, et⟩ : ∃ i, is[k]? = some i := ⟨_, List.getElem?_eq_getElem (by rw [EN.out]; exact hlt)⟩
    have AT := hide (okAt_some et)
    obtain ⟨q0, q1, q2, q3⟩ := at4 HC.out et
    have d0 := cell_below HB.out q0
    have d1 := cell_below HB.out q1
    have d2 := cell_below HB.out q2
    have d3 := cell_below HB.out q3
    have lk : ((k : Nat) : Int) < (n : Nat) := by omega
    clear et q0 q1 q2 q3
    go_wp2_with fail
    refine (l7Plain i _).mono ?_
    rintro e u1 ⟨rfl, hb⟩
    have HB1 := hide (HB.out.trans (hb.mono HB.out.size))
    have c0 := cell_below hb d0
    have c1 := cell_below hb d1
    have c2 := cell_below hb d2
    have c3 := cell_below hb d3
    clear hb d0 d1 d2 d3 HB
    have NXT (ht : okAt is k = true) : ∀ j, j < k + 1 → okAt is j = true := fun j hj => by
      by_cases ej : j = k
      · subst ej; exact ht
      · exact HE.out j (by omega)
    have NX := hide NXT
    clear NXT
    have OUT (hf : okAt is k = false) : okL pc is = false := by rw [HL.out]; exact okAll_no (by rw [EN.out]; exact hlt) hf
    have OU := hide OUT
    clear OUT
    cases hp : ok1 false i with
    | true =>
      have HT : Hid (∀ j, j < k + 1 → okAt is j = true) := NX.out (by
        rw [AT.out]
        unfold ok1 at hp ⊢
        simp only [Bool.and_eq_true, Bool.or_false] at hp
        simp [hp.1.1, hp.1.2, hp.2])
      go_wp2
      exact ⟨⟨k + 1, by omega, by go_num, HT, HB1⟩, by simp [intOf]; omega⟩
    | false =>
      by_cases hlast : k + 1 = n
      case neg =>
        have HD : Hid (okL pc is = false) := OU.out (by rw [AT.out, decide_eq_false (by rw [EN.out]; exact hlast)]; exact hp)
        have l1 : ((k : Nat) : Int) < (n : Int) - 1 := by omega
        go_wp2
        go_ret
        exact ⟨ret_bool HD.out.symm, HB1.out⟩
      have l1 : ¬ ((k : Nat) : Int) < (n : Int) - 1 := by omega
      have AL : Hid (okAt is k = ok1 true i) := AT.out.trans (by rw [decide_eq_true (by rw [EN.out]; exact hlast)])
      go_wp2_with fail
      refine (Ins.insOk i.op i.d i.a i.k _).mono ?_
      rintro e u2 ⟨rfl, hb⟩
      have HB2 := hide (HB1.out.trans (hb.mono HB1.out.size))
      have e0 := cell_below hb c0
      clear hb c0 c1 c2 c3 HB1
      cases ho : okB i.op i.d i.a i.k with
      | false =>
        have HD : Hid (okL pc is = false) := OU.out (by rw [AL.out]; simp [ok1, ho])
        go_wp2
        go_ret
        exact ⟨ret_bool HD.out.symm, HB2.out⟩
      | true =>
        go_wp2_with fail
        refine (Ins.insEnds i.op _).mono ?_
        rintro e u3 ⟨rfl, hw⟩
        rw [hw]
        clear hw u3
        cases he : endsB i.op with
        | false =>
          have HD : Hid (okL pc is = false) := OU.out (by rw [AL.out]; simp [ok1, ho, he] at hp ⊢; exact hp)
          go_wp2
          go_ret
          exact ⟨ret_bool HD.out.symm, HB2.out⟩
        | true =>
          have HT : Hid (∀ j, j < k + 1 → okAt is j = true) := NX.out (by
            rw [AL.out]
            have h0 : ¬ i.op = 0 := fun e => by rw [e] at he; simp [endsB] at he
            simp [ok1, ho, h0])
          go_wp2
          exact ⟨⟨k + 1, by omega, by go_num, HT, HB2⟩, by simp [intOf]; omega⟩
set_option maxRecDepth 8000 in
set_option maxHeartbeats 8000000 in
theorem implOk (pc : Int) (is : List In4) (B : Nat) (v : Value) (w : World) (h : IRow w B v is) (hl : is.length ≤ 1048576) :
    Calls Try.prog 16 #[.int .i64 pc, v] w fun e w' => e = .returned (.bool (okL pc is)) ∧ Below w.heap.size w w' := by
  obtain ⟨a, cap, off, rfl, h2, h3, hz, hfl, h4⟩ := h
  unfold maxLen at h3
  clear hz hfl
  obtain ⟨n, en⟩ : ∃ n, is.length = n := ⟨_, rfl⟩
  have EN := hide en
  rw [en] at hl h2 h4 ⊢
  have H4 := hide h4
  clear en h4
  by_cases r1 : ((n : Nat) : Int) < 1
  · have HD : Hid (okL pc is = false) := okL_short (fun h => by have := EN.out; omega)
    go_enter Try.func16, Try.ntmps16
    go_wp2
    go_ret
    exact ⟨ret_bool HD.out.symm, Below.refl _ _⟩
  by_cases r2 : (8 : Int) < (n : Nat)
  · have HD : Hid (okL pc is = false) := okL_short (fun h => by have := EN.out; omega)
    go_enter Try.func16, Try.ntmps16
    go_wp2
    go_ret
    exact ⟨ret_bool HD.out.symm, Below.refl _ _⟩
  by_cases r3 : pc < 0
  · have HD : Hid (okL pc is = false) := okL_short (fun h => by have := EN.out; omega)
    go_enter Try.func16, Try.ntmps16
    go_wp2
    go_ret
    exact ⟨ret_bool HD.out.symm, Below.refl _ _⟩
  by_cases r4 : 64 - (n : Int) < pc
  · have HD : Hid (okL pc is = false) := okL_short (fun h => by have := EN.out; omega)
    go_enter Try.func16, Try.ntmps16
    go_wp2
    go_ret
    exact ⟨ret_bool HD.out.symm, Below.refl _ _⟩
  have HL : Hid (okL pc is = okAll is) := okL_in (by have := EN.out; omega)
  obtain ⟨rfl, hc⟩ := H4.out.resolve_left (by omega)
  have HC := hide hc
  clear hc H4
  go_enter Try.func16, Try.ntmps16
  go_wp2
  clear r3 r4
  go_loopw [32] (fun i wr => ∃ k : Nat, k ≤ n ∧ i = .int .i64 k ∧ Hid (∀ j, j < k → okAt is j = true) ∧ Hid (Below w.heap.size w wr)) (fun i _ => n - (intOf i).toNat)
  case atStart => exact ⟨0, by omega, rfl, fun j hj => by omega, Below.refl _ _⟩
  case round =>
    obtain ⟨k, hk, rfl, HE, HB⟩ := hrel
    by_cases hlt : k < n
    case neg =>
      have HD : Hid (okL pc is = true) := show _ = _ by rw [HL.out]; exact okAll_yes (fun j hj => HE.out j (by have := EN.out; omega))
      go_wp2
      go_ret
      exact ⟨ret_bool HD.out.symm, HB.out⟩
    obtain ⟨i, et⟩ : ∃ i, is[k]? = some i := ⟨_, List.getElem?_eq_getElem (by rw [EN.out]; exact hlt)⟩
    have AT := hide (okAt_some et)
    obtain ⟨q0, q1, q2, q3⟩ := at4 HC.out et
    have d0 := cell_below HB.out q0
    have d1 := cell_below HB.out q1
    have d2 := cell_below HB.out q2
    have d3 := cell_below HB.out q3
    have lk : ((k : Nat) : Int) < (n : Nat) := by omega
    clear et q0 q1 q2 q3
    have bo : Below wr.heap.size wr (wr.alloc (.cells #[.int .i64 i.op, .int .i64 i.d, .int .i64 i.a, .int .i64 i.k] 33)) := (Below.refl _ _).alloc (Nat.le_refl _) _
    have BO := hide bo
    clear bo
    go_wp2_with fail
    refine (InsI.insOk i.op i.d i.a i.k _).mono ?_
    rintro e u1 ⟨rfl, hb⟩
    have HB1 := hide ((HB.out.trans (BO.out.mono HB.out.size)).trans (hb.mono (Nat.le_trans HB.out.size BO.out.size)))
    have c0 : u1.cell? ⟨wr.heap.size, 0, none⟩ = some (.int .i64 i.op) := cell_below hb (by simp)
    clear hb d0 d1 d2 d3 HB BO
    have NXT (ht : okAt is k = true) : ∀ j, j < k + 1 → okAt is j = true := fun j hj => by
      by_cases ej : j = k
      · subst ej; exact ht
      · exact HE.out j (by omega)
    have NX := hide NXT
    clear NXT
    have OUT (hf : okAt is k = false) : okL pc is = false := by rw [HL.out]; exact okAll_no (by rw [EN.out]; exact hlt) hf
    have OU := hide OUT
    clear OUT
    cases ho : okB i.op i.d i.a i.k with
    | false =>
      have HD : Hid (okL pc is = false) := OU.out (by rw [AT.out]; simp [ok1, ho])
      go_wp2
      go_ret
      exact ⟨ret_bool HD.out.symm, HB1.out⟩
    | true =>
      by_cases h0 : i.op = 0
      · have HD : Hid (okL pc is = false) := OU.out (by rw [AT.out]; simp [ok1, h0])
        have n0 : (i.op == 0) = true := by simp [h0]
        clear h0
        go_wp2
        go_ret
        exact ⟨ret_bool HD.out.symm, HB1.out⟩
      have n0 : (i.op == 0) = false := by simpa using h0
      have H0 := hide h0
      clear h0
      go_wp2_with fail
      refine (InsI.insEnds i.op _).mono ?_
      rintro e u3 ⟨rfl, hw⟩
      rw [hw]
      clear hw u3
      cases he : endsB i.op with
      | false =>
        have HT : Hid (∀ j, j < k + 1 → okAt is j = true) := NX.out (by rw [AT.out]; simp [ok1, ho, he, H0.out])
        go_wp2
        exact ⟨⟨k + 1, by omega, by go_num, HT, HB1⟩, by simp [intOf]; omega⟩
      | true =>
        by_cases hlast : k + 1 = n
        · have HT : Hid (∀ j, j < k + 1 → okAt is j = true) := NX.out (by rw [AT.out, decide_eq_true (by rw [EN.out]; exact hlast)]; simp [ok1, ho, H0.out])
          have nl : (((k : Nat) : Int) != (n : Int) - 1) = false := by rw [bne_eq_false_iff_eq]; omega
          go_wp2
          exact ⟨⟨k + 1, by omega, by go_num, HT, HB1⟩, by simp [intOf]; omega⟩
        · have HD : Hid (okL pc is = false) := OU.out (by rw [AT.out, decide_eq_false (by rw [EN.out]; exact hlast)]; simp [ok1, he])
          have nl : (((k : Nat) : Int) != (n : Int) - 1) = true := by rw [bne_iff_ne]; omega
          go_wp2
          go_ret
          exact ⟨ret_bool HD.out.symm, HB1.out⟩
end Go.Proofs.Ytmmlhmhlfmafgaa.Blk
