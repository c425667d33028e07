/-
  Which operations and pieces of code are ok: as Bools, and the specification's l6Val, l6Op, l6End, IrOk.
-/
import Derived.Test.YtkeelacobknfbaaDoorIrP
namespace Go.Proofs.YtkeelacobknfbaaDoor.Ir
set_option linter.unusedVariables false
set_option linter.unusedSimpArgs false
open Go.ChangeShapes Go.WideShapes Go.ChangeAt Go.RowKit IntS Mch
/-- Whether operations of a kind make a word. -/
def mkB (k : Int) : Bool := decide (1 ≤ k ∧ k ≤ 4) || decide (k = 6)
/-- Whether a word is made at a place of operations. -/
def valB (ah : List Opn) (k : Int) : Bool := decide (0 ≤ k) && (match ah[k.toNat]? with | some o => mkB o.kd | none => false)
def opB (ah : List Opn) (o : Opn) (size : Int) : Bool :=
  if o.kd = 1 then decide (o.x = 0) && decide (o.y = 0) && inI o.k 0 65535 && decide (o.t = 0)
  else if o.kd = 2 then decide (o.x = 0) && decide (o.y = 0) && inI o.k 0 3 && decide (o.t = 0)
  else if o.kd = 3 then valB ah o.x && valB ah o.y && inI o.k 1 5 && decide (o.t = 0)
  else if o.kd = 4 ∨ o.kd = 7 then valB ah o.x && decide (o.y = 0) && decide (o.k = 0) && inI o.t 0 (size - 1)
  else if o.kd = 5 then valB ah o.x && valB ah o.y && decide (o.k = 0) && inI o.t 0 (size - 1)
  else if o.kd = 6 then decide (o.x = 0) && decide (o.y = 0) && decide (o.k = 0) && inI o.t 0 (size - 1)
  else if o.kd = 8 then valB ah o.x && decide (o.y = 0) && inI o.k 0 3 && decide (o.t = 0)
  else false
def endB (ops : List Opn) (en x y k : Int) : Bool :=
  if en = 1 then decide (x = 0) && decide (y = 0) && inI k 0 65535
  else if en = 2 then valB ops x && decide (y = 0) && decide (k = 0)
  else if en = 3 ∨ en = 4 then valB ops x && valB ops y && inI k 0 65535
  else false
/-- Whether the first so many operations are ok. -/
def opsB (ops : List Opn) (size : Int) (n : Nat) : Bool := (List.range n).all fun i => match ops[i]? with | some o => opB (ops.take i) o size | none => true
def headB (b : Bk) : Bool := inI b.ln 1 8 && inI b.pc 0 (64 - b.ln) && decide (b.ops.length ≤ 48)
def okB (b : Bk) : Bool := headB b && opsB b.ops b.ln b.ops.length && endB b.ops b.en b.x b.y b.k
theorem ops_next {ops : List Opn} {size : Int} {k : Nat} {o : Opn} (h : ops[k]? = some o) : opsB ops size (k + 1) = (opsB ops size k && opB (ops.take k) o size) := by
  unfold opsB
  rw [List.range_succ, List.all_append]
  simp [h]
theorem ops_stop {ops : List Opn} {size : Int} {k n : Nat} {o : Opn} (hk : k < n) (h : ops[k]? = some o) (hf : opB (ops.take k) o size = false) : opsB ops size n = false := by
  unfold opsB
  rw [List.all_eq_false]
  exact ⟨k, List.mem_range.2 hk, by simp [h, hf]⟩
theorem val_neg {ah : List Opn} {k : Int} (h : k < 0) : valB ah k = false := by unfold valB; rw [decide_eq_false (by omega)]; rfl
theorem val_far {ah : List Opn} {k : Int} (h : (ah.length : Int) ≤ k) : valB ah k = false := by
  unfold valB
  rw [List.getElem?_eq_none (by omega)]
  simp
theorem val_at {ah : List Opn} {k : Nat} {o : Opn} (h : ah[k]? = some o) : valB ah (k : Int) = mkB o.kd := by
  unfold valB
  rw [decide_eq_true (by omega), Int.toNat_natCast, h]
  rfl
theorem ret_boolw {b c : Bool} {n : Nat} {w w' : World} (h : b = c) (hb : Below n w w') : Ending.returned (.bool b) = .returned (.bool c) ∧ Below n w w' := ⟨by rw [h], hb⟩
theorem l6Makes (k : Int) (w : World) : Calls Tryd.prog 77 #[.int .i64 k] w fun e w' => e = .returned (.bool (mkB k)) ∧ w' = w := by
  by_cases h1 : inI k 1 4 = true
  · have HD : Hid (mkB k = true) := show _ = _ by unfold mkB; unfold inI at h1; rw [h1]; rfl
    go_enter Tryd.func77, Tryd.ntmps77
    go_wp2_with fail
    refine (l1In k 1 4 _).mono ?_
    rintro e u ⟨rfl, rfl⟩
    rw [h1]
    go_wp2
    go_ret
    exact ⟨ret_bool HD.out.symm, rfl⟩
  · rw [Bool.not_eq_true] at h1
    by_cases h2 : k = 6
    · subst h2
      have HD : Hid (mkB 6 = true) := rfl
      go_enter Tryd.func77, Tryd.ntmps77
      go_wp2_with fail
      refine (l1In 6 1 4 _).mono ?_
      rintro e u ⟨rfl, rfl⟩
      rw [h1]
      go_wp2
      go_ret
      exact ⟨ret_bool HD.out.symm, rfl⟩
    · have HD : Hid (mkB k = false) := show _ = _ by unfold mkB; unfold inI at h1; rw [h1, decide_eq_false h2]; rfl
      have e2 : (k == 6) = false := beq_eq_false_iff_ne.2 h2
      go_enter Tryd.func77, Tryd.ntmps77
      go_wp2_with fail
      refine (l1In k 1 4 _).mono ?_
      rintro e u ⟨rfl, rfl⟩
      rw [h1]
      go_wp2
      go_ret
      exact ⟨ret_bool HD.out.symm, rfl⟩
theorem wrdOk (n : Int) (w : World) : Calls Tryd.prog 59 #[.int .i64 n] w fun e w' => e = .returned (.bool (inI n 0 65535)) ∧ w' = w := by
  by_cases h0 : 0 ≤ n
  · by_cases h1 : n < 65536
    · have HD : Hid (inI n 0 65535 = true) := decide_eq_true ⟨h0, by omega⟩
      go_enter Tryd.func59, Tryd.ntmps59
      go_wp2
      go_ret
      exact ⟨ret_bool HD.out.symm, rfl⟩
    · have HD : Hid (inI n 0 65535 = false) := decide_eq_false (fun h => h1 (by omega))
      go_enter Tryd.func59, Tryd.ntmps59
      go_wp2
      go_ret
      exact ⟨ret_bool HD.out.symm, rfl⟩
  · have HD : Hid (inI n 0 65535 = false) := decide_eq_false (fun h => h0 h.1)
    go_enter Tryd.func59, Tryd.ntmps59
    go_wp2
    go_ret
    exact ⟨ret_bool HD.out.symm, rfl⟩
set_option maxHeartbeats 2000000 in
theorem l6Val (ops : List Opn) (B : Nat) (v : Value) (k : Int) (n : Nat) (w : World) (h : ORow w B v ops) (hn : n ≤ ops.length) :
    Calls Tryd.prog 60 #[v, .int .i64 k, .int .i64 n] w fun e w' => e = .returned (.bool (valB (ops.take n) k)) ∧ w' = w := by
  obtain ⟨a, cap, off, rfl, h2, h3, hz, h4⟩ := h
  unfold maxLen at h3
  clear hz
  by_cases h0 : 0 ≤ k
  · by_cases h1 : k < n
    · obtain ⟨m, rfl⟩ : ∃ m : Nat, k = m := ⟨k.toNat, by omega⟩
      obtain ⟨o, et⟩ : ∃ o, ops[m]? = some o := ⟨_, List.getElem?_eq_getElem (by omega)⟩
      obtain ⟨rfl, hc⟩ := h4.resolve_left (fun e => by rw [e] at et; simp at et)
      obtain ⟨c0, -⟩ := hc m o et
      have HD : Hid (valB (ops.take n) m = mkB o.kd) := val_at (by rw [List.getElem?_take_of_lt (by omega)]; exact et)
      have lk : ((m : Nat) : Int) < (ops.length : Nat) := by omega
      clear hc et h4
      go_enter Tryd.func60, Tryd.ntmps60
      go_wp2_with fail
      refine (l6Makes o.kd _).mono ?_
      rintro e u ⟨rfl, rfl⟩
      go_wp2
      go_ret
      exact ⟨ret_bool HD.out.symm, rfl⟩
    · have HD : Hid (valB (ops.take n) k = false) := val_far (by simp; omega)
      clear h4
      go_enter Tryd.func60, Tryd.ntmps60
      go_wp2
      go_ret
      exact ⟨ret_bool HD.out.symm, rfl⟩
  · have HD : Hid (valB (ops.take n) k = false) := val_neg (by omega)
    clear h4
    go_enter Tryd.func60, Tryd.ntmps60
    go_wp2
    go_ret
    exact ⟨ret_bool HD.out.symm, rfl⟩
set_option maxRecDepth 8000 in
set_option maxHeartbeats 4000000 in
theorem l6Op_1 (ops : List Opn) (B : Nat) (v : Value) (n : Nat) (x y k t size : Int) (w : World) (h : ORow w B v ops) (ho : ops[n]? = some ⟨1, x, y, k, t⟩) (s1 : 1 ≤ size) (s8 : size ≤ 8) :
    Calls Tryd.prog 35 #[v, .int .i64 n, .int .i64 size] w fun e w' => e = .returned (.bool (opB (ops.take n) ⟨1, x, y, k, t⟩ size)) ∧ Below w.heap.size w w' := by
  have hn : n < ops.length := (List.getElem?_eq_some_iff.1 ho).1
  have HN : Hid (n ≤ ops.length) := Nat.le_of_lt hn
  have EQ : opB (ops.take n) ⟨1, x, y, k, t⟩ size = (decide (x = 0) && decide (y = 0) && inI k 0 65535 && decide (t = 0)) := by simp [opB]
  have BW : Below w.heap.size w (w.alloc (.cells #[.int .i64 1, .int .i64 x, .int .i64 y, .int .i64 k, .int .i64 t] 51)) := (Below.refl _ _).alloc (Nat.le_refl _) _
  have H := hide (h.below BW)
  replace BW := hide BW
  obtain ⟨a, cap, off, rfl, h2, h3, hz, h4⟩ := h
  unfold maxLen at h3
  clear hz
  obtain ⟨rfl, hc⟩ := h4.resolve_left (fun e => by rw [e] at ho; simp at ho)
  obtain ⟨c0, c1, c2, c3, c4⟩ := hc n _ ho
  simp only [] at c0 c1 c2 c3 c4
  have lk : ((n : Nat) : Int) < (ops.length : Nat) := by omega
  clear hc h4 ho
  by_cases e0 : x = 0
  · subst e0
    by_cases e1 : y = 0
    · subst e1
      by_cases e2 : inI k 0 65535 = true
      · have _h := e2
        clear _h
        by_cases e3 : t = 0
        · subst e3
          have HD : Hid (opB (ops.take n) ⟨1, 0, 0, k, 0⟩ size = true) := show _ = _ by rw [EQ]; simp [e2]
          clear EQ
          go_enter Tryd.func35, Tryd.ntmps35
          go_wp2_with fail
          refine (wrdOk k _).mono ?_
          rintro e u2 ⟨rfl, rfl⟩
          rw [e2]
          go_wp2
          go_ret
          exact ret_boolw HD.out.symm BW.out
        · have f3 : (t == 0) = false := beq_eq_false_iff_ne.2 e3
          have HD : Hid (opB (ops.take n) ⟨1, 0, 0, k, t⟩ size = false) := show _ = _ by rw [EQ]; simp [e2, e3]
          clear EQ e3
          go_enter Tryd.func35, Tryd.ntmps35
          go_wp2_with fail
          refine (wrdOk k _).mono ?_
          rintro e u2 ⟨rfl, rfl⟩
          rw [e2]
          go_wp2
          go_ret
          exact ret_boolw HD.out.symm BW.out
      · rw [Bool.not_eq_true] at e2
        have HD : Hid (opB (ops.take n) ⟨1, 0, 0, k, t⟩ size = false) := show _ = _ by rw [EQ]; simp [e2]
        clear EQ
        go_enter Tryd.func35, Tryd.ntmps35
        go_wp2_with fail
        refine (wrdOk k _).mono ?_
        rintro e u2 ⟨rfl, rfl⟩
        rw [e2]
        go_wp2
        go_ret
        exact ret_boolw HD.out.symm BW.out
    · have f1 : (y == 0) = false := beq_eq_false_iff_ne.2 e1
      have HD : Hid (opB (ops.take n) ⟨1, 0, y, k, t⟩ size = false) := show _ = _ by rw [EQ]; simp [e1]
      clear EQ e1
      go_enter Tryd.func35, Tryd.ntmps35
      go_wp2
      go_ret
      exact ret_boolw HD.out.symm BW.out
  · have f0 : (x == 0) = false := beq_eq_false_iff_ne.2 e0
    have HD : Hid (opB (ops.take n) ⟨1, x, y, k, t⟩ size = false) := show _ = _ by rw [EQ]; simp [e0]
    clear EQ e0
    go_enter Tryd.func35, Tryd.ntmps35
    go_wp2
    go_ret
    exact ret_boolw HD.out.symm BW.out
set_option maxRecDepth 8000 in
set_option maxHeartbeats 4000000 in
theorem l6Op_2 (ops : List Opn) (B : Nat) (v : Value) (n : Nat) (x y k t size : Int) (w : World) (h : ORow w B v ops) (ho : ops[n]? = some ⟨2, x, y, k, t⟩) (s1 : 1 ≤ size) (s8 : size ≤ 8) :
    Calls Tryd.prog 35 #[v, .int .i64 n, .int .i64 size] w fun e w' => e = .returned (.bool (opB (ops.take n) ⟨2, x, y, k, t⟩ size)) ∧ Below w.heap.size w w' := by
  have hn : n < ops.length := (List.getElem?_eq_some_iff.1 ho).1
  have HN : Hid (n ≤ ops.length) := Nat.le_of_lt hn
  have EQ : opB (ops.take n) ⟨2, x, y, k, t⟩ size = (decide (x = 0) && decide (y = 0) && inI k 0 3 && decide (t = 0)) := by simp [opB]
  have BW : Below w.heap.size w (w.alloc (.cells #[.int .i64 2, .int .i64 x, .int .i64 y, .int .i64 k, .int .i64 t] 51)) := (Below.refl _ _).alloc (Nat.le_refl _) _
  have H := hide (h.below BW)
  replace BW := hide BW
  obtain ⟨a, cap, off, rfl, h2, h3, hz, h4⟩ := h
  unfold maxLen at h3
  clear hz
  obtain ⟨rfl, hc⟩ := h4.resolve_left (fun e => by rw [e] at ho; simp at ho)
  obtain ⟨c0, c1, c2, c3, c4⟩ := hc n _ ho
  simp only [] at c0 c1 c2 c3 c4
  have lk : ((n : Nat) : Int) < (ops.length : Nat) := by omega
  clear hc h4 ho
  by_cases e0 : x = 0
  · subst e0
    by_cases e1 : y = 0
    · subst e1
      by_cases e2 : inI k 0 3 = true
      · have _h := e2
        clear _h
        by_cases e3 : t = 0
        · subst e3
          have HD : Hid (opB (ops.take n) ⟨2, 0, 0, k, 0⟩ size = true) := show _ = _ by rw [EQ]; simp [e2]
          clear EQ
          go_enter Tryd.func35, Tryd.ntmps35
          go_wp2_with fail
          refine (l1In k 0 3 _).mono ?_
          rintro e u2 ⟨rfl, rfl⟩
          rw [e2]
          go_wp2
          go_ret
          exact ret_boolw HD.out.symm BW.out
        · have f3 : (t == 0) = false := beq_eq_false_iff_ne.2 e3
          have HD : Hid (opB (ops.take n) ⟨2, 0, 0, k, t⟩ size = false) := show _ = _ by rw [EQ]; simp [e2, e3]
          clear EQ e3
          go_enter Tryd.func35, Tryd.ntmps35
          go_wp2_with fail
          refine (l1In k 0 3 _).mono ?_
          rintro e u2 ⟨rfl, rfl⟩
          rw [e2]
          go_wp2
          go_ret
          exact ret_boolw HD.out.symm BW.out
      · rw [Bool.not_eq_true] at e2
        have HD : Hid (opB (ops.take n) ⟨2, 0, 0, k, t⟩ size = false) := show _ = _ by rw [EQ]; simp [e2]
        clear EQ
        go_enter Tryd.func35, Tryd.ntmps35
        go_wp2_with fail
        refine (l1In k 0 3 _).mono ?_
        rintro e u2 ⟨rfl, rfl⟩
        rw [e2]
        go_wp2
        go_ret
        exact ret_boolw HD.out.symm BW.out
    · have f1 : (y == 0) = false := beq_eq_false_iff_ne.2 e1
      have HD : Hid (opB (ops.take n) ⟨2, 0, y, k, t⟩ size = false) := show _ = _ by rw [EQ]; simp [e1]
      clear EQ e1
      go_enter Tryd.func35, Tryd.ntmps35
      go_wp2
      go_ret
      exact ret_boolw HD.out.symm BW.out
  · have f0 : (x == 0) = false := beq_eq_false_iff_ne.2 e0
    have HD : Hid (opB (ops.take n) ⟨2, x, y, k, t⟩ size = false) := show _ = _ by rw [EQ]; simp [e0]
    clear EQ e0
    go_enter Tryd.func35, Tryd.ntmps35
    go_wp2
    go_ret
    exact ret_boolw HD.out.symm BW.out
set_option maxRecDepth 8000 in
set_option maxHeartbeats 4000000 in
theorem l6Op_3 (ops : List Opn) (B : Nat) (v : Value) (n : Nat) (x y k t size : Int) (w : World) (h : ORow w B v ops) (ho : ops[n]? = some ⟨3, x, y, k, t⟩) (s1 : 1 ≤ size) (s8 : size ≤ 8) :
    Calls Tryd.prog 35 #[v, .int .i64 n, .int .i64 size] w fun e w' => e = .returned (.bool (opB (ops.take n) ⟨3, x, y, k, t⟩ size)) ∧ Below w.heap.size w w' := by
  have hn : n < ops.length := (List.getElem?_eq_some_iff.1 ho).1
  have HN : Hid (n ≤ ops.length) := Nat.le_of_lt hn
  have EQ : opB (ops.take n) ⟨3, x, y, k, t⟩ size = (valB (ops.take n) x && valB (ops.take n) y && inI k 1 5 && decide (t = 0)) := by simp [opB]
  have BW : Below w.heap.size w (w.alloc (.cells #[.int .i64 3, .int .i64 x, .int .i64 y, .int .i64 k, .int .i64 t] 51)) := (Below.refl _ _).alloc (Nat.le_refl _) _
  have H := hide (h.below BW)
  replace BW := hide BW
  obtain ⟨a, cap, off, rfl, h2, h3, hz, h4⟩ := h
  unfold maxLen at h3
  clear hz
  obtain ⟨rfl, hc⟩ := h4.resolve_left (fun e => by rw [e] at ho; simp at ho)
  obtain ⟨c0, c1, c2, c3, c4⟩ := hc n _ ho
  simp only [] at c0 c1 c2 c3 c4
  have lk : ((n : Nat) : Int) < (ops.length : Nat) := by omega
  clear hc h4 ho
  by_cases e0 : valB (ops.take n) x = true
  · have _h := e0
    clear _h
    by_cases e1 : valB (ops.take n) y = true
    · have _h := e1
      clear _h
      by_cases e2 : inI k 1 5 = true
      · have _h := e2
        clear _h
        by_cases e3 : t = 0
        · subst e3
          have HD : Hid (opB (ops.take n) ⟨3, x, y, k, 0⟩ size = true) := show _ = _ by rw [EQ]; simp [e0, e1, e2]
          clear EQ
          go_enter Tryd.func35, Tryd.ntmps35
          go_wp2_with fail
          refine (l6Val ops B _ x n _ H.out HN.out).mono ?_
          rintro e u0 ⟨rfl, rfl⟩
          rw [e0]
          go_wp2_with fail
          refine (l6Val ops B _ y n _ H.out HN.out).mono ?_
          rintro e u1 ⟨rfl, rfl⟩
          rw [e1]
          go_wp2_with fail
          refine (l1In k 1 5 _).mono ?_
          rintro e u2 ⟨rfl, rfl⟩
          rw [e2]
          go_wp2
          go_ret
          exact ret_boolw HD.out.symm BW.out
        · have f3 : (t == 0) = false := beq_eq_false_iff_ne.2 e3
          have HD : Hid (opB (ops.take n) ⟨3, x, y, k, t⟩ size = false) := show _ = _ by rw [EQ]; simp [e0, e1, e2, e3]
          clear EQ e3
          go_enter Tryd.func35, Tryd.ntmps35
          go_wp2_with fail
          refine (l6Val ops B _ x n _ H.out HN.out).mono ?_
          rintro e u0 ⟨rfl, rfl⟩
          rw [e0]
          go_wp2_with fail
          refine (l6Val ops B _ y n _ H.out HN.out).mono ?_
          rintro e u1 ⟨rfl, rfl⟩
          rw [e1]
          go_wp2_with fail
          refine (l1In k 1 5 _).mono ?_
          rintro e u2 ⟨rfl, rfl⟩
          rw [e2]
          go_wp2
          go_ret
          exact ret_boolw HD.out.symm BW.out
      · rw [Bool.not_eq_true] at e2
        have HD : Hid (opB (ops.take n) ⟨3, x, y, k, t⟩ size = false) := show _ = _ by rw [EQ]; simp [e0, e1, e2]
        clear EQ
        go_enter Tryd.func35, Tryd.ntmps35
        go_wp2_with fail
        refine (l6Val ops B _ x n _ H.out HN.out).mono ?_
        rintro e u0 ⟨rfl, rfl⟩
        rw [e0]
        go_wp2_with fail
        refine (l6Val ops B _ y n _ H.out HN.out).mono ?_
        rintro e u1 ⟨rfl, rfl⟩
        rw [e1]
        go_wp2_with fail
        refine (l1In k 1 5 _).mono ?_
        rintro e u2 ⟨rfl, rfl⟩
        rw [e2]
        go_wp2
        go_ret
        exact ret_boolw HD.out.symm BW.out
    · rw [Bool.not_eq_true] at e1
      have HD : Hid (opB (ops.take n) ⟨3, x, y, k, t⟩ size = false) := show _ = _ by rw [EQ]; simp [e0, e1]
      clear EQ
      go_enter Tryd.func35, Tryd.ntmps35
      go_wp2_with fail
      refine (l6Val ops B _ x n _ H.out HN.out).mono ?_
      rintro e u0 ⟨rfl, rfl⟩
      rw [e0]
      go_wp2_with fail
      refine (l6Val ops B _ y n _ H.out HN.out).mono ?_
      rintro e u1 ⟨rfl, rfl⟩
      rw [e1]
      go_wp2
      go_ret
      exact ret_boolw HD.out.symm BW.out
  · rw [Bool.not_eq_true] at e0
    have HD : Hid (opB (ops.take n) ⟨3, x, y, k, t⟩ size = false) := show _ = _ by rw [EQ]; simp [e0]
    clear EQ
    go_enter Tryd.func35, Tryd.ntmps35
    go_wp2_with fail
    refine (l6Val ops B _ x n _ H.out HN.out).mono ?_
    rintro e u0 ⟨rfl, rfl⟩
    rw [e0]
    go_wp2
    go_ret
    exact ret_boolw HD.out.symm BW.out
set_option maxRecDepth 8000 in
set_option maxHeartbeats 4000000 in
theorem l6Op_4 (ops : List Opn) (B : Nat) (v : Value) (n : Nat) (x y k t size : Int) (w : World) (h : ORow w B v ops) (ho : ops[n]? = some ⟨4, x, y, k, t⟩) (s1 : 1 ≤ size) (s8 : size ≤ 8) :
    Calls Tryd.prog 35 #[v, .int .i64 n, .int .i64 size] w fun e w' => e = .returned (.bool (opB (ops.take n) ⟨4, x, y, k, t⟩ size)) ∧ Below w.heap.size w w' := by
  have hn : n < ops.length := (List.getElem?_eq_some_iff.1 ho).1
  have HN : Hid (n ≤ ops.length) := Nat.le_of_lt hn
  have EQ : opB (ops.take n) ⟨4, x, y, k, t⟩ size = (valB (ops.take n) x && decide (y = 0) && decide (k = 0) && inI t 0 (size - 1)) := by simp [opB]
  have BW : Below w.heap.size w (w.alloc (.cells #[.int .i64 4, .int .i64 x, .int .i64 y, .int .i64 k, .int .i64 t] 51)) := (Below.refl _ _).alloc (Nat.le_refl _) _
  have H := hide (h.below BW)
  replace BW := hide BW
  obtain ⟨a, cap, off, rfl, h2, h3, hz, h4⟩ := h
  unfold maxLen at h3
  clear hz
  obtain ⟨rfl, hc⟩ := h4.resolve_left (fun e => by rw [e] at ho; simp at ho)
  obtain ⟨c0, c1, c2, c3, c4⟩ := hc n _ ho
  simp only [] at c0 c1 c2 c3 c4
  have lk : ((n : Nat) : Int) < (ops.length : Nat) := by omega
  clear hc h4 ho
  by_cases e0 : valB (ops.take n) x = true
  · have _h := e0
    clear _h
    by_cases e1 : y = 0
    · subst e1
      by_cases e2 : k = 0
      · subst e2
        by_cases e3 : inI t 0 (size - 1) = true
        · have _h := e3
          clear _h
          have HD : Hid (opB (ops.take n) ⟨4, x, 0, 0, t⟩ size = true) := show _ = _ by rw [EQ]; simp [e0, e3]
          clear EQ
          go_enter Tryd.func35, Tryd.ntmps35
          go_wp2_with fail
          refine (l6Val ops B _ x n _ H.out HN.out).mono ?_
          rintro e u0 ⟨rfl, rfl⟩
          rw [e0]
          go_wp2_with fail
          refine (l1In t 0 (size - 1) _).mono ?_
          rintro e u3 ⟨rfl, rfl⟩
          rw [e3]
          go_wp2
          go_ret
          exact ret_boolw HD.out.symm BW.out
        · rw [Bool.not_eq_true] at e3
          have HD : Hid (opB (ops.take n) ⟨4, x, 0, 0, t⟩ size = false) := show _ = _ by rw [EQ]; simp [e0, e3]
          clear EQ
          go_enter Tryd.func35, Tryd.ntmps35
          go_wp2_with fail
          refine (l6Val ops B _ x n _ H.out HN.out).mono ?_
          rintro e u0 ⟨rfl, rfl⟩
          rw [e0]
          go_wp2_with fail
          refine (l1In t 0 (size - 1) _).mono ?_
          rintro e u3 ⟨rfl, rfl⟩
          rw [e3]
          go_wp2
          go_ret
          exact ret_boolw HD.out.symm BW.out
      · have f2 : (k == 0) = false := beq_eq_false_iff_ne.2 e2
        have HD : Hid (opB (ops.take n) ⟨4, x, 0, k, t⟩ size = false) := show _ = _ by rw [EQ]; simp [e0, e2]
        clear EQ e2
        go_enter Tryd.func35, Tryd.ntmps35
        go_wp2_with fail
        refine (l6Val ops B _ x n _ H.out HN.out).mono ?_
        rintro e u0 ⟨rfl, rfl⟩
        rw [e0]
        go_wp2
        go_ret
        exact ret_boolw HD.out.symm BW.out
    · have f1 : (y == 0) = false := beq_eq_false_iff_ne.2 e1
      have HD : Hid (opB (ops.take n) ⟨4, x, y, k, t⟩ size = false) := show _ = _ by rw [EQ]; simp [e0, e1]
      clear EQ e1
      go_enter Tryd.func35, Tryd.ntmps35
      go_wp2_with fail
      refine (l6Val ops B _ x n _ H.out HN.out).mono ?_
      rintro e u0 ⟨rfl, rfl⟩
      rw [e0]
      go_wp2
      go_ret
      exact ret_boolw HD.out.symm BW.out
  · rw [Bool.not_eq_true] at e0
    have HD : Hid (opB (ops.take n) ⟨4, x, y, k, t⟩ size = false) := show _ = _ by rw [EQ]; simp [e0]
    clear EQ
    go_enter Tryd.func35, Tryd.ntmps35
    go_wp2_with fail
    refine (l6Val ops B _ x n _ H.out HN.out).mono ?_
    rintro e u0 ⟨rfl, rfl⟩
    rw [e0]
    go_wp2
    go_ret
    exact ret_boolw HD.out.symm BW.out
set_option maxRecDepth 8000 in
set_option maxHeartbeats 4000000 in
theorem l6Op_7 (ops : List Opn) (B : Nat) (v : Value) (n : Nat) (x y k t size : Int) (w : World) (h : ORow w B v ops) (ho : ops[n]? = some ⟨7, x, y, k, t⟩) (s1 : 1 ≤ size) (s8 : size ≤ 8) :
    Calls Tryd.prog 35 #[v, .int .i64 n, .int .i64 size] w fun e w' => e = .returned (.bool (opB (ops.take n) ⟨7, x, y, k, t⟩ size)) ∧ Below w.heap.size w w' := by
  have hn : n < ops.length := (List.getElem?_eq_some_iff.1 ho).1
  have HN : Hid (n ≤ ops.length) := Nat.le_of_lt hn
  have EQ : opB (ops.take n) ⟨7, x, y, k, t⟩ size = (valB (ops.take n) x && decide (y = 0) && decide (k = 0) && inI t 0 (size - 1)) := by simp [opB]
  have BW : Below w.heap.size w (w.alloc (.cells #[.int .i64 7, .int .i64 x, .int .i64 y, .int .i64 k, .int .i64 t] 51)) := (Below.refl _ _).alloc (Nat.le_refl _) _
  have H := hide (h.below BW)
  replace BW := hide BW
  obtain ⟨a, cap, off, rfl, h2, h3, hz, h4⟩ := h
  unfold maxLen at h3
  clear hz
  obtain ⟨rfl, hc⟩ := h4.resolve_left (fun e => by rw [e] at ho; simp at ho)
  obtain ⟨c0, c1, c2, c3, c4⟩ := hc n _ ho
  simp only [] at c0 c1 c2 c3 c4
  have lk : ((n : Nat) : Int) < (ops.length : Nat) := by omega
  clear hc h4 ho
  by_cases e0 : valB (ops.take n) x = true
  · have _h := e0
    clear _h
    by_cases e1 : y = 0
    · subst e1
      by_cases e2 : k = 0
      · subst e2
        by_cases e3 : inI t 0 (size - 1) = true
        · have _h := e3
          clear _h
          have HD : Hid (opB (ops.take n) ⟨7, x, 0, 0, t⟩ size = true) := show _ = _ by rw [EQ]; simp [e0, e3]
          clear EQ
          go_enter Tryd.func35, Tryd.ntmps35
          go_wp2_with fail
          refine (l6Val ops B _ x n _ H.out HN.out).mono ?_
          rintro e u0 ⟨rfl, rfl⟩
          rw [e0]
          go_wp2_with fail
          refine (l1In t 0 (size - 1) _).mono ?_
          rintro e u3 ⟨rfl, rfl⟩
          rw [e3]
          go_wp2
          go_ret
          exact ret_boolw HD.out.symm BW.out
        · rw [Bool.not_eq_true] at e3
          have HD : Hid (opB (ops.take n) ⟨7, x, 0, 0, t⟩ size = false) := show _ = _ by rw [EQ]; simp [e0, e3]
          clear EQ
          go_enter Tryd.func35, Tryd.ntmps35
          go_wp2_with fail
          refine (l6Val ops B _ x n _ H.out HN.out).mono ?_
          rintro e u0 ⟨rfl, rfl⟩
          rw [e0]
          go_wp2_with fail
          refine (l1In t 0 (size - 1) _).mono ?_
          rintro e u3 ⟨rfl, rfl⟩
          rw [e3]
          go_wp2
          go_ret
          exact ret_boolw HD.out.symm BW.out
      · have f2 : (k == 0) = false := beq_eq_false_iff_ne.2 e2
        have HD : Hid (opB (ops.take n) ⟨7, x, 0, k, t⟩ size = false) := show _ = _ by rw [EQ]; simp [e0, e2]
        clear EQ e2
        go_enter Tryd.func35, Tryd.ntmps35
        go_wp2_with fail
        refine (l6Val ops B _ x n _ H.out HN.out).mono ?_
        rintro e u0 ⟨rfl, rfl⟩
        rw [e0]
        go_wp2
        go_ret
        exact ret_boolw HD.out.symm BW.out
    · have f1 : (y == 0) = false := beq_eq_false_iff_ne.2 e1
      have HD : Hid (opB (ops.take n) ⟨7, x, y, k, t⟩ size = false) := show _ = _ by rw [EQ]; simp [e0, e1]
      clear EQ e1
      go_enter Tryd.func35, Tryd.ntmps35
      go_wp2_with fail
      refine (l6Val ops B _ x n _ H.out HN.out).mono ?_
      rintro e u0 ⟨rfl, rfl⟩
      rw [e0]
      go_wp2
      go_ret
      exact ret_boolw HD.out.symm BW.out
  · rw [Bool.not_eq_true] at e0
    have HD : Hid (opB (ops.take n) ⟨7, x, y, k, t⟩ size = false) := show _ = _ by rw [EQ]; simp [e0]
    clear EQ
    go_enter Tryd.func35, Tryd.ntmps35
    go_wp2_with fail
    refine (l6Val ops B _ x n _ H.out HN.out).mono ?_
    rintro e u0 ⟨rfl, rfl⟩
    rw [e0]
    go_wp2
    go_ret
    exact ret_boolw HD.out.symm BW.out
set_option maxRecDepth 8000 in
set_option maxHeartbeats 4000000 in
theorem l6Op_5 (ops : List Opn) (B : Nat) (v : Value) (n : Nat) (x y k t size : Int) (w : World) (h : ORow w B v ops) (ho : ops[n]? = some ⟨5, x, y, k, t⟩) (s1 : 1 ≤ size) (s8 : size ≤ 8) :
    Calls Tryd.prog 35 #[v, .int .i64 n, .int .i64 size] w fun e w' => e = .returned (.bool (opB (ops.take n) ⟨5, x, y, k, t⟩ size)) ∧ Below w.heap.size w w' := by
  have hn : n < ops.length := (List.getElem?_eq_some_iff.1 ho).1
  have HN : Hid (n ≤ ops.length) := Nat.le_of_lt hn
  have EQ : opB (ops.take n) ⟨5, x, y, k, t⟩ size = (valB (ops.take n) x && valB (ops.take n) y && decide (k = 0) && inI t 0 (size - 1)) := by simp [opB]
  have BW : Below w.heap.size w (w.alloc (.cells #[.int .i64 5, .int .i64 x, .int .i64 y, .int .i64 k, .int .i64 t] 51)) := (Below.refl _ _).alloc (Nat.le_refl _) _
  have H := hide (h.below BW)
  replace BW := hide BW
  obtain ⟨a, cap, off, rfl, h2, h3, hz, h4⟩ := h
  unfold maxLen at h3
  clear hz
  obtain ⟨rfl, hc⟩ := h4.resolve_left (fun e => by rw [e] at ho; simp at ho)
  obtain ⟨c0, c1, c2, c3, c4⟩ := hc n _ ho
  simp only [] at c0 c1 c2 c3 c4
  have lk : ((n : Nat) : Int) < (ops.length : Nat) := by omega
  clear hc h4 ho
  by_cases e0 : valB (ops.take n) x = true
  · have _h := e0
    clear _h
    by_cases e1 : valB (ops.take n) y = true
    · have _h := e1
      clear _h
      by_cases e2 : k = 0
      · subst e2
        by_cases e3 : inI t 0 (size - 1) = true
        · have _h := e3
          clear _h
          have HD : Hid (opB (ops.take n) ⟨5, x, y, 0, t⟩ size = true) := show _ = _ by rw [EQ]; simp [e0, e1, e3]
          clear EQ
          go_enter Tryd.func35, Tryd.ntmps35
          go_wp2_with fail
          refine (l6Val ops B _ x n _ H.out HN.out).mono ?_
          rintro e u0 ⟨rfl, rfl⟩
          rw [e0]
          go_wp2_with fail
          refine (l6Val ops B _ y n _ H.out HN.out).mono ?_
          rintro e u1 ⟨rfl, rfl⟩
          rw [e1]
          go_wp2_with fail
          refine (l1In t 0 (size - 1) _).mono ?_
          rintro e u3 ⟨rfl, rfl⟩
          rw [e3]
          go_wp2
          go_ret
          exact ret_boolw HD.out.symm BW.out
        · rw [Bool.not_eq_true] at e3
          have HD : Hid (opB (ops.take n) ⟨5, x, y, 0, t⟩ size = false) := show _ = _ by rw [EQ]; simp [e0, e1, e3]
          clear EQ
          go_enter Tryd.func35, Tryd.ntmps35
          go_wp2_with fail
          refine (l6Val ops B _ x n _ H.out HN.out).mono ?_
          rintro e u0 ⟨rfl, rfl⟩
          rw [e0]
          go_wp2_with fail
          refine (l6Val ops B _ y n _ H.out HN.out).mono ?_
          rintro e u1 ⟨rfl, rfl⟩
          rw [e1]
          go_wp2_with fail
          refine (l1In t 0 (size - 1) _).mono ?_
          rintro e u3 ⟨rfl, rfl⟩
          rw [e3]
          go_wp2
          go_ret
          exact ret_boolw HD.out.symm BW.out
      · have f2 : (k == 0) = false := beq_eq_false_iff_ne.2 e2
        have HD : Hid (opB (ops.take n) ⟨5, x, y, k, t⟩ size = false) := show _ = _ by rw [EQ]; simp [e0, e1, e2]
        clear EQ e2
        go_enter Tryd.func35, Tryd.ntmps35
        go_wp2_with fail
        refine (l6Val ops B _ x n _ H.out HN.out).mono ?_
        rintro e u0 ⟨rfl, rfl⟩
        rw [e0]
        go_wp2_with fail
        refine (l6Val ops B _ y n _ H.out HN.out).mono ?_
        rintro e u1 ⟨rfl, rfl⟩
        rw [e1]
        go_wp2
        go_ret
        exact ret_boolw HD.out.symm BW.out
    · rw [Bool.not_eq_true] at e1
      have HD : Hid (opB (ops.take n) ⟨5, x, y, k, t⟩ size = false) := show _ = _ by rw [EQ]; simp [e0, e1]
      clear EQ
      go_enter Tryd.func35, Tryd.ntmps35
      go_wp2_with fail
      refine (l6Val ops B _ x n _ H.out HN.out).mono ?_
      rintro e u0 ⟨rfl, rfl⟩
      rw [e0]
      go_wp2_with fail
      refine (l6Val ops B _ y n _ H.out HN.out).mono ?_
      rintro e u1 ⟨rfl, rfl⟩
      rw [e1]
      go_wp2
      go_ret
      exact ret_boolw HD.out.symm BW.out
  · rw [Bool.not_eq_true] at e0
    have HD : Hid (opB (ops.take n) ⟨5, x, y, k, t⟩ size = false) := show _ = _ by rw [EQ]; simp [e0]
    clear EQ
    go_enter Tryd.func35, Tryd.ntmps35
    go_wp2_with fail
    refine (l6Val ops B _ x n _ H.out HN.out).mono ?_
    rintro e u0 ⟨rfl, rfl⟩
    rw [e0]
    go_wp2
    go_ret
    exact ret_boolw HD.out.symm BW.out
set_option maxRecDepth 8000 in
set_option maxHeartbeats 4000000 in
theorem l6Op_6 (ops : List Opn) (B : Nat) (v : Value) (n : Nat) (x y k t size : Int) (w : World) (h : ORow w B v ops) (ho : ops[n]? = some ⟨6, x, y, k, t⟩) (s1 : 1 ≤ size) (s8 : size ≤ 8) :
    Calls Tryd.prog 35 #[v, .int .i64 n, .int .i64 size] w fun e w' => e = .returned (.bool (opB (ops.take n) ⟨6, x, y, k, t⟩ size)) ∧ Below w.heap.size w w' := by
  have hn : n < ops.length := (List.getElem?_eq_some_iff.1 ho).1
  have HN : Hid (n ≤ ops.length) := Nat.le_of_lt hn
  have EQ : opB (ops.take n) ⟨6, x, y, k, t⟩ size = (decide (x = 0) && decide (y = 0) && decide (k = 0) && inI t 0 (size - 1)) := by simp [opB]
  have BW : Below w.heap.size w (w.alloc (.cells #[.int .i64 6, .int .i64 x, .int .i64 y, .int .i64 k, .int .i64 t] 51)) := (Below.refl _ _).alloc (Nat.le_refl _) _
  have H := hide (h.below BW)
  replace BW := hide BW
  obtain ⟨a, cap, off, rfl, h2, h3, hz, h4⟩ := h
  unfold maxLen at h3
  clear hz
  obtain ⟨rfl, hc⟩ := h4.resolve_left (fun e => by rw [e] at ho; simp at ho)
  obtain ⟨c0, c1, c2, c3, c4⟩ := hc n _ ho
  simp only [] at c0 c1 c2 c3 c4
  have lk : ((n : Nat) : Int) < (ops.length : Nat) := by omega
  clear hc h4 ho
  by_cases e0 : x = 0
  · subst e0
    by_cases e1 : y = 0
    · subst e1
      by_cases e2 : k = 0
      · subst e2
        by_cases e3 : inI t 0 (size - 1) = true
        · have _h := e3
          clear _h
          have HD : Hid (opB (ops.take n) ⟨6, 0, 0, 0, t⟩ size = true) := show _ = _ by rw [EQ]; simp [e3]
          clear EQ
          go_enter Tryd.func35, Tryd.ntmps35
          go_wp2_with fail
          refine (l1In t 0 (size - 1) _).mono ?_
          rintro e u3 ⟨rfl, rfl⟩
          rw [e3]
          go_wp2
          go_ret
          exact ret_boolw HD.out.symm BW.out
        · rw [Bool.not_eq_true] at e3
          have HD : Hid (opB (ops.take n) ⟨6, 0, 0, 0, t⟩ size = false) := show _ = _ by rw [EQ]; simp [e3]
          clear EQ
          go_enter Tryd.func35, Tryd.ntmps35
          go_wp2_with fail
          refine (l1In t 0 (size - 1) _).mono ?_
          rintro e u3 ⟨rfl, rfl⟩
          rw [e3]
          go_wp2
          go_ret
          exact ret_boolw HD.out.symm BW.out
      · have f2 : (k == 0) = false := beq_eq_false_iff_ne.2 e2
        have HD : Hid (opB (ops.take n) ⟨6, 0, 0, k, t⟩ size = false) := show _ = _ by rw [EQ]; simp [e2]
        clear EQ e2
        go_enter Tryd.func35, Tryd.ntmps35
        go_wp2
        go_ret
        exact ret_boolw HD.out.symm BW.out
    · have f1 : (y == 0) = false := beq_eq_false_iff_ne.2 e1
      have HD : Hid (opB (ops.take n) ⟨6, 0, y, k, t⟩ size = false) := show _ = _ by rw [EQ]; simp [e1]
      clear EQ e1
      go_enter Tryd.func35, Tryd.ntmps35
      go_wp2
      go_ret
      exact ret_boolw HD.out.symm BW.out
  · have f0 : (x == 0) = false := beq_eq_false_iff_ne.2 e0
    have HD : Hid (opB (ops.take n) ⟨6, x, y, k, t⟩ size = false) := show _ = _ by rw [EQ]; simp [e0]
    clear EQ e0
    go_enter Tryd.func35, Tryd.ntmps35
    go_wp2
    go_ret
    exact ret_boolw HD.out.symm BW.out
set_option maxRecDepth 8000 in
set_option maxHeartbeats 4000000 in
theorem l6Op_8 (ops : List Opn) (B : Nat) (v : Value) (n : Nat) (x y k t size : Int) (w : World) (h : ORow w B v ops) (ho : ops[n]? = some ⟨8, x, y, k, t⟩) (s1 : 1 ≤ size) (s8 : size ≤ 8) :
    Calls Tryd.prog 35 #[v, .int .i64 n, .int .i64 size] w fun e w' => e = .returned (.bool (opB (ops.take n) ⟨8, x, y, k, t⟩ size)) ∧ Below w.heap.size w w' := by
  have hn : n < ops.length := (List.getElem?_eq_some_iff.1 ho).1
  have HN : Hid (n ≤ ops.length) := Nat.le_of_lt hn
  have EQ : opB (ops.take n) ⟨8, x, y, k, t⟩ size = (valB (ops.take n) x && decide (y = 0) && inI k 0 3 && decide (t = 0)) := by simp [opB]
  have BW : Below w.heap.size w (w.alloc (.cells #[.int .i64 8, .int .i64 x, .int .i64 y, .int .i64 k, .int .i64 t] 51)) := (Below.refl _ _).alloc (Nat.le_refl _) _
  have H := hide (h.below BW)
  replace BW := hide BW
  obtain ⟨a, cap, off, rfl, h2, h3, hz, h4⟩ := h
  unfold maxLen at h3
  clear hz
  obtain ⟨rfl, hc⟩ := h4.resolve_left (fun e => by rw [e] at ho; simp at ho)
  obtain ⟨c0, c1, c2, c3, c4⟩ := hc n _ ho
  simp only [] at c0 c1 c2 c3 c4
  have lk : ((n : Nat) : Int) < (ops.length : Nat) := by omega
  clear hc h4 ho
  by_cases e0 : valB (ops.take n) x = true
  · have _h := e0
    clear _h
    by_cases e1 : y = 0
    · subst e1
      by_cases e2 : inI k 0 3 = true
      · have _h := e2
        clear _h
        by_cases e3 : t = 0
        · subst e3
          have HD : Hid (opB (ops.take n) ⟨8, x, 0, k, 0⟩ size = true) := show _ = _ by rw [EQ]; simp [e0, e2]
          clear EQ
          go_enter Tryd.func35, Tryd.ntmps35
          go_wp2_with fail
          refine (l6Val ops B _ x n _ H.out HN.out).mono ?_
          rintro e u0 ⟨rfl, rfl⟩
          rw [e0]
          go_wp2_with fail
          refine (l1In k 0 3 _).mono ?_
          rintro e u2 ⟨rfl, rfl⟩
          rw [e2]
          go_wp2
          go_ret
          exact ret_boolw HD.out.symm BW.out
        · have f3 : (t == 0) = false := beq_eq_false_iff_ne.2 e3
          have HD : Hid (opB (ops.take n) ⟨8, x, 0, k, t⟩ size = false) := show _ = _ by rw [EQ]; simp [e0, e2, e3]
          clear EQ e3
          go_enter Tryd.func35, Tryd.ntmps35
          go_wp2_with fail
          refine (l6Val ops B _ x n _ H.out HN.out).mono ?_
          rintro e u0 ⟨rfl, rfl⟩
          rw [e0]
          go_wp2_with fail
          refine (l1In k 0 3 _).mono ?_
          rintro e u2 ⟨rfl, rfl⟩
          rw [e2]
          go_wp2
          go_ret
          exact ret_boolw HD.out.symm BW.out
      · rw [Bool.not_eq_true] at e2
        have HD : Hid (opB (ops.take n) ⟨8, x, 0, k, t⟩ size = false) := show _ = _ by rw [EQ]; simp [e0, e2]
        clear EQ
        go_enter Tryd.func35, Tryd.ntmps35
        go_wp2_with fail
        refine (l6Val ops B _ x n _ H.out HN.out).mono ?_
        rintro e u0 ⟨rfl, rfl⟩
        rw [e0]
        go_wp2_with fail
        refine (l1In k 0 3 _).mono ?_
        rintro e u2 ⟨rfl, rfl⟩
        rw [e2]
        go_wp2
        go_ret
        exact ret_boolw HD.out.symm BW.out
    · have f1 : (y == 0) = false := beq_eq_false_iff_ne.2 e1
      have HD : Hid (opB (ops.take n) ⟨8, x, y, k, t⟩ size = false) := show _ = _ by rw [EQ]; simp [e0, e1]
      clear EQ e1
      go_enter Tryd.func35, Tryd.ntmps35
      go_wp2_with fail
      refine (l6Val ops B _ x n _ H.out HN.out).mono ?_
      rintro e u0 ⟨rfl, rfl⟩
      rw [e0]
      go_wp2
      go_ret
      exact ret_boolw HD.out.symm BW.out
  · rw [Bool.not_eq_true] at e0
    have HD : Hid (opB (ops.take n) ⟨8, x, y, k, t⟩ size = false) := show _ = _ by rw [EQ]; simp [e0]
    clear EQ
    go_enter Tryd.func35, Tryd.ntmps35
    go_wp2_with fail
    refine (l6Val ops B _ x n _ H.out HN.out).mono ?_
    rintro e u0 ⟨rfl, rfl⟩
    rw [e0]
    go_wp2
    go_ret
    exact ret_boolw HD.out.symm BW.out
set_option maxRecDepth 8000 in
set_option maxHeartbeats 4000000 in
theorem l6Op_none (ops : List Opn) (B : Nat) (v : Value) (n : Nat) (o : Opn) (size : Int) (w : World) (h : ORow w B v ops) (ho : ops[n]? = some o) (hk : o.kd < 1 ∨ 8 < o.kd) :
    Calls Tryd.prog 35 #[v, .int .i64 n, .int .i64 size] w fun e w' => e = .returned (.bool (opB (ops.take n) o size)) ∧ Below w.heap.size w w' := by
  have hn : n < ops.length := (List.getElem?_eq_some_iff.1 ho).1
  obtain ⟨kd, x, y, k, t⟩ := o
  simp only [] at hk
  have HD : Hid (opB (ops.take n) ⟨kd, x, y, k, t⟩ size = false) := show _ = _ by
    unfold opB
    simp only []
    rw [if_neg (by omega), if_neg (by omega), if_neg (by omega), if_neg (by omega), if_neg (by omega), if_neg (by omega), if_neg (by omega)]
  have BW : Hid (Below w.heap.size w (w.alloc (.cells #[.int .i64 kd, .int .i64 x, .int .i64 y, .int .i64 k, .int .i64 t] 51))) := (Below.refl _ _).alloc (Nat.le_refl _) _
  have g1 : (kd == 1) = false := beq_eq_false_iff_ne.2 (by omega)
  have g2 : (kd == 2) = false := beq_eq_false_iff_ne.2 (by omega)
  have g3 : (kd == 3) = false := beq_eq_false_iff_ne.2 (by omega)
  have g4 : (kd == 4) = false := beq_eq_false_iff_ne.2 (by omega)
  have g5 : (kd == 5) = false := beq_eq_false_iff_ne.2 (by omega)
  have g6 : (kd == 6) = false := beq_eq_false_iff_ne.2 (by omega)
  have g7 : (kd == 7) = false := beq_eq_false_iff_ne.2 (by omega)
  have g8 : (kd == 8) = false := beq_eq_false_iff_ne.2 (by omega)
  obtain ⟨a, cap, off, rfl, h2, h3, hz, h4⟩ := h
  unfold maxLen at h3
  clear hz
  obtain ⟨rfl, hc⟩ := h4.resolve_left (fun e => by rw [e] at ho; simp at ho)
  obtain ⟨c0, c1, c2, c3, c4⟩ := hc n _ ho
  simp only [] at c0 c1 c2 c3 c4
  have lk : ((n : Nat) : Int) < (ops.length : Nat) := by omega
  clear hc h4 ho hk
  go_enter Tryd.func35, Tryd.ntmps35
  go_wp2
  go_ret
  exact ret_boolw HD.out.symm BW.out
theorem l6Op (ops : List Opn) (B : Nat) (v : Value) (n : Nat) (o : Opn) (size : Int) (w : World) (h : ORow w B v ops) (ho : ops[n]? = some o) (s1 : 1 ≤ size) (s8 : size ≤ 8) :
    Calls Tryd.prog 35 #[v, .int .i64 n, .int .i64 size] w fun e w' => e = .returned (.bool (opB (ops.take n) o size)) ∧ Below w.heap.size w w' := by
  by_cases hk : o.kd < 1 ∨ 8 < o.kd
  · exact l6Op_none ops B v n o size w h ho hk
  · obtain ⟨kd, x, y, k, t⟩ := o
    simp only [] at hk
    have : kd = 1 ∨ kd = 2 ∨ kd = 3 ∨ kd = 4 ∨ kd = 5 ∨ kd = 6 ∨ kd = 7 ∨ kd = 8 := by omega
    rcases this with rfl | rfl | rfl | rfl | rfl | rfl | rfl | rfl
    · exact l6Op_1 ops B v n x y k t size w h ho s1 s8
    · exact l6Op_2 ops B v n x y k t size w h ho s1 s8
    · exact l6Op_3 ops B v n x y k t size w h ho s1 s8
    · exact l6Op_4 ops B v n x y k t size w h ho s1 s8
    · exact l6Op_5 ops B v n x y k t size w h ho s1 s8
    · exact l6Op_6 ops B v n x y k t size w h ho s1 s8
    · exact l6Op_7 ops B v n x y k t size w h ho s1 s8
    · exact l6Op_8 ops B v n x y k t size w h ho s1 s8
end Go.Proofs.YtkeelacobknfbaaDoor.Ir
