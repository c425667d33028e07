/-
  Which pieces of code are ok: the specification's l6End, IrOk.
-/
import Derived.Test.YtkeelacobknfbaaDoorIrK
namespace Go.Proofs.YtkeelacobknfbaaDoor.Ir
set_option linter.unusedVariables false
set_option linter.unusedSimpArgs false
open Go.ChangeShapes Go.WideShapes Go.ChangeAt Go.RowKit IntS Mch
set_option maxRecDepth 8000 in
set_option maxHeartbeats 4000000 in
theorem l6End_1 (ops : List Opn) (B : Nat) (a : Option Addr) (cap : Nat) (pc ln x y k : Int) (w : World) (h : ORow w B (.slice a ops.length cap) ops) :
    Calls Tryd.prog 36 #[.agg #[.int .i64 pc, .int .i64 ln, .slice a ops.length cap, .int .i64 1, .int .i64 x, .int .i64 y, .int .i64 k]] w fun e w' => e = .returned (.bool (endB ops 1 x y k)) ∧ Below w.heap.size w w' := by
  have EQ : endB ops 1 x y k = (decide (x = 0) && decide (y = 0) && inI k 0 65535) := by simp [endB]
  have VT : Hid (∀ q, valB (ops.take ops.length) q = valB ops q) := fun q => by rw [List.take_length]
  have BW : Below w.heap.size w (w.alloc (.cells #[.int .i64 pc, .int .i64 ln, .slice a ops.length cap, .int .i64 1, .int .i64 x, .int .i64 y, .int .i64 k] 25)) := (Below.refl _ _).alloc (Nat.le_refl _) _
  have H := hide (h.below BW)
  replace BW := hide BW
  have HN : Hid (ops.length ≤ ops.length) := Nat.le_refl _
  obtain ⟨_, _, _, e, h2, h3, _⟩ := h
  unfold maxLen at h3
  simp only [Value.slice.injEq] at e
  obtain ⟨-, -, rfl⟩ := e
  by_cases e0 : x = 0
  · subst e0
    by_cases e1 : y = 0
    · subst e1
      by_cases e2 : inI k 0 65535 = true
      · have _h := e2
        clear _h
        have HD : Hid (endB ops 1 0 0 k = true) := show _ = _ by rw [EQ]; simp [e2]
        clear EQ
        go_enter Tryd.func36, Tryd.ntmps36
        go_wp2_with fail
        refine (wrdOk k _).mono ?_
        rintro e u2 ⟨rfl, rfl⟩
        rw [e2]
        go_wp2
        go_ret
        exact ret_boolw HD.out.symm BW.out
      · rw [Bool.not_eq_true] at e2
        have HD : Hid (endB ops 1 0 0 k = false) := show _ = _ by rw [EQ]; simp [e2]
        clear EQ
        go_enter Tryd.func36, Tryd.ntmps36
        go_wp2_with fail
        refine (wrdOk k _).mono ?_
        rintro e u2 ⟨rfl, rfl⟩
        rw [e2]
        go_wp2
        go_ret
        exact ret_boolw HD.out.symm BW.out
    · have f1 : (y == 0) = false := beq_eq_false_iff_ne.2 e1
      have HD : Hid (endB ops 1 0 y k = false) := show _ = _ by rw [EQ]; simp [e1]
      clear EQ e1
      go_enter Tryd.func36, Tryd.ntmps36
      go_wp2
      go_ret
      exact ret_boolw HD.out.symm BW.out
  · have f0 : (x == 0) = false := beq_eq_false_iff_ne.2 e0
    have HD : Hid (endB ops 1 x y k = false) := show _ = _ by rw [EQ]; simp [e0]
    clear EQ e0
    go_enter Tryd.func36, Tryd.ntmps36
    go_wp2
    go_ret
    exact ret_boolw HD.out.symm BW.out
set_option maxRecDepth 8000 in
set_option maxHeartbeats 4000000 in
theorem l6End_2 (ops : List Opn) (B : Nat) (a : Option Addr) (cap : Nat) (pc ln x y k : Int) (w : World) (h : ORow w B (.slice a ops.length cap) ops) :
    Calls Tryd.prog 36 #[.agg #[.int .i64 pc, .int .i64 ln, .slice a ops.length cap, .int .i64 2, .int .i64 x, .int .i64 y, .int .i64 k]] w fun e w' => e = .returned (.bool (endB ops 2 x y k)) ∧ Below w.heap.size w w' := by
  have EQ : endB ops 2 x y k = (valB ops x && decide (y = 0) && decide (k = 0)) := by simp [endB]
  have VT : Hid (∀ q, valB (ops.take ops.length) q = valB ops q) := fun q => by rw [List.take_length]
  have BW : Below w.heap.size w (w.alloc (.cells #[.int .i64 pc, .int .i64 ln, .slice a ops.length cap, .int .i64 2, .int .i64 x, .int .i64 y, .int .i64 k] 25)) := (Below.refl _ _).alloc (Nat.le_refl _) _
  have H := hide (h.below BW)
  replace BW := hide BW
  have HN : Hid (ops.length ≤ ops.length) := Nat.le_refl _
  obtain ⟨_, _, _, e, h2, h3, _⟩ := h
  unfold maxLen at h3
  simp only [Value.slice.injEq] at e
  obtain ⟨-, -, rfl⟩ := e
  by_cases e0 : valB ops x = true
  · have _h := e0
    clear _h
    by_cases e1 : y = 0
    · subst e1
      by_cases e2 : k = 0
      · subst e2
        have HD : Hid (endB ops 2 x 0 0 = true) := show _ = _ by rw [EQ]; simp [e0]
        clear EQ
        go_enter Tryd.func36, Tryd.ntmps36
        go_wp2_with fail
        refine (l6Val ops B _ x ops.length _ H.out HN.out).mono ?_
        rintro e u0 ⟨rfl, rfl⟩
        rw [VT.out, e0]
        go_wp2
        go_ret
        exact ret_boolw HD.out.symm BW.out
      · have f2 : (k == 0) = false := beq_eq_false_iff_ne.2 e2
        have HD : Hid (endB ops 2 x 0 k = false) := show _ = _ by rw [EQ]; simp [e0, e2]
        clear EQ e2
        go_enter Tryd.func36, Tryd.ntmps36
        go_wp2_with fail
        refine (l6Val ops B _ x ops.length _ H.out HN.out).mono ?_
        rintro e u0 ⟨rfl, rfl⟩
        rw [VT.out, e0]
        go_wp2
        go_ret
        exact ret_boolw HD.out.symm BW.out
    · have f1 : (y == 0) = false := beq_eq_false_iff_ne.2 e1
      have HD : Hid (endB ops 2 x y k = false) := show _ = _ by rw [EQ]; simp [e0, e1]
      clear EQ e1
      go_enter Tryd.func36, Tryd.ntmps36
      go_wp2_with fail
      refine (l6Val ops B _ x ops.length _ H.out HN.out).mono ?_
      rintro e u0 ⟨rfl, rfl⟩
      rw [VT.out, e0]
      go_wp2
      go_ret
      exact ret_boolw HD.out.symm BW.out
  · rw [Bool.not_eq_true] at e0
    have HD : Hid (endB ops 2 x y k = false) := show _ = _ by rw [EQ]; simp [e0]
    clear EQ
    go_enter Tryd.func36, Tryd.ntmps36
    go_wp2_with fail
    refine (l6Val ops B _ x ops.length _ H.out HN.out).mono ?_
    rintro e u0 ⟨rfl, rfl⟩
    rw [VT.out, e0]
    go_wp2
    go_ret
    exact ret_boolw HD.out.symm BW.out
set_option maxRecDepth 8000 in
set_option maxHeartbeats 4000000 in
theorem l6End_3 (ops : List Opn) (B : Nat) (a : Option Addr) (cap : Nat) (pc ln x y k : Int) (w : World) (h : ORow w B (.slice a ops.length cap) ops) :
    Calls Tryd.prog 36 #[.agg #[.int .i64 pc, .int .i64 ln, .slice a ops.length cap, .int .i64 3, .int .i64 x, .int .i64 y, .int .i64 k]] w fun e w' => e = .returned (.bool (endB ops 3 x y k)) ∧ Below w.heap.size w w' := by
  have EQ : endB ops 3 x y k = (valB ops x && valB ops y && inI k 0 65535) := by simp [endB]
  have VT : Hid (∀ q, valB (ops.take ops.length) q = valB ops q) := fun q => by rw [List.take_length]
  have BW : Below w.heap.size w (w.alloc (.cells #[.int .i64 pc, .int .i64 ln, .slice a ops.length cap, .int .i64 3, .int .i64 x, .int .i64 y, .int .i64 k] 25)) := (Below.refl _ _).alloc (Nat.le_refl _) _
  have H := hide (h.below BW)
  replace BW := hide BW
  have HN : Hid (ops.length ≤ ops.length) := Nat.le_refl _
  obtain ⟨_, _, _, e, h2, h3, _⟩ := h
  unfold maxLen at h3
  simp only [Value.slice.injEq] at e
  obtain ⟨-, -, rfl⟩ := e
  by_cases e0 : valB ops x = true
  · have _h := e0
    clear _h
    by_cases e1 : valB ops y = true
    · have _h := e1
      clear _h
      by_cases e2 : inI k 0 65535 = true
      · have _h := e2
        clear _h
        have HD : Hid (endB ops 3 x y k = true) := show _ = _ by rw [EQ]; simp [e0, e1, e2]
        clear EQ
        go_enter Tryd.func36, Tryd.ntmps36
        go_wp2_with fail
        refine (l6Val ops B _ x ops.length _ H.out HN.out).mono ?_
        rintro e u0 ⟨rfl, rfl⟩
        rw [VT.out, e0]
        go_wp2_with fail
        refine (l6Val ops B _ y ops.length _ H.out HN.out).mono ?_
        rintro e u1 ⟨rfl, rfl⟩
        rw [VT.out, e1]
        go_wp2_with fail
        refine (wrdOk k _).mono ?_
        rintro e u2 ⟨rfl, rfl⟩
        rw [e2]
        go_wp2
        go_ret
        exact ret_boolw HD.out.symm BW.out
      · rw [Bool.not_eq_true] at e2
        have HD : Hid (endB ops 3 x y k = false) := show _ = _ by rw [EQ]; simp [e0, e1, e2]
        clear EQ
        go_enter Tryd.func36, Tryd.ntmps36
        go_wp2_with fail
        refine (l6Val ops B _ x ops.length _ H.out HN.out).mono ?_
        rintro e u0 ⟨rfl, rfl⟩
        rw [VT.out, e0]
        go_wp2_with fail
        refine (l6Val ops B _ y ops.length _ H.out HN.out).mono ?_
        rintro e u1 ⟨rfl, rfl⟩
        rw [VT.out, e1]
        go_wp2_with fail
        refine (wrdOk k _).mono ?_
        rintro e u2 ⟨rfl, rfl⟩
        rw [e2]
        go_wp2
        go_ret
        exact ret_boolw HD.out.symm BW.out
    · rw [Bool.not_eq_true] at e1
      have HD : Hid (endB ops 3 x y k = false) := show _ = _ by rw [EQ]; simp [e0, e1]
      clear EQ
      go_enter Tryd.func36, Tryd.ntmps36
      go_wp2_with fail
      refine (l6Val ops B _ x ops.length _ H.out HN.out).mono ?_
      rintro e u0 ⟨rfl, rfl⟩
      rw [VT.out, e0]
      go_wp2_with fail
      refine (l6Val ops B _ y ops.length _ H.out HN.out).mono ?_
      rintro e u1 ⟨rfl, rfl⟩
      rw [VT.out, e1]
      go_wp2
      go_ret
      exact ret_boolw HD.out.symm BW.out
  · rw [Bool.not_eq_true] at e0
    have HD : Hid (endB ops 3 x y k = false) := show _ = _ by rw [EQ]; simp [e0]
    clear EQ
    go_enter Tryd.func36, Tryd.ntmps36
    go_wp2_with fail
    refine (l6Val ops B _ x ops.length _ H.out HN.out).mono ?_
    rintro e u0 ⟨rfl, rfl⟩
    rw [VT.out, e0]
    go_wp2
    go_ret
    exact ret_boolw HD.out.symm BW.out
set_option maxRecDepth 8000 in
set_option maxHeartbeats 4000000 in
theorem l6End_4 (ops : List Opn) (B : Nat) (a : Option Addr) (cap : Nat) (pc ln x y k : Int) (w : World) (h : ORow w B (.slice a ops.length cap) ops) :
    Calls Tryd.prog 36 #[.agg #[.int .i64 pc, .int .i64 ln, .slice a ops.length cap, .int .i64 4, .int .i64 x, .int .i64 y, .int .i64 k]] w fun e w' => e = .returned (.bool (endB ops 4 x y k)) ∧ Below w.heap.size w w' := by
  have EQ : endB ops 4 x y k = (valB ops x && valB ops y && inI k 0 65535) := by simp [endB]
  have VT : Hid (∀ q, valB (ops.take ops.length) q = valB ops q) := fun q => by rw [List.take_length]
  have BW : Below w.heap.size w (w.alloc (.cells #[.int .i64 pc, .int .i64 ln, .slice a ops.length cap, .int .i64 4, .int .i64 x, .int .i64 y, .int .i64 k] 25)) := (Below.refl _ _).alloc (Nat.le_refl _) _
  have H := hide (h.below BW)
  replace BW := hide BW
  have HN : Hid (ops.length ≤ ops.length) := Nat.le_refl _
  obtain ⟨_, _, _, e, h2, h3, _⟩ := h
  unfold maxLen at h3
  simp only [Value.slice.injEq] at e
  obtain ⟨-, -, rfl⟩ := e
  by_cases e0 : valB ops x = true
  · have _h := e0
    clear _h
    by_cases e1 : valB ops y = true
    · have _h := e1
      clear _h
      by_cases e2 : inI k 0 65535 = true
      · have _h := e2
        clear _h
        have HD : Hid (endB ops 4 x y k = true) := show _ = _ by rw [EQ]; simp [e0, e1, e2]
        clear EQ
        go_enter Tryd.func36, Tryd.ntmps36
        go_wp2_with fail
        refine (l6Val ops B _ x ops.length _ H.out HN.out).mono ?_
        rintro e u0 ⟨rfl, rfl⟩
        rw [VT.out, e0]
        go_wp2_with fail
        refine (l6Val ops B _ y ops.length _ H.out HN.out).mono ?_
        rintro e u1 ⟨rfl, rfl⟩
        rw [VT.out, e1]
        go_wp2_with fail
        refine (wrdOk k _).mono ?_
        rintro e u2 ⟨rfl, rfl⟩
        rw [e2]
        go_wp2
        go_ret
        exact ret_boolw HD.out.symm BW.out
      · rw [Bool.not_eq_true] at e2
        have HD : Hid (endB ops 4 x y k = false) := show _ = _ by rw [EQ]; simp [e0, e1, e2]
        clear EQ
        go_enter Tryd.func36, Tryd.ntmps36
        go_wp2_with fail
        refine (l6Val ops B _ x ops.length _ H.out HN.out).mono ?_
        rintro e u0 ⟨rfl, rfl⟩
        rw [VT.out, e0]
        go_wp2_with fail
        refine (l6Val ops B _ y ops.length _ H.out HN.out).mono ?_
        rintro e u1 ⟨rfl, rfl⟩
        rw [VT.out, e1]
        go_wp2_with fail
        refine (wrdOk k _).mono ?_
        rintro e u2 ⟨rfl, rfl⟩
        rw [e2]
        go_wp2
        go_ret
        exact ret_boolw HD.out.symm BW.out
    · rw [Bool.not_eq_true] at e1
      have HD : Hid (endB ops 4 x y k = false) := show _ = _ by rw [EQ]; simp [e0, e1]
      clear EQ
      go_enter Tryd.func36, Tryd.ntmps36
      go_wp2_with fail
      refine (l6Val ops B _ x ops.length _ H.out HN.out).mono ?_
      rintro e u0 ⟨rfl, rfl⟩
      rw [VT.out, e0]
      go_wp2_with fail
      refine (l6Val ops B _ y ops.length _ H.out HN.out).mono ?_
      rintro e u1 ⟨rfl, rfl⟩
      rw [VT.out, e1]
      go_wp2
      go_ret
      exact ret_boolw HD.out.symm BW.out
  · rw [Bool.not_eq_true] at e0
    have HD : Hid (endB ops 4 x y k = false) := show _ = _ by rw [EQ]; simp [e0]
    clear EQ
    go_enter Tryd.func36, Tryd.ntmps36
    go_wp2_with fail
    refine (l6Val ops B _ x ops.length _ H.out HN.out).mono ?_
    rintro e u0 ⟨rfl, rfl⟩
    rw [VT.out, e0]
    go_wp2
    go_ret
    exact ret_boolw HD.out.symm BW.out
set_option maxRecDepth 8000 in
set_option maxHeartbeats 4000000 in
theorem l6End (ops : List Opn) (B : Nat) (a : Option Addr) (cap : Nat) (pc ln en x y k : Int) (w : World) (h : ORow w B (.slice a ops.length cap) ops) :
    Calls Tryd.prog 36 #[.agg #[.int .i64 pc, .int .i64 ln, .slice a ops.length cap, .int .i64 en, .int .i64 x, .int .i64 y, .int .i64 k]] w fun e w' => e = .returned (.bool (endB ops en x y k)) ∧ Below w.heap.size w w' := by
  by_cases hk : en < 1 ∨ 4 < en
  · have HD : Hid (endB ops en x y k = false) := show _ = _ by
      unfold endB
      rw [if_neg (by omega), if_neg (by omega), if_neg (by omega)]
    have BW : Hid (Below w.heap.size w (w.alloc (.cells #[.int .i64 pc, .int .i64 ln, .slice a ops.length cap, .int .i64 en, .int .i64 x, .int .i64 y, .int .i64 k] 25))) := (Below.refl _ _).alloc (Nat.le_refl _) _
    have g1 : (en == 1) = false := beq_eq_false_iff_ne.2 (by omega)
    have g2 : (en == 2) = false := beq_eq_false_iff_ne.2 (by omega)
    have g3 : (en == 3) = false := beq_eq_false_iff_ne.2 (by omega)
    have g4 : (en == 4) = false := beq_eq_false_iff_ne.2 (by omega)
    obtain ⟨_, _, _, e, h2, h3, _⟩ := h
    unfold maxLen at h3
    simp only [Value.slice.injEq] at e
    obtain ⟨-, -, rfl⟩ := e
    clear hk
    go_enter Tryd.func36, Tryd.ntmps36
    go_wp2
    go_ret
    exact ret_boolw HD.out.symm BW.out
  · have : en = 1 ∨ en = 2 ∨ en = 3 ∨ en = 4 := by omega
    rcases this with rfl | rfl | rfl | rfl
    · exact l6End_1 ops B a cap pc ln x y k w h
    · exact l6End_2 ops B a cap pc ln x y k w h
    · exact l6End_3 ops B a cap pc ln x y k w h
    · exact l6End_4 ops B a cap pc ln x y k w h
end Go.Proofs.YtkeelacobknfbaaDoor.Ir
