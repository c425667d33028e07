/-
  A word as a sum, an atom as a sum: the program's PolConst and PolAtom, and the specification's.
-/
import Derived.Test.YtckhfpaicnjknaaGreatJoE
namespace Go.Proofs.YtckhfpaicnjknaaGreat.Pol
open Go.ChangeShapes Go.WideShapes Go.ChangeAt Go.RowKit IntS
def constP (n : Int) : List Mono := if 1 ≤ n ∧ n ≤ 65535 then [(n, [])] else []
def atomP (k : Int) : List Mono := if 0 ≤ k ∧ k < 200 then [(1, [k])] else []
theorem WPoly.const {w : World} {lo hi G : Nat} {n : Int} (h0 : Rec G [.int .i64 n, .slice none 0 0] w) (h1 : lo ≤ G) (h2 : G < hi) : WPoly w lo hi (.slice (some ⟨G, 0, none⟩) 1 1) [(n, [])] := by
  refine ⟨some ⟨G, 0, none⟩, G, 1, fun _ => 0, fun _ => .slice none 0 0, rfl, Nat.le_refl _, by unfold maxLen; omega, (fun h => by cases h), Or.inr ⟨rfl, h1, h2, h0.lt⟩, fun i x hx => ?_, fun i j x y hij hx hy => ?_⟩
  · cases i with
    | zero =>
      obtain rfl := Option.some.inj hx
      exact ⟨h0.cell 0 _ rfl, h0.soft _, h0.cell 1 _ rfl, nil_row w _, Or.inl rfl⟩
    | succ i => simp at hx
  · cases j with
    | zero => omega
    | succ j => simp at hy
theorem WPoly.atom {w : World} {lo hi G H : Nat} {k : Int} (h0 : Rec G [.int .i64 1, .slice (some ⟨H, 0, none⟩) 1 1] w) (h3 : Rec H [.int .i64 k] w) (h1 : lo ≤ G) (h2 : G < hi) (h4 : lo ≤ H) (h5 : H < hi) (h6 : H ≠ G) : WPoly w lo hi (.slice (some ⟨G, 0, none⟩) 1 1) [(1, [k])] := by
  refine ⟨some ⟨G, 0, none⟩, G, 1, fun _ => H, fun _ => .slice (some ⟨H, 0, none⟩) 1 1, rfl, Nat.le_refl _, by unfold maxLen; omega, (fun h => by cases h), Or.inr ⟨rfl, h1, h2, h0.lt⟩, fun i x hx => ?_, fun i j x y hij hx hy => ?_⟩
  · cases i with
    | zero =>
      obtain rfl := Option.some.inj hx
      refine ⟨h0.cell 0 _ rfl, h0.soft _, h0.cell 1 _ rfl, ⟨some ⟨H, 0, none⟩, 1, 0, rfl, Nat.le_refl _, by unfold maxLen; omega, (fun h => by cases h), Or.inr ⟨rfl, h3.lt, fun i x hx => ?_⟩⟩, Or.inr ⟨h4, h5, h6⟩⟩
      rw [Nat.zero_add]
      refine ⟨h3.cell i _ ?_, h3.soft i⟩
      cases i with
      | zero => obtain rfl := Option.some.inj hx; rfl
      | succ i => simp at hx
    | succ i => simp at hx
  · cases j with
    | zero => omega
    | succ j => simp at hy
set_option maxRecDepth 8000 in
set_option maxHeartbeats 4000000 in
theorem implConst (n : Int) (w : World) :
    Calls Tryz.prog 24 #[.int .i64 n] w fun e w' => ∃ a l c, e = .returned (.agg #[.slice a l c]) ∧ WPoly w' w.heap.size w'.heap.size (.slice a l c) (constP n) ∧ Below w.heap.size w w' := by
  by_cases hc : 1 ≤ n ∧ n ≤ 65535
  case neg =>
    by_cases e0 : n = 0
    · subst e0
      have HP : Hid (constP 0 = []) := if_neg hc
      have Z := hide (Rec.new w [.slice none 0 0] 25)
      have BB := hide ((Below.refl w.heap.size w).alloc (Nat.le_refl _) (.cells #[.slice none 0 0] 25))
      clear hc
      go_enter Tryz.func24, Tryz.ntmps24
      go_wp2
      generalize w.alloc (.cells #[.slice none 0 0] 25) = V at Z BB ⊢
      have z0 := Z.out.cell 0 _ rfl
      exact bodyPost_ret (v := .agg #[.slice none 0 0]) (by simp [results, Tryz.results24, go_sem, z0]) rfl ⟨none, 0, 0, rfl, by rw [HP.out]; exact WPoly.nil _ _ _, BB.out⟩
    have e0' : (n == 0) = false := by simp [e0]
    have HP : Hid (constP n = []) := if_neg hc
    have HW : Hid (Wrd.wok n = false) := Wrd.wok_f (by omega)
    clear e0
    have Z := hide (Rec.new w [.slice none 0 0] 25)
    have BB := hide ((Below.refl w.heap.size w).alloc (Nat.le_refl _) (.cells #[.slice none 0 0] 25))
    clear hc
    go_enter Tryz.func24, Tryz.ntmps24
    go_wp2_with fail
    refine (Wrd.implOk n _).mono ?_
    rintro e u ⟨rfl, rfl⟩
    rw [HW.out]
    go_wp2
    generalize w.alloc (.cells #[.slice none 0 0] 25) = V at Z BB ⊢
    have z0 := Z.out.cell 0 _ rfl
    exact bodyPost_ret (v := .agg #[.slice none 0 0]) (by simp [results, Tryz.results24, go_sem, z0]) rfl ⟨none, 0, 0, rfl, by rw [HP.out]; exact WPoly.nil _ _ _, BB.out⟩
  have HP : Hid (constP n = [(n, [])]) := if_pos hc
  have HW : Hid (Wrd.wok n = true) := Wrd.wok_t (by omega) (by omega)
  have e0' : (n == 0) = false := by simp; omega
  clear hc
  go_enter Tryz.func24, Tryz.ntmps24
  go_wp2_with fail
  refine (Wrd.implOk n _).mono ?_
  rintro e u ⟨rfl, rfl⟩
  rw [HW.out]
  go_wp2
  have Z := (Rec.new w [.slice (some ⟨w.heap.size + 1, 0, none⟩) 1 1] 25).alloc (.cells #[.int .i64 n, .slice none 0 0] 55)
  have M := Rec.new (w.alloc (.cells #[.slice (some ⟨w.heap.size + 1, 0, none⟩) 1 1] 25)) [.int .i64 n, .slice none 0 0] 55
  rw [show (w.alloc (.cells #[.slice (some ⟨w.heap.size + 1, 0, none⟩) 1 1] 25)).heap.size = w.heap.size + 1 by simp] at M
  have BB := ((Below.refl w.heap.size w).alloc (Nat.le_refl _) (.cells #[.slice (some ⟨w.heap.size + 1, 0, none⟩) 1 1] 25)).alloc (by simp) (.cells #[.int .i64 n, .slice none 0 0] 55)
  generalize (w.alloc (.cells #[.slice (some ⟨w.heap.size + 1, 0, none⟩) 1 1] 25)).alloc (.cells #[.int .i64 n, .slice none 0 0] 55) = V at Z M BB ⊢
  have z0 := Z.cell 0 _ rfl
  exact bodyPost_ret (v := .agg #[.slice (some ⟨w.heap.size + 1, 0, none⟩) 1 1]) (by simp [results, Tryz.results24, go_sem, z0]) rfl ⟨_, 1, 1, rfl, by rw [HP.out]; exact WPoly.const M (by omega) M.lt, BB⟩
set_option maxRecDepth 8000 in
set_option maxHeartbeats 4000000 in
theorem specConst (n : Int) (w : World) :
    Calls Tryz.prog 49 #[.int .i64 n] w fun e w' => ∃ a l c, e = .returned (.agg #[.slice a l c]) ∧ WPoly w' w.heap.size w'.heap.size (.slice a l c) (constP n) ∧ Below w.heap.size w w' := by
  by_cases hc : 1 ≤ n ∧ n ≤ 65535
  case neg =>
    have HP : Hid (constP n = []) := if_neg hc
    have HW : Hid (inI n 1 65535 = false) := decide_eq_false hc
    have Z := hide (Rec.new w [.slice none 0 0] 25)
    have BB := hide ((Below.refl w.heap.size w).alloc (Nat.le_refl _) (.cells #[.slice none 0 0] 25))
    clear hc
    go_enter Tryz.func49, Tryz.ntmps49
    go_wp2_with fail
    refine (l1In n 1 65535 _).mono ?_
    rintro e u ⟨rfl, rfl⟩
    rw [HW.out]
    go_wp2
    generalize w.alloc (.cells #[.slice none 0 0] 25) = V at Z BB ⊢
    have z0 := Z.out.cell 0 _ rfl
    exact bodyPost_ret (v := .agg #[.slice none 0 0]) (by simp [results, Tryz.results49, go_sem, z0]) rfl ⟨none, 0, 0, rfl, by rw [HP.out]; exact WPoly.nil _ _ _, BB.out⟩
  have HP : Hid (constP n = [(n, [])]) := if_pos hc
  have HW : Hid (inI n 1 65535 = true) := decide_eq_true hc
  clear hc
  go_enter Tryz.func49, Tryz.ntmps49
  go_wp2_with fail
  refine (l1In n 1 65535 _).mono ?_
  rintro e u ⟨rfl, rfl⟩
  rw [HW.out]
  go_wp2
  have Z := (Rec.new w [.slice (some ⟨w.heap.size + 1, 0, none⟩) 1 1] 25).alloc (.cells #[.int .i64 n, .slice none 0 0] 55)
  have M := Rec.new (w.alloc (.cells #[.slice (some ⟨w.heap.size + 1, 0, none⟩) 1 1] 25)) [.int .i64 n, .slice none 0 0] 55
  rw [show (w.alloc (.cells #[.slice (some ⟨w.heap.size + 1, 0, none⟩) 1 1] 25)).heap.size = w.heap.size + 1 by simp] at M
  have BB := ((Below.refl w.heap.size w).alloc (Nat.le_refl _) (.cells #[.slice (some ⟨w.heap.size + 1, 0, none⟩) 1 1] 25)).alloc (by simp) (.cells #[.int .i64 n, .slice none 0 0] 55)
  generalize (w.alloc (.cells #[.slice (some ⟨w.heap.size + 1, 0, none⟩) 1 1] 25)).alloc (.cells #[.int .i64 n, .slice none 0 0] 55) = V at Z M BB ⊢
  have z0 := Z.cell 0 _ rfl
  exact bodyPost_ret (v := .agg #[.slice (some ⟨w.heap.size + 1, 0, none⟩) 1 1]) (by simp [results, Tryz.results49, go_sem, z0]) rfl ⟨_, 1, 1, rfl, by rw [HP.out]; exact WPoly.const M (by omega) M.lt, BB⟩
set_option maxRecDepth 8000 in
set_option maxHeartbeats 4000000 in
theorem specAtom (n : Int) (w : World) :
    Calls Tryz.prog 66 #[.int .i64 n] w fun e w' => ∃ a l c, e = .returned (.agg #[.slice a l c]) ∧ WPoly w' w.heap.size w'.heap.size (.slice a l c) (atomP n) ∧ Below w.heap.size w w' := by
  by_cases hc : 0 ≤ n ∧ n < 200
  case neg =>
    have HP : Hid (atomP n = []) := if_neg hc
    have HW : Hid (inI n 0 199 = false) := (in_atom n).trans (decide_eq_false hc)
    have Z := hide (Rec.new w [.slice none 0 0] 25)
    have BB := hide ((Below.refl w.heap.size w).alloc (Nat.le_refl _) (.cells #[.slice none 0 0] 25))
    clear hc
    go_enter Tryz.func66, Tryz.ntmps66
    go_wp2_with fail
    refine (l1In n 0 199 _).mono ?_
    rintro e u ⟨rfl, rfl⟩
    rw [HW.out]
    go_wp2
    generalize w.alloc (.cells #[.slice none 0 0] 25) = V at Z BB ⊢
    have z0 := Z.out.cell 0 _ rfl
    exact bodyPost_ret (v := .agg #[.slice none 0 0]) (by simp [results, Tryz.results66, go_sem, z0]) rfl ⟨none, 0, 0, rfl, by rw [HP.out]; exact WPoly.nil _ _ _, BB.out⟩
  have HP : Hid (atomP n = [(1, [n])]) := if_pos hc
  have HW : Hid (inI n 0 199 = true) := (in_atom n).trans (decide_eq_true hc)
  clear hc
  go_enter Tryz.func66, Tryz.ntmps66
  go_wp2_with fail
  refine (l1In n 0 199 _).mono ?_
  rintro e u ⟨rfl, rfl⟩
  rw [HW.out]
  go_wp2
  have T3 := Three.new w [.slice (some ⟨w.heap.size + 1 + 1, 0, none⟩) 1 1] [.int .i64 n] [.int .i64 1, .slice (some ⟨w.heap.size + 1, 0, none⟩) 1 1] 25 3 55
  simp only [List.toArray] at T3
  generalize ((w.alloc (.cells #[.slice (some ⟨w.heap.size + 1 + 1, 0, none⟩) 1 1] 25)).alloc (.cells #[.int .i64 n] 3)).alloc (.cells #[.int .i64 1, .slice (some ⟨w.heap.size + 1, 0, none⟩) 1 1] 55) = V at T3 ⊢
  have z0 := T3.a.cell 0 _ rfl
  exact bodyPost_ret (v := .agg #[.slice (some ⟨w.heap.size + 1 + 1, 0, none⟩) 1 1]) (by simp [results, Tryz.results66, go_sem, z0]) rfl ⟨_, 1, 1, rfl, by rw [HP.out]; exact WPoly.atom T3.o T3.z (by omega) T3.o.lt (by omega) T3.z.lt (by omega), T3.bw⟩
end Go.Proofs.YtckhfpaicnjknaaGreat.Pol
