/-
  What the drawing functions of chapter 1 return: numbers, whatever the code's bytes are; nothing that was there is written.
-/
import Derived.Test.YtihkmcdnmffipaaDrawB
namespace Go.Proofs.Ytihkmcdnmffipaa.Draw
open Go.ChangeShapes Go.WideShapes Go.ChangeAt Go.RowKit
set_option maxHeartbeats 1000000 in
theorem drawDo (a : Option Addr) (len cap : Nat) (w : World) (hlc : len ≤ cap) (hm : cap ≤ maxLen) (hc : Code w a len) :
    Calls Try.prog 6 #[.slice a len cap] w fun e w' => ∃ r x y, e = .returned (.tuple #[.int .i64 r, .int .i64 x, .int .i64 y]) ∧ Below w.heap.size w w' := by
  go_enter Try.func6, Try.ntmps6
  go_wp2_with fail
  refine (openRd a len cap _ hlc hm hc).mono ?_
  rintro e w1 ⟨R, rfl, hR, h1, b1⟩
  clear hc hm
  go_wp2_with fail
  refine (wordOr R 0 12 _ h1 (by omega) (by omega) (by omega)).mono ?_
  rintro e w2 ⟨x, rfl, _, _, h2, k2⟩
  go_wp2_with fail
  refine (pick R 4 5 _ h2 (by omega)).mono ?_
  rintro e w3 ⟨z, rfl, z0, z1, _, h3, k3⟩
  clear z1
  by_cases ez : z = 0
  · subst ez
    go_wp2_with fail
    refine (pick R 5 7 _ h3 (by omega)).mono ?_
    rintro e w4 ⟨y, rfl, y0, _, _, h4, k4⟩
    go_wp2
    go_ret3
    exact ⟨y, x, x, rfl, b1.trans (((k2.trans k3).trans k4).below hR b1.size)⟩
  · have ez' : (z == 0) = false := beq_eq_false_iff_ne.2 ez
    go_wp2_with fail
    refine (pick R 5 7 _ h3 (by omega)).mono ?_
    rintro e w4 ⟨y, rfl, y0, _, _, h4, k4⟩
    go_wp2_with fail
    refine (wordOr R 6 12 _ h4 (by omega) (by omega) (by omega)).mono ?_
    rintro e w5 ⟨v, rfl, _, _, h5, k5⟩
    go_wp2
    go_ret3
    exact ⟨y, x, v, rfl, b1.trans ((((k2.trans k3).trans k4).trans k5).below hR b1.size)⟩
set_option maxHeartbeats 1000000 in
theorem drawWrap (a : Option Addr) (len cap : Nat) (w : World) (hlc : len ≤ cap) (hm : cap ≤ maxLen) (hc : Code w a len) :
    Calls Try.prog 7 #[.slice a len cap] w fun e w' => ∃ n, e = .returned (.int .i64 n) ∧ Below w.heap.size w w' := by
  go_enter Try.func7, Try.ntmps7
  go_wp2_with fail
  refine (openRd a len cap _ hlc hm hc).mono ?_
  rintro e w1 ⟨R, rfl, hR, h1, b1⟩
  go_wp2_with fail
  refine (wordOr R 0 3 _ h1 (by omega) (by omega) (by omega)).mono ?_
  rintro e w2 ⟨x, rfl, _, _, h2, k2⟩
  go_wp2_with fail
  refine (word R 4 _ h2 (by omega)).mono ?_
  rintro e w3 ⟨y, rfl, _, _, h3, k3⟩
  go_wp2_with fail
  refine (pick R 7 3 _ h3 (by omega)).mono ?_
  rintro e w4 ⟨z, rfl, _, _, _, h4, k4⟩
  go_wp2
  go_ret
  exact ⟨_, rfl, b1.trans ((((k2.trans k3).trans k4).below hR b1.size))⟩
end Go.Proofs.Ytihkmcdnmffipaa.Draw
