/-
  What is kept, pairs: how many marks they take, and what their laws need of them.
-/
import Derived.Test.YthlpndligadnjaaCaM
import Derived.Test.YthlpndligadnjaaDtCb
import Derived.Test.YthlpndligadnjaaDtCd
namespace Go.Proofs.Ythlpndligadnjaa.Dt
set_option linter.unusedVariables false
open Go.ChangeShapes Go.WideShapes Go.ChangeAt Go.RowKit IntS Pol Push Flat Irk
open Ir (Opn)
theorem sum_sub {β : Type} (f : β → Nat) {xs ys : List β} (h : xs.Sublist ys) : sum f xs ≤ sum f ys := by
  unfold sum
  induction h with
  | slnil => exact Nat.le_refl _
  | cons a _ ih => simp only [List.map_cons, List.sum_cons]; omega
  | cons_cons a _ ih => simp only [List.map_cons, List.sum_cons]; omega
theorem sum_app {β : Type} (f : β → Nat) (xs ys : List β) : sum f (xs ++ ys) = sum f xs + sum f ys := by unfold sum; rw [List.map_append, List.sum_append]
theorem sum_mul {β : Type} (f g : β → Nat) (c d : Nat) (h : ∀ x, f x ≤ c * g x + d) : ∀ xs : List β, sum f xs ≤ c * sum g xs + d * xs.length
  | [] => by simp [sum]
  | x :: r => by
    have h1 := h x
    have h2 := sum_mul f g c d h r
    unfold sum at h2 ⊢
    simp only [List.map_cons, List.sum_cons, List.length_cons]
    rw [Nat.mul_add, Nat.mul_add]
    omega
theorem cacR_nx1 (x : CT) : cacR.nx x ≤ 5 * cacR.sz x + 6 := by
  obtain ⟨x0, a1, a2, x3, a4, a5, a6, a7⟩ := x
  rw [cacR_nx, cacR_sz, ints_nx, ints_sz, show opsK.nx x3 = x3.length * 5 from rfl, show opsK.sz x3 = x3.length from rfl]
  omega
theorem cerR_nx1 (x : PT) : cerR.nx x ≤ 5 * cerR.sz x + 12 := by
  obtain ⟨a0, a1, x2, a3, a4, a5, a6, a7, a8, x9, a10, a11, a12, a13⟩ := x
  rw [cerR_nx, cerR_sz, show opsK.nx x2 = x2.length * 5 from rfl, show opsK.sz x2 = x2.length from rfl, show opsK.nx x9 = x9.length * 5 from rfl, show opsK.sz x9 = x9.length from rfl]
  omega
theorem cacK_nx (xs : List CT) (h : cacK.sz xs ≤ 1048576) : cacK.nx xs ≤ 20000000 := by
  have h1 : cacK.nx xs = sum cacR.nx xs := rfl
  have h2 : cacK.sz xs = xs.length + sum cacR.sz xs := rfl
  have h3 := sum_mul cacR.nx cacR.sz 5 6 cacR_nx1 xs
  omega
theorem cerK_nx (xs : List PT) (h : cerK.sz xs ≤ 1048576) : cerK.nx xs ≤ 20000000 := by
  have h1 : cerK.nx xs = sum cerR.nx xs := rfl
  have h2 : cerK.sz xs = xs.length + sum cerR.sz xs := rfl
  have h3 := sum_mul cerR.nx cerR.sz 5 12 cerR_nx1 xs
  omega
theorem cacR_nx2 (x0 : List Int) (a1 a2 : Int) (x3 : List Opn) (a4 a5 a6 a7 : Int) (h : cacR.sz (x0, a1, a2, x3, a4, a5, a6, a7) ≤ 1048576) : cacR.nx (x0, a1, a2, x3, a4, a5, a6, a7) ≤ 20000000 := by
  have := cacR_nx1 (x0, a1, a2, x3, a4, a5, a6, a7)
  omega
theorem cerR_nx2 (a0 a1 : Int) (x2 : List Opn) (a3 a4 a5 a6 a7 a8 : Int) (x9 : List Opn) (a10 a11 a12 a13 : Int) (h : cerR.sz (a0, a1, x2, a3, a4, a5, a6, a7, a8, x9, a10, a11, a12, a13) ≤ 1048576) : cerR.nx (a0, a1, x2, a3, a4, a5, a6, a7, a8, x9, a10, a11, a12, a13) ≤ 20000000 := by
  have := cerR_nx1 (a0, a1, x2, a3, a4, a5, a6, a7, a8, x9, a10, a11, a12, a13)
  omega
theorem putC_nx (xs : List CT) (e : CT) (h : cacK.sz xs ≤ 1048576) (h' : cacR.sz e ≤ 1048576) : cacK.nx (putC xs e) ≤ 100000000 := by
  have h1 := cacK_nx xs h
  have h2 := cacR_nx1 e
  have h3 : sum cacR.nx (putC xs e) ≤ sum cacR.nx (xs.filter (fun x => x.2.1 != e.2.1) ++ [e]) := sum_sub _ (List.drop_sublist _ _)
  rw [sum_app] at h3
  replace h3 : sum cacR.nx (putC xs e) ≤ sum cacR.nx xs + sum cacR.nx [e] := Nat.le_trans h3 (Nat.add_le_add_right (sum_sub _ List.filter_sublist) _)
  have h5 : cacK.nx xs = sum cacR.nx xs := rfl
  have h6 : cacK.nx (putC xs e) = sum cacR.nx (putC xs e) := rfl
  have h7 : sum cacR.nx [e] = cacR.nx e := by simp [sum]
  omega
theorem putP_nx (xs : List PT) (e : PT) (h : cerK.sz xs ≤ 1048576) (h' : cerR.sz e ≤ 1048576) : cerK.nx (putP xs e) ≤ 100000000 := by
  have h1 := cerK_nx xs h
  have h2 := cerR_nx1 e
  have h3 : sum cerR.nx (putP xs e) ≤ sum cerR.nx (xs ++ [e]) := sum_sub _ (List.drop_sublist _ _)
  rw [sum_app] at h3
  have h5 : cerK.nx xs = sum cerR.nx xs := rfl
  have h6 : cerK.nx (putP xs e) = sum cerR.nx (putP xs e) := rfl
  have h7 : sum cerR.nx [e] = cerR.nx e := by simp [sum]
  omega
theorem dropC_nx (xs : List CT) (mem : List Int) (h : cacK.sz xs ≤ 1048576) (h' : intsK.sz mem ≤ 1048576) : cacK.nx (dropC xs mem) ≤ 100000000 := by
  have h1 := cacK_nx xs h
  have h4 : sum cacR.nx (dropC xs mem) ≤ sum cacR.nx xs := sum_sub _ List.filter_sublist
  have h5 : cacK.nx xs = sum cacR.nx xs := rfl
  have h6 : cacK.nx (dropC xs mem) = sum cacR.nx (dropC xs mem) := rfl
  omega
theorem cacK_small {xs : List CT} (h : cacK.sz xs ≤ 1048576) : xs.length ≤ 2097152 := by
  have h2 : cacK.sz xs = xs.length + sum cacR.sz xs := rfl
  omega
theorem cerK_small {xs : List PT} (h : cerK.sz xs ≤ 1048576) : xs.length ≤ 2097152 := by
  have h2 : cerK.sz xs = xs.length + sum cerR.sz xs := rfl
  omega
theorem blkR_nx2 (a0 a1 : Int) (x2 : List Opn) (a3 a4 a5 a6 : Int) (h : blkR.sz (a0, a1, x2, a3, a4, a5, a6) ≤ 1048576) : blkR.nx (a0, a1, x2, a3, a4, a5, a6) ≤ 20000000 := by
  have h1 : blkR.nx (a0, a1, x2, a3, a4, a5, a6) = x2.length * 5 := rfl
  have h2 : blkR.sz (a0, a1, x2, a3, a4, a5, a6) = x2.length := rfl
  omega
theorem blk_opsr {w : World} {v : Value} {a0 a1 : Int} {x2 : List Opn} {a3 a4 a5 a6 : Int} (h : blkR.rd w [.int .i64 a0, .int .i64 a1, v, .int .i64 a3, .int .i64 a4, .int .i64 a5, .int .i64 a6] (a0, a1, x2, a3, a4, a5, a6)) : opsK.rd w v x2 := by
  obtain ⟨q2, c2, e, B, h1⟩ := blkR_rd h
  cases e
  exact ⟨B, h1⟩
theorem ints_nx2 (xs : List Int) (h : intsK.sz xs ≤ 1048576) : intsK.nx xs ≤ 20000000 := by
  rw [ints_sz] at h
  rw [ints_nx]
  omega
set_option maxRecDepth 8000 in
theorem cacR_wf {w : World} {cs : List Value} {x : CT} (h : Shape.Holds Try.prog w 10 34 cs) (hr : cacR.rd w cs x) : x.2.1 ≤ 9223372036854775807 := by
  obtain ⟨x0, a1, a2, x3, a4, a5, a6, a7⟩ := x
  obtain ⟨q0, c0, q3, c3, rfl, -, -⟩ := cacR_rd hr
  obtain ⟨hl, hf⟩ := Shape.holds_struct (n := 9) Try.underlying34 h
  have ec1 : Try.prog.cellsOf 32 = 7 := by kernel_rfl
  have ei : Try.prog.cellsOf 3 = 1 := by kernel_rfl
  have h1 := hf _ (List.mem_of_getElem? (i := 1) rfl)
  obtain ⟨hl2, hf2⟩ := Shape.holds_struct (n := 8) Try.underlying32 h1
  obtain ⟨y, e, hw⟩ := Shape.holds_int (n := 7) Try.underlying3 (hf2 _ (List.mem_of_getElem? (i := 0) rfl))
  simp [ec1, ei] at e
  subst e
  simp only [Lit.wf, Bool.and_eq_true, decide_eq_true_eq] at hw
  exact hw.2
set_option maxRecDepth 8000 in
theorem cacKb_hold {w : World} {cs : List Value} (h : Shape.Holds Try.prog w 11 22 cs) : ∃ v xs, cs = [v] ∧ LRd (bd cacR fun x => x.2.1 ≤ 9223372036854775807) w v xs :=
  list_hold (R := bd cacR fun x => x.2.1 ≤ 9223372036854775807) (n := 10) Try.underlying22 (by kernel_rfl) (by decide) h (fun ys hy => by
    obtain ⟨x0, a1, a2, x3, a4, a5, a6, a7, hq⟩ := cacR_hold hy
    exact ⟨_, hq, cacR_wf hy hq⟩)
theorem cacR_parts {x0 : List Int} {a1 a2 : Int} {x3 : List Opn} {a4 a5 a6 a7 : Int} (h : cacR.sz (x0, a1, a2, x3, a4, a5, a6, a7) ≤ 1048576) : x0.length ≤ 1048576 ∧ x3.length ≤ 1048576 := by
  rw [cacR_sz, ints_sz, show opsK.sz x3 = x3.length from rfl] at h
  omega
theorem cerR_parts {a0 a1 : Int} {x2 : List Opn} {a3 a4 a5 a6 a7 a8 : Int} {x9 : List Opn} {a10 a11 a12 a13 : Int} (h : cerR.sz (a0, a1, x2, a3, a4, a5, a6, a7, a8, x9, a10, a11, a12, a13) ≤ 1048576) : x2.length ≤ 1048576 ∧ x9.length ≤ 1048576 := by
  rw [cerR_sz, show opsK.sz x2 = x2.length from rfl, show opsK.sz x9 = x9.length from rfl] at h
  omega
theorem cacR_r0 {w : World} {v0 v3 : Value} {x0 : List Int} {a1 a2 : Int} {x3 : List Opn} {a4 a5 a6 a7 : Int} (h : cacR.rd w [v0, .int .i64 a1, .int .i64 a2, v3, .int .i64 a4, .int .i64 a5, .int .i64 a6, .int .i64 a7] (x0, a1, a2, x3, a4, a5, a6, a7)) : intsK.rd w v0 x0 := by
  obtain ⟨q0, c0, q3, c3, e, k0, k3⟩ := cacR_rd h
  cases e
  exact k0
theorem cacR_r3 {w : World} {v0 v3 : Value} {x0 : List Int} {a1 a2 : Int} {x3 : List Opn} {a4 a5 a6 a7 : Int} (h : cacR.rd w [v0, .int .i64 a1, .int .i64 a2, v3, .int .i64 a4, .int .i64 a5, .int .i64 a6, .int .i64 a7] (x0, a1, a2, x3, a4, a5, a6, a7)) : opsK.rd w v3 x3 := by
  obtain ⟨q0, c0, q3, c3, e, k0, k3⟩ := cacR_rd h
  cases e
  exact k3
theorem cerR_r2 {w : World} {v2 v9 : Value} {a0 a1 : Int} {x2 : List Opn} {a3 a4 a5 a6 a7 a8 : Int} {x9 : List Opn} {a10 a11 a12 a13 : Int} (h : cerR.rd w [.int .i64 a0, .int .i64 a1, v2, .int .i64 a3, .int .i64 a4, .int .i64 a5, .int .i64 a6, .int .i64 a7, .int .i64 a8, v9, .int .i64 a10, .int .i64 a11, .int .i64 a12, .int .i64 a13] (a0, a1, x2, a3, a4, a5, a6, a7, a8, x9, a10, a11, a12, a13)) : opsK.rd w v2 x2 := by
  obtain ⟨q0, c0, q3, c3, e, k0, k3⟩ := cerR_rd h
  cases e
  exact k0
theorem cerR_r9 {w : World} {v2 v9 : Value} {a0 a1 : Int} {x2 : List Opn} {a3 a4 a5 a6 a7 a8 : Int} {x9 : List Opn} {a10 a11 a12 a13 : Int} (h : cerR.rd w [.int .i64 a0, .int .i64 a1, v2, .int .i64 a3, .int .i64 a4, .int .i64 a5, .int .i64 a6, .int .i64 a7, .int .i64 a8, v9, .int .i64 a10, .int .i64 a11, .int .i64 a12, .int .i64 a13] (a0, a1, x2, a3, a4, a5, a6, a7, a8, x9, a10, a11, a12, a13)) : opsK.rd w v9 x9 := by
  obtain ⟨q0, c0, q3, c3, e, k0, k3⟩ := cerR_rd h
  cases e
  exact k3
end Go.Proofs.Ythlpndligadnjaa.Dt
