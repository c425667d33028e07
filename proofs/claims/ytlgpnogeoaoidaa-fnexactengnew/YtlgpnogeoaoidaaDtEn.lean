/-
  Plain data: engines, by kinds.
-/
import Derived.Test.YtlgpnogeoaoidaaDtMc
import Derived.Test.YtlgpnogeoaoidaaDtCb
import Derived.Test.YtlgpnogeoaoidaaDtCd
namespace Go.Proofs.Ytlgpnogeoaoidaa.Dt
set_option linter.unusedVariables false
set_option linter.unusedSimpArgs false
open Go.ChangeShapes Go.WideShapes Go.ChangeAt Go.RowKit IntS Pol Flat Irk
open Ir (Opn Bk bv ORow WORow RBk WBk OpAt SoftAt)
def engR : Rw (List Int × Int × List Int × Int × Bool × Bool × Int × List Int × List Int × Int × List (List Int × Int × Int × List Opn × Int × Int × Int × Int) × List (Int × Int × List Opn × Int × Int × Int × Int × Int × Int × List Opn × Int × Int × Int × Int)) := sub intsK (keepi (sub intsK (keepi (keepb (keepb (keepi (sub intsK (sub intsK (keepi (sub cacK (last cerK)))))))))))
theorem engR_rd {w : World} {cs : List Value} {x0 : List Int} {a1 : Int} {x2 : List Int} {a3 : Int} {a4 : Bool} {a5 : Bool} {a6 : Int} {x7 : List Int} {x8 : List Int} {a9 : Int} {x10 : List (List Int × Int × Int × List Opn × Int × Int × Int × Int)} {x11 : List (Int × Int × List Opn × Int × Int × Int × Int × Int × Int × List Opn × Int × Int × Int × Int)} (h : engR.rd w cs (x0, a1, x2, a3, a4, a5, a6, x7, x8, a9, x10, x11)) : ∃ (q0 : Option Addr) (c0 : Nat) (q2 : Option Addr) (c2 : Nat) (q7 : Option Addr) (c7 : Nat) (q8 : Option Addr) (c8 : Nat) (q10 : Option Addr) (c10 : Nat) (q11 : Option Addr) (c11 : Nat), cs = [.slice q0 x0.length c0, .int .i64 a1, .slice q2 x2.length c2, .int .i64 a3, .bool a4, .bool a5, .int .i64 a6, .slice q7 x7.length c7, .slice q8 x8.length c8, .int .i64 a9, .slice q10 x10.length c10, .slice q11 x11.length c11] ∧ intsK.rd w (.slice q0 x0.length c0) x0 ∧ intsK.rd w (.slice q2 x2.length c2) x2 ∧ intsK.rd w (.slice q7 x7.length c7) x7 ∧ intsK.rd w (.slice q8 x8.length c8) x8 ∧ cacK.rd w (.slice q10 x10.length c10) x10 ∧ cerK.rd w (.slice q11 x11.length c11) x11 := by
  obtain ⟨v0, vs0, e0, k0, h0⟩ := h
  obtain ⟨vs1, e1, h1⟩ := h0
  obtain ⟨v2, vs2, e2, k2, h2⟩ := h1
  obtain ⟨vs3, e3, h3⟩ := h2
  obtain ⟨vs4, e4, h4⟩ := h3
  obtain ⟨vs5, e5, h5⟩ := h4
  obtain ⟨vs6, e6, h6⟩ := h5
  obtain ⟨v7, vs7, e7, k7, h7⟩ := h6
  obtain ⟨v8, vs8, e8, k8, h8⟩ := h7
  obtain ⟨vs9, e9, h9⟩ := h8
  obtain ⟨v10, vs10, e10, k10, h10⟩ := h9
  obtain ⟨v11, e11, k11⟩ := h10
  obtain ⟨q0, c0, f0, _, _⟩ := LRd.form k0
  subst f0
  obtain ⟨q2, c2, f2, _, _⟩ := LRd.form k2
  subst f2
  obtain ⟨q7, c7, f7, _, _⟩ := LRd.form k7
  subst f7
  obtain ⟨q8, c8, f8, _, _⟩ := LRd.form k8
  subst f8
  obtain ⟨q10, c10, f10, _, _⟩ := LRd.form k10
  subst f10
  obtain ⟨q11, c11, f11, _, _⟩ := LRd.form k11
  subst f11
  subst e11
  subst e10
  subst e9
  subst e8
  subst e7
  subst e6
  subst e5
  subst e4
  subst e3
  subst e2
  subst e1
  subst e0
  exact ⟨q0, c0, q2, c2, q7, c7, q8, c8, q10, c10, q11, c11, rfl, k0, k2, k7, k8, k10, k11⟩
theorem engR_mk {w : World} {x0 : List Int} {a1 : Int} {x2 : List Int} {a3 : Int} {a4 : Bool} {a5 : Bool} {a6 : Int} {x7 : List Int} {x8 : List Int} {a9 : Int} {x10 : List (List Int × Int × Int × List Opn × Int × Int × Int × Int)} {x11 : List (Int × Int × List Opn × Int × Int × Int × Int × Int × Int × List Opn × Int × Int × Int × Int)} {v0 : Value} (k0 : intsK.rd w v0 x0) {v2 : Value} (k2 : intsK.rd w v2 x2) {v7 : Value} (k7 : intsK.rd w v7 x7) {v8 : Value} (k8 : intsK.rd w v8 x8) {v10 : Value} (k10 : cacK.rd w v10 x10) {v11 : Value} (k11 : cerK.rd w v11 x11) : engR.rd w [v0, .int .i64 a1, v2, .int .i64 a3, .bool a4, .bool a5, .int .i64 a6, v7, v8, .int .i64 a9, v10, v11] (x0, a1, x2, a3, a4, a5, a6, x7, x8, a9, x10, x11) := ⟨_, _, rfl, k0, ⟨_, rfl, ⟨_, _, rfl, k2, ⟨_, rfl, ⟨_, rfl, ⟨_, rfl, ⟨_, rfl, ⟨_, _, rfl, k7, ⟨_, _, rfl, k8, ⟨_, rfl, ⟨_, _, rfl, k10, ⟨_, rfl, k11⟩⟩⟩⟩⟩⟩⟩⟩⟩⟩⟩⟩
theorem engR_own {w : World} {A : Nat → Prop} {cs : List Value} {x0 : List Int} {a1 : Int} {x2 : List Int} {a3 : Int} {a4 : Bool} {a5 : Bool} {a6 : Int} {x7 : List Int} {x8 : List Int} {a9 : Int} {x10 : List (List Int × Int × Int × List Opn × Int × Int × Int × Int)} {x11 : List (Int × Int × List Opn × Int × Int × Int × Int × Int × Int × List Opn × Int × Int × Int × Int)} (h : engR.ow w A cs (x0, a1, x2, a3, a4, a5, a6, x7, x8, a9, x10, x11)) : ∃ (q0 : Option Addr) (c0 : Nat) (q2 : Option Addr) (c2 : Nat) (q7 : Option Addr) (c7 : Nat) (q8 : Option Addr) (c8 : Nat) (q10 : Option Addr) (c10 : Nat) (q11 : Option Addr) (c11 : Nat) (A0 : Nat → Prop) (A2 : Nat → Prop) (A7 : Nat → Prop) (A8 : Nat → Prop) (A10 : Nat → Prop) (A11 : Nat → Prop), cs = [.slice q0 x0.length c0, .int .i64 a1, .slice q2 x2.length c2, .int .i64 a3, .bool a4, .bool a5, .int .i64 a6, .slice q7 x7.length c7, .slice q8 x8.length c8, .int .i64 a9, .slice q10 x10.length c10, .slice q11 x11.length c11] ∧ intsK.ow w A0 (.slice q0 x0.length c0) x0 ∧ intsK.ow w A2 (.slice q2 x2.length c2) x2 ∧ intsK.ow w A7 (.slice q7 x7.length c7) x7 ∧ intsK.ow w A8 (.slice q8 x8.length c8) x8 ∧ cacK.ow w A10 (.slice q10 x10.length c10) x10 ∧ cerK.ow w A11 (.slice q11 x11.length c11) x11 ∧ (∀ b, A0 b → A b) ∧ (∀ b, A2 b → A b) ∧ (∀ b, A7 b → A b) ∧ (∀ b, A8 b → A b) ∧ (∀ b, A10 b → A b) ∧ (∀ b, A11 b → A b) ∧ (∀ b, A0 b → A2 b → False) ∧ (∀ b, A0 b → A7 b → False) ∧ (∀ b, A0 b → A8 b → False) ∧ (∀ b, A0 b → A10 b → False) ∧ (∀ b, A0 b → A11 b → False) ∧ (∀ b, A2 b → A7 b → False) ∧ (∀ b, A2 b → A8 b → False) ∧ (∀ b, A2 b → A10 b → False) ∧ (∀ b, A2 b → A11 b → False) ∧ (∀ b, A7 b → A8 b → False) ∧ (∀ b, A7 b → A10 b → False) ∧ (∀ b, A7 b → A11 b → False) ∧ (∀ b, A8 b → A10 b → False) ∧ (∀ b, A8 b → A11 b → False) ∧ (∀ b, A10 b → A11 b → False) := by
  obtain ⟨v0, vs0, A0, B0, e0, s0, t0, d0, k0, h0⟩ := h
  obtain ⟨vs1, e1, h1⟩ := h0
  obtain ⟨v2, vs2, A2, B2, e2, s2, t2, d2, k2, h2⟩ := h1
  obtain ⟨vs3, e3, h3⟩ := h2
  obtain ⟨vs4, e4, h4⟩ := h3
  obtain ⟨vs5, e5, h5⟩ := h4
  obtain ⟨vs6, e6, h6⟩ := h5
  obtain ⟨v7, vs7, A7, B7, e7, s7, t7, d7, k7, h7⟩ := h6
  obtain ⟨v8, vs8, A8, B8, e8, s8, t8, d8, k8, h8⟩ := h7
  obtain ⟨vs9, e9, h9⟩ := h8
  obtain ⟨v10, vs10, A10, B10, e10, s10, t10, d10, k10, h10⟩ := h9
  obtain ⟨v11, e11, k11⟩ := h10
  obtain ⟨q0, c0, f0, _, _⟩ := LRd.form (intsK.od k0)
  subst f0
  obtain ⟨q2, c2, f2, _, _⟩ := LRd.form (intsK.od k2)
  subst f2
  obtain ⟨q7, c7, f7, _, _⟩ := LRd.form (intsK.od k7)
  subst f7
  obtain ⟨q8, c8, f8, _, _⟩ := LRd.form (intsK.od k8)
  subst f8
  obtain ⟨q10, c10, f10, _, _⟩ := LRd.form (cacK.od k10)
  subst f10
  obtain ⟨q11, c11, f11, _, _⟩ := LRd.form (cerK.od k11)
  subst f11
  subst e11
  subst e10
  subst e9
  subst e8
  subst e7
  subst e6
  subst e5
  subst e4
  subst e3
  subst e2
  subst e1
  subst e0
  exact ⟨q0, c0, q2, c2, q7, c7, q8, c8, q10, c10, q11, c11, A0, A2, A7, A8, A10, B10, rfl, k0, k2, k7, k8, k10, k11, (fun b hb => s0 b (hb)), (fun b hb => t0 b (s2 b (hb))), (fun b hb => t0 b (t2 b (s7 b (hb)))), (fun b hb => t0 b (t2 b (t7 b (s8 b (hb))))), (fun b hb => t0 b (t2 b (t7 b (t8 b (s10 b (hb)))))), (fun b hb => t0 b (t2 b (t7 b (t8 b (t10 b (hb)))))), (fun b h1 h2 => d0 b h1 (s2 b (h2))), (fun b h1 h2 => d0 b h1 (t2 b (s7 b (h2)))), (fun b h1 h2 => d0 b h1 (t2 b (t7 b (s8 b (h2))))), (fun b h1 h2 => d0 b h1 (t2 b (t7 b (t8 b (s10 b (h2)))))), (fun b h1 h2 => d0 b h1 (t2 b (t7 b (t8 b (t10 b (h2)))))), (fun b h1 h2 => d2 b h1 (s7 b (h2))), (fun b h1 h2 => d2 b h1 (t7 b (s8 b (h2)))), (fun b h1 h2 => d2 b h1 (t7 b (t8 b (s10 b (h2))))), (fun b h1 h2 => d2 b h1 (t7 b (t8 b (t10 b (h2))))), (fun b h1 h2 => d7 b h1 (s8 b (h2))), (fun b h1 h2 => d7 b h1 (t8 b (s10 b (h2)))), (fun b h1 h2 => d7 b h1 (t8 b (t10 b (h2)))), (fun b h1 h2 => d8 b h1 (s10 b (h2))), (fun b h1 h2 => d8 b h1 (t10 b (h2))), (fun b h1 h2 => d10 b h1 (h2))⟩
theorem engR_omk {w : World} {A : Nat → Prop} {x0 : List Int} {a1 : Int} {x2 : List Int} {a3 : Int} {a4 : Bool} {a5 : Bool} {a6 : Int} {x7 : List Int} {x8 : List Int} {a9 : Int} {x10 : List (List Int × Int × Int × List Opn × Int × Int × Int × Int)} {x11 : List (Int × Int × List Opn × Int × Int × Int × Int × Int × Int × List Opn × Int × Int × Int × Int)} {v0 : Value} {A0 : Nat → Prop} (k0 : intsK.ow w A0 v0 x0) {v2 : Value} {A2 : Nat → Prop} (k2 : intsK.ow w A2 v2 x2) {v7 : Value} {A7 : Nat → Prop} (k7 : intsK.ow w A7 v7 x7) {v8 : Value} {A8 : Nat → Prop} (k8 : intsK.ow w A8 v8 x8) {v10 : Value} {A10 : Nat → Prop} (k10 : cacK.ow w A10 v10 x10) {v11 : Value} {A11 : Nat → Prop} (k11 : cerK.ow w A11 v11 x11) (s0 : ∀ b, A0 b → A b) (s2 : ∀ b, A2 b → A b) (s7 : ∀ b, A7 b → A b) (s8 : ∀ b, A8 b → A b) (s10 : ∀ b, A10 b → A b) (s11 : ∀ b, A11 b → A b) (d0_2 : ∀ b, A0 b → A2 b → False) (d0_7 : ∀ b, A0 b → A7 b → False) (d0_8 : ∀ b, A0 b → A8 b → False) (d0_10 : ∀ b, A0 b → A10 b → False) (d0_11 : ∀ b, A0 b → A11 b → False) (d2_7 : ∀ b, A2 b → A7 b → False) (d2_8 : ∀ b, A2 b → A8 b → False) (d2_10 : ∀ b, A2 b → A10 b → False) (d2_11 : ∀ b, A2 b → A11 b → False) (d7_8 : ∀ b, A7 b → A8 b → False) (d7_10 : ∀ b, A7 b → A10 b → False) (d7_11 : ∀ b, A7 b → A11 b → False) (d8_10 : ∀ b, A8 b → A10 b → False) (d8_11 : ∀ b, A8 b → A11 b → False) (d10_11 : ∀ b, A10 b → A11 b → False) : engR.ow w A [v0, .int .i64 a1, v2, .int .i64 a3, .bool a4, .bool a5, .int .i64 a6, v7, v8, .int .i64 a9, v10, v11] (x0, a1, x2, a3, a4, a5, a6, x7, x8, a9, x10, x11) := ⟨_, _, A0, (fun b => A2 b ∨ A7 b ∨ A8 b ∨ A10 b ∨ A11 b), rfl, s0, (fun b hb => by
    rcases hb with hb | hb | hb | hb | hb
    · exact s2 b hb
    · exact s7 b hb
    · exact s8 b hb
    · exact s10 b hb
    · exact s11 b hb), (fun b h1 hb => by
    rcases hb with hb | hb | hb | hb | hb
    · exact d0_2 b h1 hb
    · exact d0_7 b h1 hb
    · exact d0_8 b h1 hb
    · exact d0_10 b h1 hb
    · exact d0_11 b h1 hb), k0, ⟨_, rfl, ⟨_, _, A2, (fun b => A7 b ∨ A8 b ∨ A10 b ∨ A11 b), rfl, (fun b hb => Or.inl hb), (fun b hb => Or.inr hb), (fun b h1 hb => by
    rcases hb with hb | hb | hb | hb
    · exact d2_7 b h1 hb
    · exact d2_8 b h1 hb
    · exact d2_10 b h1 hb
    · exact d2_11 b h1 hb), k2, ⟨_, rfl, ⟨_, rfl, ⟨_, rfl, ⟨_, rfl, ⟨_, _, A7, (fun b => A8 b ∨ A10 b ∨ A11 b), rfl, (fun b hb => Or.inl hb), (fun b hb => Or.inr hb), (fun b h1 hb => by
    rcases hb with hb | hb | hb
    · exact d7_8 b h1 hb
    · exact d7_10 b h1 hb
    · exact d7_11 b h1 hb), k7, ⟨_, _, A8, (fun b => A10 b ∨ A11 b), rfl, (fun b hb => Or.inl hb), (fun b hb => Or.inr hb), (fun b h1 hb => by
    rcases hb with hb | hb
    · exact d8_10 b h1 hb
    · exact d8_11 b h1 hb), k8, ⟨_, rfl, ⟨_, _, A10, A11, rfl, (fun b hb => Or.inl hb), (fun b hb => Or.inr hb), (fun b h1 hb => d10_11 b h1 hb), k10, ⟨_, rfl, k11⟩⟩⟩⟩⟩⟩⟩⟩⟩⟩⟩⟩
theorem machR_rd_mr {w : World} {x0 : List Int} {a1 : Int} {x2 : List Int} {a3 : Int} {a4 a5 : Bool} {a6 : Int} {x7 x8 : List Int} {a9 : Int} {q0 q2 q7 q8 : Option Addr} {c0 c2 c7 c8 : Nat} (k : Int)
    (h0 : intsK.rd w (.slice q0 x0.length c0) (intsK.mr k x0)) (h2 : intsK.rd w (.slice q2 x2.length c2) (intsK.mr (k + (intsK.nx x0 : Nat)) x2)) (h7 : intsK.rd w (.slice q7 x7.length c7) (intsK.mr (k + (intsK.nx x0 : Nat) + (intsK.nx x2 : Nat)) x7)) (h8 : intsK.rd w (.slice q8 x8.length c8) (intsK.mr (k + (intsK.nx x0 : Nat) + (intsK.nx x2 : Nat) + (intsK.nx x7 : Nat)) x8)) :
    machR.rd w [.slice q0 x0.length c0, .int .i64 a1, .slice q2 x2.length c2, .int .i64 a3, .bool a4, .bool a5, .int .i64 a6, .slice q7 x7.length c7, .slice q8 x8.length c8, .int .i64 a9] (machR.mr k (x0, a1, x2, a3, a4, a5, a6, x7, x8, a9)) := by
  rw [machR_mr]
  exact machR_mk h0 h2 h7 h8
theorem engR_sz {x0 : List Int} {a1 : Int} {x2 : List Int} {a3 : Int} {a4 : Bool} {a5 : Bool} {a6 : Int} {x7 : List Int} {x8 : List Int} {a9 : Int} {x10 : List (List Int × Int × Int × List Opn × Int × Int × Int × Int)} {x11 : List (Int × Int × List Opn × Int × Int × Int × Int × Int × Int × List Opn × Int × Int × Int × Int)} : engR.sz (x0, a1, x2, a3, a4, a5, a6, x7, x8, a9, x10, x11) = intsK.sz x0 + (intsK.sz x2 + (intsK.sz x7 + (intsK.sz x8 + (cacK.sz x10 + (cerK.sz x11))))) := rfl
theorem engR_szp {x0 : List Int} {a1 : Int} {x2 : List Int} {a3 : Int} {a4 : Bool} {a5 : Bool} {a6 : Int} {x7 : List Int} {x8 : List Int} {a9 : Int} {x10 : List (List Int × Int × Int × List Opn × Int × Int × Int × Int)} {x11 : List (Int × Int × List Opn × Int × Int × Int × Int × Int × Int × List Opn × Int × Int × Int × Int)} : engR.sz (x0, a1, x2, a3, a4, a5, a6, x7, x8, a9, x10, x11) = machR.sz (x0, a1, x2, a3, a4, a5, a6, x7, x8, a9) + (cacK.sz x10 + cerK.sz x11) := by
  rw [engR_sz, machR_sz]
  omega
theorem engR_nx {x0 : List Int} {a1 : Int} {x2 : List Int} {a3 : Int} {a4 : Bool} {a5 : Bool} {a6 : Int} {x7 : List Int} {x8 : List Int} {a9 : Int} {x10 : List (List Int × Int × Int × List Opn × Int × Int × Int × Int)} {x11 : List (Int × Int × List Opn × Int × Int × Int × Int × Int × Int × List Opn × Int × Int × Int × Int)} : engR.nx (x0, a1, x2, a3, a4, a5, a6, x7, x8, a9, x10, x11) = intsK.nx x0 + (intsK.nx x2 + (intsK.nx x7 + (intsK.nx x8 + (cacK.nx x10 + (cerK.nx x11))))) := rfl
theorem engR_nxp {x0 : List Int} {a1 : Int} {x2 : List Int} {a3 : Int} {a4 : Bool} {a5 : Bool} {a6 : Int} {x7 : List Int} {x8 : List Int} {a9 : Int} {x10 : List (List Int × Int × Int × List Opn × Int × Int × Int × Int)} {x11 : List (Int × Int × List Opn × Int × Int × Int × Int × Int × Int × List Opn × Int × Int × Int × Int)} : engR.nx (x0, a1, x2, a3, a4, a5, a6, x7, x8, a9, x10, x11) = machR.nx (x0, a1, x2, a3, a4, a5, a6, x7, x8, a9) + (cacK.nx x10 + cerK.nx x11) := by
  rw [engR_nx, machR_nx]
  omega
theorem engR_mr {x0 : List Int} {a1 : Int} {x2 : List Int} {a3 : Int} {a4 : Bool} {a5 : Bool} {a6 : Int} {x7 : List Int} {x8 : List Int} {a9 : Int} {x10 : List (List Int × Int × Int × List Opn × Int × Int × Int × Int)} {x11 : List (Int × Int × List Opn × Int × Int × Int × Int × Int × Int × List Opn × Int × Int × Int × Int)} (k : Int) : engR.mr k (x0, a1, x2, a3, a4, a5, a6, x7, x8, a9, x10, x11) = (intsK.mr (k) x0, a1, intsK.mr (k + (intsK.nx x0 : Nat)) x2, a3, a4, a5, a6, intsK.mr (k + (intsK.nx x0 : Nat) + (intsK.nx x2 : Nat)) x7, intsK.mr (k + (intsK.nx x0 : Nat) + (intsK.nx x2 : Nat) + (intsK.nx x7 : Nat)) x8, a9, cacK.mr (k + (intsK.nx x0 : Nat) + (intsK.nx x2 : Nat) + (intsK.nx x7 : Nat) + (intsK.nx x8 : Nat)) x10, cerK.mr (k + (intsK.nx x0 : Nat) + (intsK.nx x2 : Nat) + (intsK.nx x7 : Nat) + (intsK.nx x8 : Nat) + (cacK.nx x10 : Nat)) x11) := rfl
set_option maxRecDepth 8000 in
set_option maxHeartbeats 8000000 in
theorem layEngEng {w : World} {ops : Array Oper} {rest : List Oper} {o : Oper} {a : Act} {Q : Exit → Act → World → Prop} (hgd : o.guard = none) (hds : o.dst = none) (x y : Operand) (ho : o.op = .store 30 x y)
    (Z : Nat) (y0 : Value) (y1 : Value) (y2 : Value) (y3 : Value) (y4 : Value) (y5 : Value) (y6 : Value) (y7 : Value) (y8 : Value) (y9 : Value) (y10 : Value) (y11 : Value) (hB : Rec Z [y0, y1, y2, y3, y4, y5, y6, y7, y8, y9, y10, y11] w) (hx : a.eval x = .pointer (some ⟨Z, 0, none⟩)) (q0 : Option Addr) (n0 d0 : Nat) (b1 : Int) (q2 : Option Addr) (n2 d2 : Nat) (b3 : Int) (b4 : Bool) (b5 : Bool) (b6 : Int) (q7 : Option Addr) (n7 d7 : Nat) (q8 : Option Addr) (n8 d8 : Nat) (b9 : Int) (q10 : Option Addr) (n10 d10 : Nat) (q11 : Option Addr) (n11 d11 : Nat) (hy : a.eval y = .agg #[.slice q0 n0 d0, .int .i64 b1, .slice q2 n2 d2, .int .i64 b3, .bool b4, .bool b5, .int .i64 b6, .slice q7 n7 d7, .slice q8 n8 d8, .int .i64 b9, .slice q10 n10 d10, .slice q11 n11 d11])
    (h : ∀ w' : World, Hid (Rec Z [.slice q0 n0 d0, .int .i64 b1, .slice q2 n2 d2, .int .i64 b3, .bool b4, .bool b5, .int .i64 b6, .slice q7 n7 d7, .slice q8 n8 d8, .int .i64 b9, .slice q10 n10 d10, .slice q11 n11 d11] w') → Hid (Turn Z w w') → wpList Try.prog ops Q rest a w') :
    wpList Try.prog ops Q (o :: rest) a w := by
  refine wpList_plain hgd fun K hK => ?_
  have z0 := hB.cell 0 _ rfl
  have s0 := hB.soft 0
  have z1 := hB.cell 1 _ rfl
  have s1 := hB.soft 1
  have z2 := hB.cell 2 _ rfl
  have s2 := hB.soft 2
  have z3 := hB.cell 3 _ rfl
  have s3 := hB.soft 3
  have z4 := hB.cell 4 _ rfl
  have s4 := hB.soft 4
  have z5 := hB.cell 5 _ rfl
  have s5 := hB.soft 5
  have z6 := hB.cell 6 _ rfl
  have s6 := hB.soft 6
  have z7 := hB.cell 7 _ rfl
  have s7 := hB.soft 7
  have z8 := hB.cell 8 _ rfl
  have s8 := hB.soft 8
  have z9 := hB.cell 9 _ rfl
  have s9 := hB.soft 9
  have z10 := hB.cell 10 _ rfl
  have s10 := hB.soft 10
  have z11 := hB.cell 11 _ rfl
  have s11 := hB.soft 11
  have key := hK _ _ (h _ ((((((((((((hB.set 0 (.slice q0 n0 d0) (by simp) (show _ = ([.slice q0 n0 d0, y1, y2, y3, y4, y5, y6, y7, y8, y9, y10, y11] : List Value) from rfl)).set 1 (.int .i64 b1) (by simp) (show _ = ([.slice q0 n0 d0, .int .i64 b1, y2, y3, y4, y5, y6, y7, y8, y9, y10, y11] : List Value) from rfl)).set 2 (.slice q2 n2 d2) (by simp) (show _ = ([.slice q0 n0 d0, .int .i64 b1, .slice q2 n2 d2, y3, y4, y5, y6, y7, y8, y9, y10, y11] : List Value) from rfl)).set 3 (.int .i64 b3) (by simp) (show _ = ([.slice q0 n0 d0, .int .i64 b1, .slice q2 n2 d2, .int .i64 b3, y4, y5, y6, y7, y8, y9, y10, y11] : List Value) from rfl)).set 4 (.bool b4) (by simp) (show _ = ([.slice q0 n0 d0, .int .i64 b1, .slice q2 n2 d2, .int .i64 b3, .bool b4, y5, y6, y7, y8, y9, y10, y11] : List Value) from rfl)).set 5 (.bool b5) (by simp) (show _ = ([.slice q0 n0 d0, .int .i64 b1, .slice q2 n2 d2, .int .i64 b3, .bool b4, .bool b5, y6, y7, y8, y9, y10, y11] : List Value) from rfl)).set 6 (.int .i64 b6) (by simp) (show _ = ([.slice q0 n0 d0, .int .i64 b1, .slice q2 n2 d2, .int .i64 b3, .bool b4, .bool b5, .int .i64 b6, y7, y8, y9, y10, y11] : List Value) from rfl)).set 7 (.slice q7 n7 d7) (by simp) (show _ = ([.slice q0 n0 d0, .int .i64 b1, .slice q2 n2 d2, .int .i64 b3, .bool b4, .bool b5, .int .i64 b6, .slice q7 n7 d7, y8, y9, y10, y11] : List Value) from rfl)).set 8 (.slice q8 n8 d8) (by simp) (show _ = ([.slice q0 n0 d0, .int .i64 b1, .slice q2 n2 d2, .int .i64 b3, .bool b4, .bool b5, .int .i64 b6, .slice q7 n7 d7, .slice q8 n8 d8, y9, y10, y11] : List Value) from rfl)).set 9 (.int .i64 b9) (by simp) (show _ = ([.slice q0 n0 d0, .int .i64 b1, .slice q2 n2 d2, .int .i64 b3, .bool b4, .bool b5, .int .i64 b6, .slice q7 n7 d7, .slice q8 n8 d8, .int .i64 b9, y10, y11] : List Value) from rfl)).set 10 (.slice q10 n10 d10) (by simp) (show _ = ([.slice q0 n0 d0, .int .i64 b1, .slice q2 n2 d2, .int .i64 b3, .bool b4, .bool b5, .int .i64 b6, .slice q7 n7 d7, .slice q8 n8 d8, .int .i64 b9, .slice q10 n10 d10, y11] : List Value) from rfl)).set 11 (.slice q11 n11 d11) (by simp) (show _ = ([.slice q0 n0 d0, .int .i64 b1, .slice q2 n2 d2, .int .i64 b3, .bool b4, .bool b5, .int .i64 b6, .slice q7 n7 d7, .slice q8 n8 d8, .int .i64 b9, .slice q10 n10 d10, .slice q11 n11 d11] : List Value) from rfl)) (((((((((((((Turn.refl Z w).setCell (p := ⟨Z, 0, none⟩) rfl (.slice q0 n0 d0)).setCell (p := ⟨Z, 1, none⟩) rfl (.int .i64 b1)).setCell (p := ⟨Z, 2, none⟩) rfl (.slice q2 n2 d2)).setCell (p := ⟨Z, 3, none⟩) rfl (.int .i64 b3)).setCell (p := ⟨Z, 4, none⟩) rfl (.bool b4)).setCell (p := ⟨Z, 5, none⟩) rfl (.bool b5)).setCell (p := ⟨Z, 6, none⟩) rfl (.int .i64 b6)).setCell (p := ⟨Z, 7, none⟩) rfl (.slice q7 n7 d7)).setCell (p := ⟨Z, 8, none⟩) rfl (.slice q8 n8 d8)).setCell (p := ⟨Z, 9, none⟩) rfl (.int .i64 b9)).setCell (p := ⟨Z, 10, none⟩) rfl (.slice q10 n10 d10)).setCell (p := ⟨Z, 11, none⟩) rfl (.slice q11 n11 d11)))
  obtain ⟨dst, op, ty, pos, aft, gd⟩ := o
  simp only [] at hgd hds ho
  subst hgd hds ho
  clear h hK
  unfold Oper.wp
  simp only [execOp, hx, hy]
  go_simp
  exact key
set_option maxRecDepth 8000 in
set_option maxHeartbeats 8000000 in
theorem putEngEng_0 {w : World} {ops : Array Oper} {rest : List Oper} {o : Oper} {a : Act} {Q : Exit → Act → World → Prop} (hgd : o.guard = none) (hds : o.dst = none) (x y : Operand) (ho : o.op = .store 26 x y)
    (Z : Nat) (y0 : Value) (y1 : Value) (y2 : Value) (y3 : Value) (y4 : Value) (y5 : Value) (y6 : Value) (y7 : Value) (y8 : Value) (y9 : Value) (y10 : Value) (y11 : Value) (hB : Rec Z [y0, y1, y2, y3, y4, y5, y6, y7, y8, y9, y10, y11] w) (hx : a.eval x = .pointer (some ⟨Z, 0, none⟩)) (q0 : Option Addr) (n0 d0 : Nat) (b1 : Int) (q2 : Option Addr) (n2 d2 : Nat) (b3 : Int) (b4 : Bool) (b5 : Bool) (b6 : Int) (q7 : Option Addr) (n7 d7 : Nat) (q8 : Option Addr) (n8 d8 : Nat) (b9 : Int) (hy : a.eval y = .agg #[.slice q0 n0 d0, .int .i64 b1, .slice q2 n2 d2, .int .i64 b3, .bool b4, .bool b5, .int .i64 b6, .slice q7 n7 d7, .slice q8 n8 d8, .int .i64 b9])
    (h : ∀ w' : World, Hid (Rec Z [.slice q0 n0 d0, .int .i64 b1, .slice q2 n2 d2, .int .i64 b3, .bool b4, .bool b5, .int .i64 b6, .slice q7 n7 d7, .slice q8 n8 d8, .int .i64 b9, y10, y11] w') → Hid (Turn Z w w') → wpList Try.prog ops Q rest a w') :
    wpList Try.prog ops Q (o :: rest) a w := by
  refine wpList_plain hgd fun K hK => ?_
  have z0 := hB.cell 0 _ rfl
  have s0 := hB.soft 0
  have z1 := hB.cell 1 _ rfl
  have s1 := hB.soft 1
  have z2 := hB.cell 2 _ rfl
  have s2 := hB.soft 2
  have z3 := hB.cell 3 _ rfl
  have s3 := hB.soft 3
  have z4 := hB.cell 4 _ rfl
  have s4 := hB.soft 4
  have z5 := hB.cell 5 _ rfl
  have s5 := hB.soft 5
  have z6 := hB.cell 6 _ rfl
  have s6 := hB.soft 6
  have z7 := hB.cell 7 _ rfl
  have s7 := hB.soft 7
  have z8 := hB.cell 8 _ rfl
  have s8 := hB.soft 8
  have z9 := hB.cell 9 _ rfl
  have s9 := hB.soft 9
  have key := hK _ _ (h _ ((((((((((hB.set 0 (.slice q0 n0 d0) (by simp) (show _ = ([.slice q0 n0 d0, y1, y2, y3, y4, y5, y6, y7, y8, y9, y10, y11] : List Value) from rfl)).set 1 (.int .i64 b1) (by simp) (show _ = ([.slice q0 n0 d0, .int .i64 b1, y2, y3, y4, y5, y6, y7, y8, y9, y10, y11] : List Value) from rfl)).set 2 (.slice q2 n2 d2) (by simp) (show _ = ([.slice q0 n0 d0, .int .i64 b1, .slice q2 n2 d2, y3, y4, y5, y6, y7, y8, y9, y10, y11] : List Value) from rfl)).set 3 (.int .i64 b3) (by simp) (show _ = ([.slice q0 n0 d0, .int .i64 b1, .slice q2 n2 d2, .int .i64 b3, y4, y5, y6, y7, y8, y9, y10, y11] : List Value) from rfl)).set 4 (.bool b4) (by simp) (show _ = ([.slice q0 n0 d0, .int .i64 b1, .slice q2 n2 d2, .int .i64 b3, .bool b4, y5, y6, y7, y8, y9, y10, y11] : List Value) from rfl)).set 5 (.bool b5) (by simp) (show _ = ([.slice q0 n0 d0, .int .i64 b1, .slice q2 n2 d2, .int .i64 b3, .bool b4, .bool b5, y6, y7, y8, y9, y10, y11] : List Value) from rfl)).set 6 (.int .i64 b6) (by simp) (show _ = ([.slice q0 n0 d0, .int .i64 b1, .slice q2 n2 d2, .int .i64 b3, .bool b4, .bool b5, .int .i64 b6, y7, y8, y9, y10, y11] : List Value) from rfl)).set 7 (.slice q7 n7 d7) (by simp) (show _ = ([.slice q0 n0 d0, .int .i64 b1, .slice q2 n2 d2, .int .i64 b3, .bool b4, .bool b5, .int .i64 b6, .slice q7 n7 d7, y8, y9, y10, y11] : List Value) from rfl)).set 8 (.slice q8 n8 d8) (by simp) (show _ = ([.slice q0 n0 d0, .int .i64 b1, .slice q2 n2 d2, .int .i64 b3, .bool b4, .bool b5, .int .i64 b6, .slice q7 n7 d7, .slice q8 n8 d8, y9, y10, y11] : List Value) from rfl)).set 9 (.int .i64 b9) (by simp) (show _ = ([.slice q0 n0 d0, .int .i64 b1, .slice q2 n2 d2, .int .i64 b3, .bool b4, .bool b5, .int .i64 b6, .slice q7 n7 d7, .slice q8 n8 d8, .int .i64 b9, y10, y11] : List Value) from rfl)) (((((((((((Turn.refl Z w).setCell (p := ⟨Z, 0, none⟩) rfl (.slice q0 n0 d0)).setCell (p := ⟨Z, 1, none⟩) rfl (.int .i64 b1)).setCell (p := ⟨Z, 2, none⟩) rfl (.slice q2 n2 d2)).setCell (p := ⟨Z, 3, none⟩) rfl (.int .i64 b3)).setCell (p := ⟨Z, 4, none⟩) rfl (.bool b4)).setCell (p := ⟨Z, 5, none⟩) rfl (.bool b5)).setCell (p := ⟨Z, 6, none⟩) rfl (.int .i64 b6)).setCell (p := ⟨Z, 7, none⟩) rfl (.slice q7 n7 d7)).setCell (p := ⟨Z, 8, none⟩) rfl (.slice q8 n8 d8)).setCell (p := ⟨Z, 9, none⟩) rfl (.int .i64 b9)))
  obtain ⟨dst, op, ty, pos, aft, gd⟩ := o
  simp only [] at hgd hds ho
  subst hgd hds ho
  clear h hK
  unfold Oper.wp
  simp only [execOp, hx, hy]
  go_simp
  exact key
set_option maxRecDepth 8000 in
set_option maxHeartbeats 8000000 in
theorem putEngEng_10 {w : World} {ops : Array Oper} {rest : List Oper} {o : Oper} {a : Act} {Q : Exit → Act → World → Prop} (hgd : o.guard = none) (hds : o.dst = none) (x y : Operand) (ho : o.op = .store 27 x y)
    (Z : Nat) (y0 : Value) (y1 : Value) (y2 : Value) (y3 : Value) (y4 : Value) (y5 : Value) (y6 : Value) (y7 : Value) (y8 : Value) (y9 : Value) (y10 : Value) (y11 : Value) (hB : Rec Z [y0, y1, y2, y3, y4, y5, y6, y7, y8, y9, y10, y11] w) (hx : a.eval x = .pointer (some ⟨Z, 10, none⟩)) (q10 : Option Addr) (n10 d10 : Nat) (hy : a.eval y = .slice q10 n10 d10)
    (h : ∀ w' : World, Hid (Rec Z [y0, y1, y2, y3, y4, y5, y6, y7, y8, y9, .slice q10 n10 d10, y11] w') → Hid (Turn Z w w') → wpList Try.prog ops Q rest a w') :
    wpList Try.prog ops Q (o :: rest) a w := by
  refine wpList_plain hgd fun K hK => ?_
  have z10 := hB.cell 10 _ rfl
  have s10 := hB.soft 10
  have key := hK _ _ (h _ (hB.set 10 (.slice q10 n10 d10) (by simp) (show _ = ([y0, y1, y2, y3, y4, y5, y6, y7, y8, y9, .slice q10 n10 d10, y11] : List Value) from rfl)) ((Turn.refl Z w).setCell (p := ⟨Z, 10, none⟩) rfl (.slice q10 n10 d10)))
  obtain ⟨dst, op, ty, pos, aft, gd⟩ := o
  simp only [] at hgd hds ho
  subst hgd hds ho
  clear h hK
  unfold Oper.wp
  simp only [execOp, hx, hy]
  go_simp
  exact key
set_option maxRecDepth 8000 in
set_option maxHeartbeats 8000000 in
theorem putEngEng_11 {w : World} {ops : Array Oper} {rest : List Oper} {o : Oper} {a : Act} {Q : Exit → Act → World → Prop} (hgd : o.guard = none) (hds : o.dst = none) (x y : Operand) (ho : o.op = .store 28 x y)
    (Z : Nat) (y0 : Value) (y1 : Value) (y2 : Value) (y3 : Value) (y4 : Value) (y5 : Value) (y6 : Value) (y7 : Value) (y8 : Value) (y9 : Value) (y10 : Value) (y11 : Value) (hB : Rec Z [y0, y1, y2, y3, y4, y5, y6, y7, y8, y9, y10, y11] w) (hx : a.eval x = .pointer (some ⟨Z, 11, none⟩)) (q11 : Option Addr) (n11 d11 : Nat) (hy : a.eval y = .slice q11 n11 d11)
    (h : ∀ w' : World, Hid (Rec Z [y0, y1, y2, y3, y4, y5, y6, y7, y8, y9, y10, .slice q11 n11 d11] w') → Hid (Turn Z w w') → wpList Try.prog ops Q rest a w') :
    wpList Try.prog ops Q (o :: rest) a w := by
  refine wpList_plain hgd fun K hK => ?_
  have z11 := hB.cell 11 _ rfl
  have s11 := hB.soft 11
  have key := hK _ _ (h _ (hB.set 11 (.slice q11 n11 d11) (by simp) (show _ = ([y0, y1, y2, y3, y4, y5, y6, y7, y8, y9, y10, .slice q11 n11 d11] : List Value) from rfl)) ((Turn.refl Z w).setCell (p := ⟨Z, 11, none⟩) rfl (.slice q11 n11 d11)))
  obtain ⟨dst, op, ty, pos, aft, gd⟩ := o
  simp only [] at hgd hds ho
  subst hgd hds ho
  clear h hK
  unfold Oper.wp
  simp only [execOp, hx, hy]
  go_simp
  exact key
set_option maxRecDepth 8000 in
set_option maxHeartbeats 4000000 in
theorem eqEngEng (x0 : List Int) (a1 : Int) (x2 : List Int) (a3 : Int) (a4 : Bool) (a5 : Bool) (a6 : Int) (x7 : List Int) (x8 : List Int) (a9 : Int) (x10 : List (List Int × Int × Int × List Opn × Int × Int × Int × Int)) (x11 : List (Int × Int × List Opn × Int × Int × Int × Int × Int × Int × List Opn × Int × Int × Int × Int)) (cs cs' : List Value) (w : World) (h : engR.rd w cs (x0, a1, x2, a3, a4, a5, a6, x7, x8, a9, x10, x11)) (h' : engR.rd w cs' (x0, a1, x2, a3, a4, a5, a6, x7, x8, a9, x10, x11)) :
    Calls Try.prog 9 #[.agg cs.toArray, .agg cs'.toArray] w fun e w' => e = .returned (.bool true) ∧ Below w.heap.size w w' := by
  obtain ⟨q0, c0, q2, c2, q7, c7, q8, c8, q10, c10, q11, c11, rfl, k0, k2, k7, k8, k10, k11⟩ := engR_rd h
  obtain ⟨p0, d0, p2, d2, p7, d7, p8, d8, p10, d10, p11, d11, rfl, l0, l2, l7, l8, l10, l11⟩ := engR_rd h'
  have bV : Below w.heap.size w ((w.alloc (.cells #[.slice q0 x0.length c0, .int .i64 a1, .slice q2 x2.length c2, .int .i64 a3, .bool a4, .bool a5, .int .i64 a6, .slice q7 x7.length c7, .slice q8 x8.length c8, .int .i64 a9, .slice q10 x10.length c10, .slice q11 x11.length c11] 30)).alloc (.cells #[.slice p0 x0.length d0, .int .i64 a1, .slice p2 x2.length d2, .int .i64 a3, .bool a4, .bool a5, .int .i64 a6, .slice p7 x7.length d7, .slice p8 x8.length d8, .int .i64 a9, .slice p10 x10.length d10, .slice p11 x11.length d11] 30)) := ((Below.refl _ _).alloc (Nat.le_refl _) _).alloc (by simp) _
  have RR := hide ((Rec.new w [.slice q0 x0.length c0, .int .i64 a1, .slice q2 x2.length c2, .int .i64 a3, .bool a4, .bool a5, .int .i64 a6, .slice q7 x7.length c7, .slice q8 x8.length c8, .int .i64 a9, .slice q10 x10.length c10, .slice q11 x11.length c11] 30).alloc (.cells #[.slice p0 x0.length d0, .int .i64 a1, .slice p2 x2.length d2, .int .i64 a3, .bool a4, .bool a5, .int .i64 a6, .slice p7 x7.length d7, .slice p8 x8.length d8, .int .i64 a9, .slice p10 x10.length d10, .slice p11 x11.length d11] 30))
  have RS := Rec.new (w.alloc (.cells #[.slice q0 x0.length c0, .int .i64 a1, .slice q2 x2.length c2, .int .i64 a3, .bool a4, .bool a5, .int .i64 a6, .slice q7 x7.length c7, .slice q8 x8.length c8, .int .i64 a9, .slice q10 x10.length c10, .slice q11 x11.length c11] 30)) [.slice p0 x0.length d0, .int .i64 a1, .slice p2 x2.length d2, .int .i64 a3, .bool a4, .bool a5, .int .i64 a6, .slice p7 x7.length d7, .slice p8 x8.length d8, .int .i64 a9, .slice p10 x10.length d10, .slice p11 x11.length d11] 30
  rw [show (w.alloc (.cells #[.slice q0 x0.length c0, .int .i64 a1, .slice q2 x2.length c2, .int .i64 a3, .bool a4, .bool a5, .int .i64 a6, .slice q7 x7.length c7, .slice q8 x8.length c8, .int .i64 a9, .slice q10 x10.length c10, .slice q11 x11.length c11] 30)).heap.size = w.heap.size + 1 by simp] at RS
  replace RS := hide RS
  have H0 := hide (intsK.rb k0 bV)
  have J0 := hide (intsK.rb l0 bV)
  have H2 := hide (intsK.rb k2 bV)
  have J2 := hide (intsK.rb l2 bV)
  have H7 := hide (intsK.rb k7 bV)
  have J7 := hide (intsK.rb l7 bV)
  have H8 := hide (intsK.rb k8 bV)
  have J8 := hide (intsK.rb l8 bV)
  have H10 := hide (cacK.rb k10 bV)
  have J10 := hide (cacK.rb l10 bV)
  have H11 := hide (cerK.rb k11 bV)
  have J11 := hide (cerK.rb l11 bV)
  have BW := hide bV
  clear bV h h' k0 l0 k2 l2 k7 l7 k8 l8 k10 l10 k11 l11
  go_enter Try.func9, Try.ntmps9
  go_wp2_with fail
  refine (eqMchMach x0 a1 x2 a3 a4 a5 a6 x7 x8 a9 _ _ _ (machR_mk H0.out H2.out H7.out H8.out) (machR_mk J0.out J2.out J7.out J8.out)).mono ?_
  rintro e u0 ⟨rfl, hb⟩
  replace RR := hide (RR.out.below hb)
  replace RS := hide (RS.out.below hb)
  replace BW := hide (BW.out.trans (hb.mono BW.out.size))
  replace H10 := hide (cacK.rb H10.out hb)
  replace J10 := hide (cacK.rb J10.out hb)
  replace H11 := hide (cerK.rb H11.out hb)
  replace J11 := hide (cerK.rb J11.out hb)
  clear hb
  have z10 := RR.out.cell 10 _ rfl
  have y10 := RS.out.cell 10 _ rfl
  go_wp2_with fail
  refine (eqCacEntryS x10 _ _ _ H10.out J10.out).mono ?_
  rintro e u10 ⟨rfl, hb⟩
  replace RR := hide (RR.out.below hb)
  replace RS := hide (RS.out.below hb)
  replace BW := hide (BW.out.trans (hb.mono BW.out.size))
  replace H11 := hide (cerK.rb H11.out hb)
  replace J11 := hide (cerK.rb J11.out hb)
  clear hb z10 y10
  have z11 := RR.out.cell 11 _ rfl
  have y11 := RS.out.cell 11 _ rfl
  go_wp2_with fail
  refine (eqCerPairS x11 _ _ _ H11.out J11.out).mono ?_
  rintro e u11 ⟨rfl, hb⟩
  replace RR := hide (RR.out.below hb)
  replace RS := hide (RS.out.below hb)
  replace BW := hide (BW.out.trans (hb.mono BW.out.size))
  clear hb z11 y11
  go_wp2
  go_ret
  exact ⟨rfl, BW.out⟩
set_option maxRecDepth 8000 in
set_option maxHeartbeats 4000000 in
theorem markEngEng (x0 : List Int) (a1 : Int) (x2 : List Int) (a3 : Int) (a4 : Bool) (a5 : Bool) (a6 : Int) (x7 : List Int) (x8 : List Int) (a9 : Int) (x10 : List (List Int × Int × Int × List Opn × Int × Int × Int × Int)) (x11 : List (Int × Int × List Opn × Int × Int × Int × Int × Int × Int × List Opn × Int × Int × Int × Int)) (k : Int) (A : Nat → Prop) (cs : List Value) (w : World) (h : engR.ow w A cs (x0, a1, x2, a3, a4, a5, a6, x7, x8, a9, x10, x11)) (hA : ∀ b, A b → b < w.heap.size) (k0 : 0 ≤ k) (k1 : k + (engR.nx (x0, a1, x2, a3, a4, a5, a6, x7, x8, a9, x10, x11) : Nat) ≤ 1000000000) :
    Calls Try.prog 12 #[.agg cs.toArray, .int .i64 k] w fun e w' => e = .returned (.int .i64 (k + (engR.nx (x0, a1, x2, a3, a4, a5, a6, x7, x8, a9, x10, x11) : Nat))) ∧ engR.ow w' A cs (engR.mr k (x0, a1, x2, a3, a4, a5, a6, x7, x8, a9, x10, x11)) ∧ Keep A w w' := by
  obtain ⟨q0, c0, q2, c2, q7, c7, q8, c8, q10, c10, q11, c11, A0, A2, A7, A8, A10, A11, rfl, kk0, kk2, kk7, kk8, kk10, kk11, s0, s2, s7, s8, s10, s11, d0_2, d0_7, d0_8, d0_10, d0_11, d2_7, d2_8, d2_10, d2_11, d7_8, d7_10, d7_11, d8_10, d8_11, d10_11⟩ := engR_own h
  rw [engR_nxp] at k1 ⊢
  have PK : (k + (intsK.nx x0 : Nat) + (intsK.nx x2 : Nat) + (intsK.nx x7 : Nat) + (intsK.nx x8 : Nat) : Int) = k + (machR.nx (x0, a1, x2, a3, a4, a5, a6, x7, x8, a9) : Nat) := by rw [machR_nx]; omega
  rw [engR_mr, PK]
  obtain ⟨ka, eka⟩ : ∃ z, k + ((machR.nx (x0, a1, x2, a3, a4, a5, a6, x7, x8, a9) : Nat) : Int) = z := ⟨_, rfl⟩
  obtain ⟨kb, ekb⟩ : ∃ z, ka + ((cacK.nx x10 : Nat) : Int) = z := ⟨_, rfl⟩
  obtain ⟨kc, ekc⟩ : ∃ z, kb + ((cerK.nx x11 : Nat) : Int) = z := ⟨_, rfl⟩
  have EC : k + ((machR.nx (x0, a1, x2, a3, a4, a5, a6, x7, x8, a9) + (cacK.nx x10 + cerK.nx x11) : Nat) : Int) = kc := by omega
  rw [EC] at k1 ⊢
  rw [eka] at ⊢
  rw [ekb] at ⊢
  have na0 : 0 ≤ ka ∧ ka ≤ 1000000000 := by omega
  have nb0 : 0 ≤ kb ∧ kb ≤ 1000000000 := by omega
  have nc0 : 0 ≤ kc ∧ kc ≤ 1000000000 := by omega
  have na1 : ¬ ka < 0 := by omega
  have nb1 : ¬ kb < 0 := by omega
  have nc1 : ¬ kc < 0 := by omega
  have B0 : k + ((machR.nx (x0, a1, x2, a3, a4, a5, a6, x7, x8, a9) : Nat) : Int) ≤ 1000000000 := by omega
  have B1 : ka + ((cacK.nx x10 : Nat) : Int) ≤ 1000000000 := by omega
  have B2 : kb + ((cerK.nx x11 : Nat) : Int) ≤ 1000000000 := by omega
  replace B0 := hide B0
  replace B1 := hide B1
  replace B2 := hide B2
  have EA := hide eka
  have EB := hide ekb
  have ECC := hide ekc
  clear PK EC k1 eka ekb ekc
  have bV : Below w.heap.size w (w.alloc (.cells #[.slice q0 x0.length c0, .int .i64 a1, .slice q2 x2.length c2, .int .i64 a3, .bool a4, .bool a5, .int .i64 a6, .slice q7 x7.length c7, .slice q8 x8.length c8, .int .i64 a9, .slice q10 x10.length c10, .slice q11 x11.length c11] 30)) := (Below.refl _ _).alloc (Nat.le_refl _) _
  have RR := hide (Rec.new w [.slice q0 x0.length c0, .int .i64 a1, .slice q2 x2.length c2, .int .i64 a3, .bool a4, .bool a5, .int .i64 a6, .slice q7 x7.length c7, .slice q8 x8.length c8, .int .i64 a9, .slice q10 x10.length c10, .slice q11 x11.length c11] 30)
  have H0 := hide (intsK.ob kk0 bV)
  have H2 := hide (intsK.ob kk2 bV)
  have H7 := hide (intsK.ob kk7 bV)
  have H8 := hide (intsK.ob kk8 bV)
  have H10 := hide (cacK.ob kk10 bV)
  have H11 := hide (cerK.ob kk11 bV)
  have NB : Hid (¬ A w.heap.size) := fun q => by have := hA _ q; omega
  have HAH : Hid (∀ b, A b → b < w.heap.size) := hA
  have KP : Hid (Keep A w _) := Keep.of_below bV
  clear bV h hA kk0 kk2 kk7 kk8 kk10 kk11
  go_enter Try.func12, Try.ntmps12
  go_wp2_with fail
  have MO : machR.ow _ (fun b => A0 b ∨ A2 b ∨ A7 b ∨ A8 b) _ (x0, a1, x2, a3, a4, a5, a6, x7, x8, a9) := machR_omk H0.out H2.out H7.out H8.out (fun b q => Or.inl q) (fun b q => Or.inr (Or.inl q)) (fun b q => Or.inr (Or.inr (Or.inl q))) (fun b q => Or.inr (Or.inr (Or.inr q))) d0_2 d0_7 d0_8 d2_7 d2_8 d7_8
  have SU : ∀ b, (fun b => A0 b ∨ A2 b ∨ A7 b ∨ A8 b) b → A b := fun b q => by
    rcases q with q | q | q | q
    · exact s0 b q
    · exact s2 b q
    · exact s7 b q
    · exact s8 b q
  have OUTS : ∀ j b, (j = 10 → A10 b) → (j = 11 → A11 b) → (j = 10 ∨ j = 11) → ¬ (fun b => A0 b ∨ A2 b ∨ A7 b ∨ A8 b) b := fun j b h1 h2 hj q => by
    rcases hj with rfl | rfl
    · have r := h1 rfl
      rcases q with q | q | q | q
      · exact d0_10 b q r
      · exact d2_10 b q r
      · exact d7_10 b q r
      · exact d8_10 b q r
    · have r := h2 rfl
      rcases q with q | q | q | q
      · exact d0_11 b q r
      · exact d2_11 b q r
      · exact d7_11 b q r
      · exact d8_11 b q r
  refine (markMchMach x0 a1 x2 a3 a4 a5 a6 x7 x8 a9 k _ _ _ MO (fun b q => by have := KP.out.size; have := HAH.out b (SU b q); omega) k0 B0.out).mono ?_
  rintro e u0 ⟨rfl, O0, hk⟩
  rw [machR_mr] at O0
  obtain ⟨_, _, _, _, _, _, _, _, C0, C2, C7, C8, eq0, o0, o2, o7, o8, t0, t2, t7, t8, f0_2, f0_7, f0_8, f2_7, f2_8, f7_8⟩ := machR_own O0
  simp only [intsK_len] at eq0 o0 o2 o7 o8
  cases eq0
  replace RR := hide (RR.out.keep hk (fun q => NB.out (SU _ q)))
  replace KP := hide (KP.out.trans (hk.mono (fun b _ q => SU b q)))
  replace H10 := hide (cacK.ok H10.out hk (fun b q => OUTS 10 b (fun _ => q) (fun h => by omega) (Or.inl rfl)))
  replace H11 := hide (cerK.ok H11.out hk (fun b q => OUTS 11 b (fun h => by omega) (fun _ => q) (Or.inr rfl)))
  have t0' : ∀ b, C0 b → A b := fun b q => SU b (t0 b q)
  have t2' : ∀ b, C2 b → A b := fun b q => SU b (t2 b q)
  have t7' : ∀ b, C7 b → A b := fun b q => SU b (t7 b q)
  have t8' : ∀ b, C8 b → A b := fun b q => SU b (t8 b q)
  have n10 : ∀ b, (C0 b ∨ C2 b ∨ C7 b ∨ C8 b) → A10 b → False := fun b q r => OUTS 10 b (fun _ => r) (fun h => by omega) (Or.inl rfl) (by rcases q with q | q | q | q; exact t0 b q; exact t2 b q; exact t7 b q; exact t8 b q)
  have n11 : ∀ b, (C0 b ∨ C2 b ∨ C7 b ∨ C8 b) → A11 b → False := fun b q r => OUTS 11 b (fun h => by omega) (fun _ => r) (Or.inr rfl) (by rcases q with q | q | q | q; exact t0 b q; exact t2 b q; exact t7 b q; exact t8 b q)
  have PACK : Hid ((∀ b, C0 b → A b) ∧ (∀ b, C2 b → A b) ∧ (∀ b, C7 b → A b) ∧ (∀ b, C8 b → A b) ∧ (∀ b, (C0 b ∨ C2 b ∨ C7 b ∨ C8 b) → A10 b → False) ∧ (∀ b, (C0 b ∨ C2 b ∨ C7 b ∨ C8 b) → A11 b → False) ∧ (∀ b, C0 b → C2 b → False) ∧ (∀ b, C0 b → C7 b → False) ∧ (∀ b, C0 b → C8 b → False) ∧ (∀ b, C2 b → C7 b → False) ∧ (∀ b, C2 b → C8 b → False) ∧ (∀ b, C7 b → C8 b → False) ∧ (∀ b, A10 b → A b) ∧ (∀ b, A11 b → A b) ∧ (∀ b, A10 b → A11 b → False)) := ⟨t0', t2', t7', t8', n10, n11, f0_2, f0_7, f0_8, f2_7, f2_8, f7_8, s10, s11, d10_11⟩
  have W0 := hide o0
  have W2 := hide o2
  have W7 := hide o7
  have W8 := hide o8
  clear O0 hk MO SU OUTS o0 o2 o7 o8 t0 t2 t7 t8 t0' t2' t7' t8' n10 n11 f0_2 f0_7 f0_8 f2_7 f2_8 f7_8 H0 H2 H7 H8 s0 s2 s7 s8 s10 s11 d0_2 d0_7 d0_8 d0_10 d0_11 d2_7 d2_8 d2_10 d2_11 d7_8 d7_10 d7_11 d8_10 d8_11 d10_11
  rw [EA.out]
  have z10 := RR.out.cell 10 _ rfl
  go_wp2_with fail
  refine (markCacEntryS x10 ka A10 _ _ H10.out na0.1 B1.out).mono ?_
  rintro e u10 ⟨rfl, O10, hk⟩
  have W10 := hide O10
  clear O10
  replace RR := hide (RR.out.keep hk (fun q => NB.out (PACK.out.2.2.2.2.2.2.2.2.2.2.2.2.1 _ q)))
  replace KP := hide (KP.out.trans (hk.mono (fun b _ q => PACK.out.2.2.2.2.2.2.2.2.2.2.2.2.1 b q)))
  replace W0 := hide (intsK.ok W0.out hk (fun b q r => PACK.out.2.2.2.2.1 b (Or.inl q) r))
  replace W2 := hide (intsK.ok W2.out hk (fun b q r => PACK.out.2.2.2.2.1 b (Or.inr (Or.inl q)) r))
  replace W7 := hide (intsK.ok W7.out hk (fun b q r => PACK.out.2.2.2.2.1 b (Or.inr (Or.inr (Or.inl q))) r))
  replace W8 := hide (intsK.ok W8.out hk (fun b q r => PACK.out.2.2.2.2.1 b (Or.inr (Or.inr (Or.inr q))) r))
  replace H11 := hide (cerK.ok H11.out hk (fun b q r => PACK.out.2.2.2.2.2.2.2.2.2.2.2.2.2.2 b r q))
  clear hk H10 z10
  rw [EB.out]
  have z11 := RR.out.cell 11 _ rfl
  go_wp2_with fail
  refine (markCerPairS x11 kb A11 _ _ H11.out nb0.1 B2.out).mono ?_
  rintro e u11 ⟨rfl, O11, hk⟩
  have W11 := hide O11
  clear O11
  replace RR := hide (RR.out.keep hk (fun q => NB.out (PACK.out.2.2.2.2.2.2.2.2.2.2.2.2.2.1 _ q)))
  replace KP := hide (KP.out.trans (hk.mono (fun b _ q => PACK.out.2.2.2.2.2.2.2.2.2.2.2.2.2.1 b q)))
  replace W0 := hide (intsK.ok W0.out hk (fun b q r => PACK.out.2.2.2.2.2.1 b (Or.inl q) r))
  replace W2 := hide (intsK.ok W2.out hk (fun b q r => PACK.out.2.2.2.2.2.1 b (Or.inr (Or.inl q)) r))
  replace W7 := hide (intsK.ok W7.out hk (fun b q r => PACK.out.2.2.2.2.2.1 b (Or.inr (Or.inr (Or.inl q))) r))
  replace W8 := hide (intsK.ok W8.out hk (fun b q r => PACK.out.2.2.2.2.2.1 b (Or.inr (Or.inr (Or.inr q))) r))
  replace W10 := hide (cacK.ok W10.out hk (fun b q r => PACK.out.2.2.2.2.2.2.2.2.2.2.2.2.2.2 b q r))
  clear hk H11 z11
  rw [ECC.out]
  have FIN := hide (engR_omk (A := A) (a1 := a1) (a3 := a3) (a4 := a4) (a5 := a5) (a6 := a6) (a9 := a9) W0.out W2.out W7.out W8.out W10.out W11.out PACK.out.1 PACK.out.2.1 PACK.out.2.2.1 PACK.out.2.2.2.1 PACK.out.2.2.2.2.2.2.2.2.2.2.2.2.1 PACK.out.2.2.2.2.2.2.2.2.2.2.2.2.2.1 PACK.out.2.2.2.2.2.2.1 PACK.out.2.2.2.2.2.2.2.1 PACK.out.2.2.2.2.2.2.2.2.1 (fun b q r => PACK.out.2.2.2.2.1 b (Or.inl q) r) (fun b q r => PACK.out.2.2.2.2.2.1 b (Or.inl q) r) PACK.out.2.2.2.2.2.2.2.2.2.1 PACK.out.2.2.2.2.2.2.2.2.2.2.1 (fun b q r => PACK.out.2.2.2.2.1 b (Or.inr (Or.inl q)) r) (fun b q r => PACK.out.2.2.2.2.2.1 b (Or.inr (Or.inl q)) r) PACK.out.2.2.2.2.2.2.2.2.2.2.2.1 (fun b q r => PACK.out.2.2.2.2.1 b (Or.inr (Or.inr (Or.inl q))) r) (fun b q r => PACK.out.2.2.2.2.2.1 b (Or.inr (Or.inr (Or.inl q))) r) (fun b q r => PACK.out.2.2.2.2.1 b (Or.inr (Or.inr (Or.inr q))) r) (fun b q r => PACK.out.2.2.2.2.2.1 b (Or.inr (Or.inr (Or.inr q))) r) PACK.out.2.2.2.2.2.2.2.2.2.2.2.2.2.2)
  try simp only [intsK_len, cacK_len, cerK_len] at FIN
  clear RR PACK W0 W2 W7 W8 W10 W11
  go_wp2
  go_ret
  exact ⟨rfl, FIN.out, KP.out⟩
set_option maxRecDepth 8000 in
set_option maxHeartbeats 4000000 in
theorem heldEngEng (x0 : List Int) (a1 : Int) (x2 : List Int) (a3 : Int) (a4 : Bool) (a5 : Bool) (a6 : Int) (x7 : List Int) (x8 : List Int) (a9 : Int) (x10 : List (List Int × Int × Int × List Opn × Int × Int × Int × Int)) (x11 : List (Int × Int × List Opn × Int × Int × Int × Int × Int × Int × List Opn × Int × Int × Int × Int)) (k : Int) (cs : List Value) (w : World) (h : engR.rd w cs (engR.mr k (x0, a1, x2, a3, a4, a5, a6, x7, x8, a9, x10, x11))) (k0 : 0 ≤ k) (k1 : k + (engR.nx (x0, a1, x2, a3, a4, a5, a6, x7, x8, a9, x10, x11) : Nat) ≤ 1000000000) :
    Calls Try.prog 13 #[.agg cs.toArray, .int .i64 k] w fun e w' => e = .returned (.int .i64 (k + (engR.nx (x0, a1, x2, a3, a4, a5, a6, x7, x8, a9, x10, x11) : Nat))) ∧ Below w.heap.size w w' := by
  obtain ⟨q0, c0, q2, c2, q7, c7, q8, c8, q10, c10, q11, c11, rfl, kk0, kk2, kk7, kk8, kk10, kk11⟩ := engR_rd (show engR.rd w cs (intsK.mr (k) x0, a1, intsK.mr (k + (intsK.nx x0 : Nat)) x2, a3, a4, a5, a6, intsK.mr (k + (intsK.nx x0 : Nat) + (intsK.nx x2 : Nat)) x7, intsK.mr (k + (intsK.nx x0 : Nat) + (intsK.nx x2 : Nat) + (intsK.nx x7 : Nat)) x8, a9, cacK.mr (k + (intsK.nx x0 : Nat) + (intsK.nx x2 : Nat) + (intsK.nx x7 : Nat) + (intsK.nx x8 : Nat)) x10, cerK.mr (k + (intsK.nx x0 : Nat) + (intsK.nx x2 : Nat) + (intsK.nx x7 : Nat) + (intsK.nx x8 : Nat) + (cacK.nx x10 : Nat)) x11) from h)
  simp only [intsK_len, cacK_len, cerK_len] at kk0 kk2 kk7 kk8 kk10 kk11 ⊢
  rw [engR_nxp] at k1 ⊢
  have PK : (k + (intsK.nx x0 : Nat) + (intsK.nx x2 : Nat) + (intsK.nx x7 : Nat) + (intsK.nx x8 : Nat) : Int) = k + (machR.nx (x0, a1, x2, a3, a4, a5, a6, x7, x8, a9) : Nat) := by rw [machR_nx]; omega
  rw [PK] at kk10 kk11
  obtain ⟨ka, eka⟩ : ∃ z, k + ((machR.nx (x0, a1, x2, a3, a4, a5, a6, x7, x8, a9) : Nat) : Int) = z := ⟨_, rfl⟩
  obtain ⟨kb, ekb⟩ : ∃ z, ka + ((cacK.nx x10 : Nat) : Int) = z := ⟨_, rfl⟩
  obtain ⟨kc, ekc⟩ : ∃ z, kb + ((cerK.nx x11 : Nat) : Int) = z := ⟨_, rfl⟩
  have EC : k + ((machR.nx (x0, a1, x2, a3, a4, a5, a6, x7, x8, a9) + (cacK.nx x10 + cerK.nx x11) : Nat) : Int) = kc := by omega
  rw [EC] at k1 ⊢
  rw [eka] at kk10 kk11
  rw [ekb] at kk11
  have na0 : 0 ≤ ka ∧ ka ≤ 1000000000 := by omega
  have nb0 : 0 ≤ kb ∧ kb ≤ 1000000000 := by omega
  have nc0 : 0 ≤ kc ∧ kc ≤ 1000000000 := by omega
  have na1 : ¬ ka < 0 := by omega
  have nb1 : ¬ kb < 0 := by omega
  have nc1 : ¬ kc < 0 := by omega
  have B0 : k + ((machR.nx (x0, a1, x2, a3, a4, a5, a6, x7, x8, a9) : Nat) : Int) ≤ 1000000000 := by omega
  have B1 : ka + ((cacK.nx x10 : Nat) : Int) ≤ 1000000000 := by omega
  have B2 : kb + ((cerK.nx x11 : Nat) : Int) ≤ 1000000000 := by omega
  replace B0 := hide B0
  replace B1 := hide B1
  replace B2 := hide B2
  have EA := hide eka
  have EB := hide ekb
  have ECC := hide ekc
  clear PK EC k1 eka ekb ekc
  have bV : Below w.heap.size w (w.alloc (.cells #[.slice q0 x0.length c0, .int .i64 a1, .slice q2 x2.length c2, .int .i64 a3, .bool a4, .bool a5, .int .i64 a6, .slice q7 x7.length c7, .slice q8 x8.length c8, .int .i64 a9, .slice q10 x10.length c10, .slice q11 x11.length c11] 30)) := (Below.refl _ _).alloc (Nat.le_refl _) _
  have RR := hide (Rec.new w [.slice q0 x0.length c0, .int .i64 a1, .slice q2 x2.length c2, .int .i64 a3, .bool a4, .bool a5, .int .i64 a6, .slice q7 x7.length c7, .slice q8 x8.length c8, .int .i64 a9, .slice q10 x10.length c10, .slice q11 x11.length c11] 30)
  have H0 := hide (intsK.rb kk0 bV)
  have H2 := hide (intsK.rb kk2 bV)
  have H7 := hide (intsK.rb kk7 bV)
  have H8 := hide (intsK.rb kk8 bV)
  have H10 := hide (cacK.rb kk10 bV)
  have H11 := hide (cerK.rb kk11 bV)
  have BW := hide bV
  clear bV h kk0 kk2 kk7 kk8 kk10 kk11
  go_enter Try.func13, Try.ntmps13
  go_wp2_with fail
  refine (heldMchMach x0 a1 x2 a3 a4 a5 a6 x7 x8 a9 k _ _ (show machR.rd _ _ (machR.mr k (x0, a1, x2, a3, a4, a5, a6, x7, x8, a9)) from machR_rd_mr k H0.out H2.out H7.out H8.out) k0 B0.out).mono ?_
  rintro e u0 ⟨rfl, hb⟩
  replace RR := hide (RR.out.below hb)
  replace BW := hide (BW.out.trans (hb.mono BW.out.size))
  replace H10 := hide (cacK.rb H10.out hb)
  replace H11 := hide (cerK.rb H11.out hb)
  clear hb H0 H2 H7 H8
  rw [EA.out]
  have z10 := RR.out.cell 10 _ rfl
  go_wp2_with fail
  refine (heldCacEntryS x10 ka _ _ H10.out na0.1 B1.out).mono ?_
  rintro e u10 ⟨rfl, hb⟩
  replace RR := hide (RR.out.below hb)
  replace BW := hide (BW.out.trans (hb.mono BW.out.size))
  replace H11 := hide (cerK.rb H11.out hb)
  clear hb H10 z10
  rw [EB.out]
  have z11 := RR.out.cell 11 _ rfl
  go_wp2_with fail
  refine (heldCerPairS x11 kb _ _ H11.out nb0.1 B2.out).mono ?_
  rintro e u11 ⟨rfl, hb⟩
  replace RR := hide (RR.out.below hb)
  replace BW := hide (BW.out.trans (hb.mono BW.out.size))
  clear hb H11 z11
  rw [ECC.out]
  clear RR
  go_wp2
  go_ret
  exact ⟨rfl, BW.out⟩
end Go.Proofs.Ytlgpnogeoaoidaa.Dt
