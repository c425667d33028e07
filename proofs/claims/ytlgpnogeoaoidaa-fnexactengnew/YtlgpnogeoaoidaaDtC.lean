/-
  Plain data: what is kept and pairs, by kinds.
-/
import Derived.Test.YtlgpnogeoaoidaaDtB
import Derived.Test.YtlgpnogeoaoidaaDtI
import Derived.Test.YtlgpnogeoaoidaaPolC
namespace Go.Proofs.Ytlgpnogeoaoidaa.Dt
set_option linter.unusedVariables false
set_option linter.unusedSimpArgs false
open Go.ChangeShapes Go.WideShapes Go.ChangeAt Go.RowKit IntS Pol Flat Irk
open Ir (Opn Bk bv ORow WORow RBk WBk OpAt SoftAt)
def opsK : Kd (List Opn) where
  rd := fun w v xs => ∃ B, ORow w B v xs
  ow := fun w A v xs => ∃ B, WORow w B v xs ∧ (xs = [] ∨ A B)
  sz := fun xs => xs.length
  nx := fun xs => xs.length * 5
  mr := mrO
  rb := fun ⟨B, h⟩ hb => ⟨B, h.below hb⟩
  od := fun ⟨B, h, _⟩ => ⟨B, h.row⟩
  ok := fun ⟨B, h, hA⟩ hk hS => ⟨B, wo_keep h hk (hA.imp id (hS B)), hA⟩
  ov := fun ⟨B, h, hA⟩ h1 => ⟨B, h, hA.imp id (h1 B)⟩
theorem opsK_form {w : World} {v : Value} {xs : List Opn} (h : opsK.rd w v xs) : ∃ a cap, v = .slice a xs.length cap ∧ xs.length ≤ cap ∧ cap ≤ maxLen := by
  obtain ⟨B, a, cap, off, h1, h2, h3, _⟩ := h
  exact ⟨a, cap, h1, h2, h3⟩
theorem opsK_len (k : Int) (xs : List Opn) : (opsK.mr k xs).length = xs.length := mrO_len xs k
theorem blk_mk {w : World} {q : Option Addr} {c : Nat} {a0 a1 : Int} {x2 : List Opn} {a3 a4 a5 a6 : Int} (h : opsK.rd w (.slice q x2.length c) x2) : blkR.rd w [.int .i64 a0, .int .i64 a1, .slice q x2.length c, .int .i64 a3, .int .i64 a4, .int .i64 a5, .int .i64 a6] (a0, a1, x2, a3, a4, a5, a6) := by
  obtain ⟨B, h⟩ := h
  exact ⟨q, c, B, rfl, h⟩
theorem blk_omk {w : World} {A : Nat → Prop} {q : Option Addr} {c : Nat} {a0 a1 : Int} {x2 : List Opn} {a3 a4 a5 a6 : Int} (h : opsK.ow w A (.slice q x2.length c) x2) : blkR.ow w A [.int .i64 a0, .int .i64 a1, .slice q x2.length c, .int .i64 a3, .int .i64 a4, .int .i64 a5, .int .i64 a6] (a0, a1, x2, a3, a4, a5, a6) := by
  obtain ⟨B, h, hA⟩ := h
  exact ⟨B, ⟨q, c, rfl, h⟩, hA⟩
theorem blk_ops {w : World} {A : Nat → Prop} {q : Option Addr} {c : Nat} {a0 a1 : Int} {x2 : List Opn} {a3 a4 a5 a6 : Int} (h : blkR.ow w A [.int .i64 a0, .int .i64 a1, .slice q x2.length c, .int .i64 a3, .int .i64 a4, .int .i64 a5, .int .i64 a6] (a0, a1, x2, a3, a4, a5, a6)) : opsK.ow w A (.slice q x2.length c) x2 := by
  obtain ⟨B, ⟨q', c', e, h⟩, hA⟩ := h
  have e2 : (Value.slice q x2.length c) = .slice q' x2.length c' := by
    have := congrArg (fun l : List Value => l[2]?) e
    exact Option.some.inj this
  rw [e2]
  exact ⟨B, h, hA⟩
theorem markOpsK (xs : List Opn) (k : Int) (A : Nat → Prop) (v : Value) (w : World) (h : opsK.ow w A v xs) (k0 : 0 ≤ k) (k1 : k + (opsK.nx xs : Nat) ≤ 1000000000) :
    Calls Try.prog 46 #[v, .int .i64 k] w fun e w' => e = .returned (.int .i64 (k + (opsK.nx xs : Nat))) ∧ opsK.ow w' A v (opsK.mr k xs) ∧ Keep A w w' := by
  obtain ⟨B, h1, hB⟩ := h
  have hx : opsK.nx xs = xs.length * 5 := rfl
  rw [hx] at k1 ⊢
  have fin : ∀ {w' : World} {B' : Nat}, WFRow 5 w' B' v xs.length (marks k (xs.length * 5)) → (xs = [] ∨ A B') → opsK.ow w' A v (opsK.mr k xs) := fun {w' B'} q1 q2 => by
    have q3 : WORow w' B' v (mrO k xs) := wo_of (by rw [mrO_len, flat_mr]; exact q1)
    exact ⟨B', q3, q2.imp (fun e => by subst e; rfl) id⟩
  by_cases en : xs = []
  · have hw : WFRow 5 w w.heap.size v xs.length (flatO xs) := by
      have := wf_of h1
      obtain ⟨a', cap', off, z1, z2, z3, z4, z5, z6⟩ := this
      exact ⟨a', cap', off, z1, z2, z3, z4, z5, Or.inl (by rw [en]; rfl)⟩
    refine (Irk.markIrOpS k xs.length (flatO xs) w.heap.size v w hw k0 (by omega) (by omega)).mono ?_
    rintro e w' ⟨rfl, q1, q2⟩
    refine ⟨by simp, fin q1 (Or.inl en), ?_⟩
    exact ⟨q2.os, q2.tape, q2.output, q2.size, fun b hb _ => q2.block b hb (by omega)⟩
  · have hAB := hB.resolve_left en
    refine (Irk.markIrOpS k xs.length (flatO xs) B v w (wf_of h1) k0 (by omega) (by omega)).mono ?_
    rintro e w' ⟨rfl, q1, q2⟩
    refine ⟨by simp, fin q1 (Or.inr hAB), ?_⟩
    exact ⟨q2.os, q2.tape, q2.output, q2.size, fun b hb hb2 => q2.block b hb (fun e => hb2 (e ▸ hAB))⟩
theorem heldOpsK (xs : List Opn) (k : Int) (v : Value) (w : World) (h : opsK.rd w v (opsK.mr k xs)) (k0 : 0 ≤ k) (k1 : k + (opsK.nx xs : Nat) ≤ 1000000000) :
    Calls Try.prog 48 #[v, .int .i64 k] w fun e w' => e = .returned (.int .i64 (k + (opsK.nx xs : Nat))) ∧ Below w.heap.size w w' := by
  obtain ⟨B, h2⟩ := h
  have hx : opsK.nx xs = xs.length * 5 := rfl
  rw [hx] at k1 ⊢
  replace h2 : ORow w B v (mrO k xs) := h2
  have hf : FRow 5 w B v xs.length (marks k (xs.length * 5)) := by
    obtain ⟨a', cap', off, z1, z2, z3, z4, z5⟩ := h2
    rw [mrO_len] at z1 z2
    refine ⟨a', cap', off, z1, z2, z3, z4, by simp [marks], z5.imp (fun e => by have := congrArg List.length e; rw [mrO_len] at this; exact this) (fun ⟨e, q⟩ => ⟨e, fun i x hx => ?_⟩)⟩
    rw [← flat_mr] at hx
    obtain ⟨j, r, c, k1, rfl, k2⟩ := flatO_back _ _ _ hx
    obtain ⟨c0, c1, c2, c3, c4⟩ := q j c k1
    rw [← Nat.add_assoc]
    rcases k2 with ⟨rfl, rfl⟩ | ⟨rfl, rfl⟩ | ⟨rfl, rfl⟩ | ⟨rfl, rfl⟩ | ⟨rfl, rfl⟩
    · exact c0
    · exact c1
    · exact c2
    · exact c3
    · exact c4
  refine (Irk.heldIrOpS k xs.length B v w hf k0 (by omega) (by omega)).mono ?_
  rintro e w' ⟨rfl, q⟩
  exact ⟨by simp, q⟩
def cacR : Rw (List Int × Int × Int × List Opn × Int × Int × Int × Int) := sub intsK (int (int (sub opsK (int (int (int (leaf)))))))
theorem cacR_rd {w : World} {cs : List Value} {x0 : List Int} {a1 : Int} {a2 : Int} {x3 : List Opn} {a4 : Int} {a5 : Int} {a6 : Int} {a7 : Int} (h : cacR.rd w cs (x0, a1, a2, x3, a4, a5, a6, a7)) : ∃ (q0 : Option Addr) (c0 : Nat) (q3 : Option Addr) (c3 : Nat), cs = [.slice q0 x0.length c0, .int .i64 a1, .int .i64 a2, .slice q3 x3.length c3, .int .i64 a4, .int .i64 a5, .int .i64 a6, .int .i64 a7] ∧ intsK.rd w (.slice q0 x0.length c0) x0 ∧ opsK.rd w (.slice q3 x3.length c3) x3 := by
  obtain ⟨v0, vs0, e0, k0, h0⟩ := h
  obtain ⟨vs1, e1, h1⟩ := h0
  obtain ⟨vs2, e2, h2⟩ := h1
  obtain ⟨v3, vs3, e3, k3, h3⟩ := h2
  obtain ⟨vs4, e4, h4⟩ := h3
  obtain ⟨vs5, e5, h5⟩ := h4
  obtain ⟨vs6, e6, h6⟩ := h5
  have e7 : vs6 = _ := h6
  obtain ⟨q0, c0, f0, _, _⟩ := LRd.form k0
  subst f0
  obtain ⟨q3, c3, f3, _, _⟩ := opsK_form k3
  subst f3
  subst e7
  subst e6
  subst e5
  subst e4
  subst e3
  subst e2
  subst e1
  subst e0
  exact ⟨q0, c0, q3, c3, rfl, k0, k3⟩
theorem cacR_mk {w : World} {x0 : List Int} {a1 : Int} {a2 : Int} {x3 : List Opn} {a4 : Int} {a5 : Int} {a6 : Int} {a7 : Int} {v0 : Value} (k0 : intsK.rd w v0 x0) {v3 : Value} (k3 : opsK.rd w v3 x3) : cacR.rd w [v0, .int .i64 a1, .int .i64 a2, v3, .int .i64 a4, .int .i64 a5, .int .i64 a6, .int .i64 a7] (x0, a1, a2, x3, a4, a5, a6, a7) := ⟨_, _, rfl, k0, ⟨_, rfl, ⟨_, rfl, ⟨_, _, rfl, k3, ⟨_, rfl, ⟨_, rfl, ⟨_, rfl, rfl⟩⟩⟩⟩⟩⟩⟩
theorem cacR_own {w : World} {A : Nat → Prop} {cs : List Value} {x0 : List Int} {a1 : Int} {a2 : Int} {x3 : List Opn} {a4 : Int} {a5 : Int} {a6 : Int} {a7 : Int} (h : cacR.ow w A cs (x0, a1, a2, x3, a4, a5, a6, a7)) : ∃ (q0 : Option Addr) (c0 : Nat) (q3 : Option Addr) (c3 : Nat) (A0 : Nat → Prop) (A3 : Nat → Prop), cs = [.slice q0 x0.length c0, .int .i64 a1, .int .i64 a2, .slice q3 x3.length c3, .int .i64 a4, .int .i64 a5, .int .i64 a6, .int .i64 a7] ∧ intsK.ow w A0 (.slice q0 x0.length c0) x0 ∧ opsK.ow w A3 (.slice q3 x3.length c3) x3 ∧ (∀ b, A0 b → A b) ∧ (∀ b, A3 b → A b) ∧ (∀ b, A0 b → A3 b → False) := by
  obtain ⟨v0, vs0, A0, B0, e0, s0, t0, d0, k0, h0⟩ := h
  obtain ⟨vs1, e1, h1⟩ := h0
  obtain ⟨vs2, e2, h2⟩ := h1
  obtain ⟨v3, vs3, A3, B3, e3, s3, t3, d3, k3, h3⟩ := h2
  obtain ⟨vs4, e4, h4⟩ := h3
  obtain ⟨vs5, e5, h5⟩ := h4
  obtain ⟨vs6, e6, h6⟩ := h5
  have e7 : vs6 = _ := h6
  obtain ⟨q0, c0, f0, _, _⟩ := LRd.form (intsK.od k0)
  subst f0
  obtain ⟨q3, c3, f3, _, _⟩ := opsK_form (opsK.od k3)
  subst f3
  subst e7
  subst e6
  subst e5
  subst e4
  subst e3
  subst e2
  subst e1
  subst e0
  exact ⟨q0, c0, q3, c3, A0, A3, rfl, k0, k3, (fun b hb => s0 b (hb)), (fun b hb => t0 b (s3 b (hb))), (fun b h1 h2 => d0 b h1 (s3 b (h2)))⟩
theorem cacR_omk {w : World} {A : Nat → Prop} {x0 : List Int} {a1 : Int} {a2 : Int} {x3 : List Opn} {a4 : Int} {a5 : Int} {a6 : Int} {a7 : Int} {v0 : Value} {A0 : Nat → Prop} (k0 : intsK.ow w A0 v0 x0) {v3 : Value} {A3 : Nat → Prop} (k3 : opsK.ow w A3 v3 x3) (s0 : ∀ b, A0 b → A b) (s3 : ∀ b, A3 b → A b) (d0_3 : ∀ b, A0 b → A3 b → False) : cacR.ow w A [v0, .int .i64 a1, .int .i64 a2, v3, .int .i64 a4, .int .i64 a5, .int .i64 a6, .int .i64 a7] (x0, a1, a2, x3, a4, a5, a6, a7) := ⟨_, _, A0, (fun b => A3 b), rfl, s0, (fun b hb => s3 b hb), (fun b h1 hb => d0_3 b h1 hb), k0, ⟨_, rfl, ⟨_, rfl, ⟨_, _, A3, (fun _ => False), rfl, (fun b hb => hb), (fun _ h => h.elim), (fun _ _ h => h), k3, ⟨_, rfl, ⟨_, rfl, ⟨_, rfl, rfl⟩⟩⟩⟩⟩⟩⟩
def cerR : Rw (Int × Int × List Opn × Int × Int × Int × Int × Int × Int × List Opn × Int × Int × Int × Int) := int (int (sub opsK (int (int (int (int (int (int (sub opsK (int (int (int (leaf)))))))))))))
theorem cerR_rd {w : World} {cs : List Value} {a0 : Int} {a1 : Int} {x2 : List Opn} {a3 : Int} {a4 : Int} {a5 : Int} {a6 : Int} {a7 : Int} {a8 : Int} {x9 : List Opn} {a10 : Int} {a11 : Int} {a12 : Int} {a13 : Int} (h : cerR.rd w cs (a0, a1, x2, a3, a4, a5, a6, a7, a8, x9, a10, a11, a12, a13)) : ∃ (q2 : Option Addr) (c2 : Nat) (q9 : Option Addr) (c9 : Nat), cs = [.int .i64 a0, .int .i64 a1, .slice q2 x2.length c2, .int .i64 a3, .int .i64 a4, .int .i64 a5, .int .i64 a6, .int .i64 a7, .int .i64 a8, .slice q9 x9.length c9, .int .i64 a10, .int .i64 a11, .int .i64 a12, .int .i64 a13] ∧ opsK.rd w (.slice q2 x2.length c2) x2 ∧ opsK.rd w (.slice q9 x9.length c9) x9 := by
  obtain ⟨vs0, e0, h0⟩ := h
  obtain ⟨vs1, e1, h1⟩ := h0
  obtain ⟨v2, vs2, e2, k2, h2⟩ := h1
  obtain ⟨vs3, e3, h3⟩ := h2
  obtain ⟨vs4, e4, h4⟩ := h3
  obtain ⟨vs5, e5, h5⟩ := h4
  obtain ⟨vs6, e6, h6⟩ := h5
  obtain ⟨vs7, e7, h7⟩ := h6
  obtain ⟨vs8, e8, h8⟩ := h7
  obtain ⟨v9, vs9, e9, k9, h9⟩ := h8
  obtain ⟨vs10, e10, h10⟩ := h9
  obtain ⟨vs11, e11, h11⟩ := h10
  obtain ⟨vs12, e12, h12⟩ := h11
  have e13 : vs12 = _ := h12
  obtain ⟨q2, c2, f2, _, _⟩ := opsK_form k2
  subst f2
  obtain ⟨q9, c9, f9, _, _⟩ := opsK_form k9
  subst f9
  subst e13
  subst e12
  subst e11
  subst e10
  subst e9
  subst e8
  subst e7
  subst e6
  subst e5
  subst e4
  subst e3
  subst e2
  subst e1
  subst e0
  exact ⟨q2, c2, q9, c9, rfl, k2, k9⟩
theorem cerR_mk {w : World} {a0 : Int} {a1 : Int} {x2 : List Opn} {a3 : Int} {a4 : Int} {a5 : Int} {a6 : Int} {a7 : Int} {a8 : Int} {x9 : List Opn} {a10 : Int} {a11 : Int} {a12 : Int} {a13 : Int} {v2 : Value} (k2 : opsK.rd w v2 x2) {v9 : Value} (k9 : opsK.rd w v9 x9) : cerR.rd w [.int .i64 a0, .int .i64 a1, v2, .int .i64 a3, .int .i64 a4, .int .i64 a5, .int .i64 a6, .int .i64 a7, .int .i64 a8, v9, .int .i64 a10, .int .i64 a11, .int .i64 a12, .int .i64 a13] (a0, a1, x2, a3, a4, a5, a6, a7, a8, x9, a10, a11, a12, a13) := ⟨_, rfl, ⟨_, rfl, ⟨_, _, rfl, k2, ⟨_, rfl, ⟨_, rfl, ⟨_, rfl, ⟨_, rfl, ⟨_, rfl, ⟨_, rfl, ⟨_, _, rfl, k9, ⟨_, rfl, ⟨_, rfl, ⟨_, rfl, rfl⟩⟩⟩⟩⟩⟩⟩⟩⟩⟩⟩⟩⟩
theorem cerR_own {w : World} {A : Nat → Prop} {cs : List Value} {a0 : Int} {a1 : Int} {x2 : List Opn} {a3 : Int} {a4 : Int} {a5 : Int} {a6 : Int} {a7 : Int} {a8 : Int} {x9 : List Opn} {a10 : Int} {a11 : Int} {a12 : Int} {a13 : Int} (h : cerR.ow w A cs (a0, a1, x2, a3, a4, a5, a6, a7, a8, x9, a10, a11, a12, a13)) : ∃ (q2 : Option Addr) (c2 : Nat) (q9 : Option Addr) (c9 : Nat) (A2 : Nat → Prop) (A9 : Nat → Prop), cs = [.int .i64 a0, .int .i64 a1, .slice q2 x2.length c2, .int .i64 a3, .int .i64 a4, .int .i64 a5, .int .i64 a6, .int .i64 a7, .int .i64 a8, .slice q9 x9.length c9, .int .i64 a10, .int .i64 a11, .int .i64 a12, .int .i64 a13] ∧ opsK.ow w A2 (.slice q2 x2.length c2) x2 ∧ opsK.ow w A9 (.slice q9 x9.length c9) x9 ∧ (∀ b, A2 b → A b) ∧ (∀ b, A9 b → A b) ∧ (∀ b, A2 b → A9 b → False) := by
  obtain ⟨vs0, e0, h0⟩ := h
  obtain ⟨vs1, e1, h1⟩ := h0
  obtain ⟨v2, vs2, A2, B2, e2, s2, t2, d2, k2, h2⟩ := h1
  obtain ⟨vs3, e3, h3⟩ := h2
  obtain ⟨vs4, e4, h4⟩ := h3
  obtain ⟨vs5, e5, h5⟩ := h4
  obtain ⟨vs6, e6, h6⟩ := h5
  obtain ⟨vs7, e7, h7⟩ := h6
  obtain ⟨vs8, e8, h8⟩ := h7
  obtain ⟨v9, vs9, A9, B9, e9, s9, t9, d9, k9, h9⟩ := h8
  obtain ⟨vs10, e10, h10⟩ := h9
  obtain ⟨vs11, e11, h11⟩ := h10
  obtain ⟨vs12, e12, h12⟩ := h11
  have e13 : vs12 = _ := h12
  obtain ⟨q2, c2, f2, _, _⟩ := opsK_form (opsK.od k2)
  subst f2
  obtain ⟨q9, c9, f9, _, _⟩ := opsK_form (opsK.od k9)
  subst f9
  subst e13
  subst e12
  subst e11
  subst e10
  subst e9
  subst e8
  subst e7
  subst e6
  subst e5
  subst e4
  subst e3
  subst e2
  subst e1
  subst e0
  exact ⟨q2, c2, q9, c9, A2, A9, rfl, k2, k9, (fun b hb => s2 b (hb)), (fun b hb => t2 b (s9 b (hb))), (fun b h1 h2 => d2 b h1 (s9 b (h2)))⟩
theorem cerR_omk {w : World} {A : Nat → Prop} {a0 : Int} {a1 : Int} {x2 : List Opn} {a3 : Int} {a4 : Int} {a5 : Int} {a6 : Int} {a7 : Int} {a8 : Int} {x9 : List Opn} {a10 : Int} {a11 : Int} {a12 : Int} {a13 : Int} {v2 : Value} {A2 : Nat → Prop} (k2 : opsK.ow w A2 v2 x2) {v9 : Value} {A9 : Nat → Prop} (k9 : opsK.ow w A9 v9 x9) (s2 : ∀ b, A2 b → A b) (s9 : ∀ b, A9 b → A b) (d2_9 : ∀ b, A2 b → A9 b → False) : cerR.ow w A [.int .i64 a0, .int .i64 a1, v2, .int .i64 a3, .int .i64 a4, .int .i64 a5, .int .i64 a6, .int .i64 a7, .int .i64 a8, v9, .int .i64 a10, .int .i64 a11, .int .i64 a12, .int .i64 a13] (a0, a1, x2, a3, a4, a5, a6, a7, a8, x9, a10, a11, a12, a13) := ⟨_, rfl, ⟨_, rfl, ⟨_, _, A2, (fun b => A9 b), rfl, s2, (fun b hb => s9 b hb), (fun b h1 hb => d2_9 b h1 hb), k2, ⟨_, rfl, ⟨_, rfl, ⟨_, rfl, ⟨_, rfl, ⟨_, rfl, ⟨_, rfl, ⟨_, _, A9, (fun _ => False), rfl, (fun b hb => hb), (fun _ h => h.elim), (fun _ _ h => h), k9, ⟨_, rfl, ⟨_, rfl, ⟨_, rfl, rfl⟩⟩⟩⟩⟩⟩⟩⟩⟩⟩⟩⟩⟩
abbrev CT := List Int × Int × Int × List Opn × Int × Int × Int × Int
abbrev PT := Int × Int × List Opn × Int × Int × Int × Int × Int × Int × List Opn × Int × Int × Int × Int
def cacK : Kd (List (List Int × Int × Int × List Opn × Int × Int × Int × Int)) := list cacR
def cerK : Kd (List (Int × Int × List Opn × Int × Int × Int × Int × Int × Int × List Opn × Int × Int × Int × Int)) := list cerR
end Go.Proofs.Ytlgpnogeoaoidaa.Dt
