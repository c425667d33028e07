/-
  slices.Backward of operations: what its iterator tells.
-/
import Derived.Test.YtflhehofgplcoaaDoorRng
import Derived.Test.YtflhehofgplcoaaDoorOiQ
namespace Go.Proofs.YtflhehofgplcoaaDoor.Op
set_option linter.unusedVariables false
set_option linter.unusedSimpArgs false
open Go.ChangeShapes Go.WideShapes Go.ChangeAt Go.RowKit IntS Flat Irk Rng
open Ir Dt
open Mch (Rec)
/-- The last so many operations with their places, from the end on. -/
def rv (ops : List Opn) : Nat → List (Nat × Opn)
  | 0 => []
  | k + 1 => match ops[ops.length - 1 - k]? with | some o => rv ops k ++ [(ops.length - 1 - k, o)] | none => rv ops k
theorem rv_next {ops : List Opn} {k : Nat} {o : Opn} (h : ops[ops.length - 1 - k]? = some o) : rv ops (k + 1) = rv ops k ++ [(ops.length - 1 - k, o)] := by
  show (match ops[ops.length - 1 - k]? with | some o => _ | none => _) = _
  rw [h]
def encO (x : Nat × Opn) : Array Value := #[.int .i64 (x.1 : Int), .agg #[.int .i64 x.2.kd, .int .i64 x.2.x, .int .i64 x.2.y, .int .i64 x.2.k, .int .i64 x.2.t]]
attribute [local go_sem] Oper.semAt_some
set_option maxRecDepth 100000 in
set_option maxHeartbeats 4000000 in
theorem backward (Bs B : Nat) (sv : Value) (ops : List Opn) (hl : ops.length ≤ 1000000) :
    Tells Tryd.prog 66 #[.pointer (some ⟨Bs, 0, none⟩)] encO (fun A => A.cell? ⟨Bs, 0, none⟩ = some sv ∧ ORow A B sv ops) (fun pre x _ _ => ∃ k, k < ops.length ∧ pre = rv ops k ∧ pre ++ [x] = rv ops (k + 1) ∧ x.1 = ops.length - 1 - k ∧ ops[x.1]? = some x.2) (fun xs => xs = rv ops ops.length) (fun _ => False) := by
  intro l J Jx W hS hb hY h0
  obtain ⟨hc, hr⟩ := hS _ _ h0
  obtain ⟨a, cap, off, rfl, h2, h3, hz, h4⟩ := hr
  unfold maxLen at h3
  obtain ⟨n, en⟩ : ∃ n, ops.length = n := ⟨_, rfl⟩
  have HC : Hid (∀ pre A, J pre A → A.cell? ⟨Bs, 0, none⟩ = some (.slice a ops.length cap)) := fun pre A hj => (hS pre A hj).1
  have HS : Hid (∀ pre A, J pre A → ∀ (i : Nat) x, ops[i]? = some x → a = some ⟨B, off, none⟩ ∧ OpAt A B (off + i * 5) x) := fun pre A hj i x hx => by
    obtain ⟨_, a', cap', off', e1, _, _, _, e2⟩ := hS pre A hj
    injection e1 with f1 _ _
    rcases e2 with e2 | ⟨e2, e3⟩
    · rw [e2] at hx; simp at hx
    · rcases h4 with h4 | ⟨h4, _⟩
      · rw [h4] at hx; simp at hx
      · subst h4
        rw [e2] at f1
        injection f1 with f2
        injection f2 with _ f3 _
        rw [f3]
        exact ⟨rfl, e3 i x hx⟩
  have EN := hide en
  rw [en] at h2 hl hc HC
  have HY := hide hY
  clear hS hb hY hz h4 en
  refine callsIn_of_wp Tryd.func66 rfl trivial ?_ rfl
  simp only [Tryd.ntmps66, List.size_toArray, List.length_cons, List.length_nil, Nat.reduceAdd, Nat.reduceSub, Array.replicate_succ, Array.replicate_zero, List.push_toArray, List.append_toArray, List.nil_append, List.cons_append]
  gi_wp2
  gi_loopw [3] (fun i wr => ∃ k : Nat, k ≤ n ∧ i = .int .i64 ((n : Int) - 1 - (k : Int)) ∧ J (rv ops k) wr) (fun i _ => (intOf i + 1).toNat)
  case atStart => exact ⟨0, Nat.zero_le _, by simp, h0⟩
  case round =>
    obtain ⟨k, hk, rfl, hJs⟩ := hrel
    clear hc
    have hcs := HC.out _ _ hJs
    by_cases hlt : k < n
    · obtain ⟨m, em⟩ : ∃ m : Nat, n - 1 - k = m := ⟨_, rfl⟩
      have emi : ((n : Int) - 1 - (k : Int)) = (m : Int) := by omega
      obtain ⟨x, ex⟩ : ∃ x, ops[m]? = some x := ⟨_, List.getElem?_eq_getElem (by rw [EN.out]; omega)⟩
      obtain ⟨rfl, c0, c1, c2, c3, c4⟩ := HS.out _ _ hJs m x ex
      have er : rv ops (k + 1) = rv ops k ++ [(m, x)] := by
        have := rv_next (ops := ops) (k := k) (o := x) (by rw [EN.out, em]; exact ex)
        rw [EN.out, em] at this
        exact this
      obtain ⟨fn, tmps, assign, body, hy, hR⟩ := HY.out _ (m, x) wr wr hJs (Below.refl _ _) ⟨k, by rw [EN.out]; exact hlt, rfl, er.symm, by rw [EN.out, em], ex⟩
      rw [← er] at hR
      unfold encO at hy
      simp only [] at hy
      have lk : ((m : Nat) : Int) < (n : Nat) := by omega
      rw [emi]
      clear ex er
      gi_wp2
      refine ⟨rfl, hR.mono ?_⟩
      rintro e W3 (⟨rfl, hJ3, _⟩ | ⟨rfl, hJx3⟩)
      · gi_wp2
        go_roundw
        case rel => exact ⟨k + 1, by omega, by simp; omega, hJ3⟩
        case measure => first | (simp [intOf]; done) | (simp [intOf]; omega)
      · gi_wp2
        refine bodyPost_ret (results_none rfl _ _ _) rfl ?_
        exact ⟨⟨_, rfl⟩, .inr ⟨_, hJx3⟩⟩
    · obtain rfl : k = n := by omega
      have em1 : ((k : Int) - 1 - (k : Int)) = -1 := by omega
      rw [em1]
      gi_wp2
      go_end0
      exact ⟨⟨_, rfl⟩, .inl ⟨_, by rw [EN.out], hJs⟩⟩
end Go.Proofs.YtflhehofgplcoaaDoor.Op
namespace Go.Proofs.YtflhehofgplcoaaDoor.Op
set_option linter.unusedVariables false
set_option linter.unusedSimpArgs false
open Go.ChangeShapes Go.WideShapes Go.ChangeAt Go.RowKit IntS Flat Irk Rng
open Ir Dt
open Mch (Rec)
/-- What is kept, and what is set again, behind so many operations from the end on. -/
structure SetS (ops : List Opn) (k : Nat) (K G : Nat) : Prop where
  kl : K < 2 ^ 64
  gl : G < 2 ^ 64
  kb : ∀ i, i < ops.length → ops.length - k ≤ i → K.testBit i = setK ops i
  kz : ∀ i, i < ops.length - k → K.testBit i = false
  gb : ∀ r : Nat, r < 4 → G.testBit r = lostR (r : Int) (ops.drop (ops.length - k))
theorem SetS.start (ops : List Opn) : SetS ops 0 0 0 :=
  ⟨by decide, by decide, fun i h1 h2 => by omega, fun i _ => Nat.zero_testBit i, fun r _ => by rw [Nat.sub_zero, List.drop_length, Nat.zero_testBit]; rfl⟩
theorem drop_at {ops : List Opn} {m : Nat} {o : Opn} (h : ops[m]? = some o) : ops.drop m = o :: ops.drop (m + 1) := by
  obtain ⟨h1, h2⟩ := List.getElem?_eq_some_iff.1 h
  rw [← h2]
  exact List.drop_eq_getElem_cons h1
/-- The word that is kept behind one operation more. -/
def nextK (ops : List Opn) (m : Nat) (o : Opn) (K G : Nat) : Nat := if o.kd = 8 ∧ G.testBit o.k.toNat = true then K else K ||| 2 ^ m
structure NextG (o : Opn) (G G' : Nat) : Prop where
  lt : G' < 2 ^ 64
  b8 : o.kd = 8 → ∀ i, G'.testBit i = (G.testBit i || decide (i = o.k.toNat))
  b2 : o.kd = 2 → ∀ i, G'.testBit i = (G.testBit i && decide (i ≠ o.k.toNat))
  b4 : o.kd = 4 ∨ o.kd = 5 → G' = 0
  bo : o.kd ≠ 8 → o.kd ≠ 2 → o.kd ≠ 4 → o.kd ≠ 5 → G' = G
theorem SetS.next {ops : List Opn} {k K G G' m : Nat} {o : Opn} (h : SetS ops k K G) (hk : k < ops.length) (hm : ops.length - 1 - k = m) (ho : ops[m]? = some o) (hn : ops.length ≤ 48) (hr : o.kd = 2 ∨ o.kd = 8 → 0 ≤ o.k ∧ o.k ≤ 3) (hg : NextG o G G') : SetS ops (k + 1) (nextK ops m o K G) G' := by
  have e1 : ops.length - (k + 1) = m := by omega
  have e2 : ops.length - k = m + 1 := by omega
  have S : setK ops m = (decide (o.kd ≠ 8) || !lostR o.k (ops.drop (m + 1))) := by unfold setK; rw [ho]
  have B := h.gb
  rw [e2] at B
  have LT : nextK ops m o K G < 2 ^ 64 := by
    unfold nextK
    split
    · exact h.kl
    · exact with_lt h.kl (by omega)
  refine ⟨LT, hg.lt, fun i h1 h2 => ?_, fun i h1 => ?_, fun r hr4 => ?_⟩
  · rw [e1] at h2
    by_cases e : i = m
    · subst e
      have kz := h.kz i (by omega)
      rw [S]
      unfold nextK
      by_cases e8 : o.kd = 8
      · obtain ⟨r1, r2⟩ := hr (Or.inr e8)
        have := B o.k.toNat (by omega)
        rw [Int.toNat_of_nonneg r1] at this
        rw [← this, decide_eq_false (by simpa using e8)]
        by_cases eb : G.testBit o.k.toNat = true
        · rw [if_pos ⟨e8, eb⟩, kz, eb]; rfl
        · rw [if_neg (fun h => eb h.2), with_bits, (by simpa using eb : G.testBit o.k.toNat = false)]; simp
      · rw [if_neg (fun h => e8 h.1), with_bits]; simp [e8]
    · rw [← h.kb i h1 (by omega)]
      unfold nextK
      split
      · rfl
      · rw [with_bits, decide_eq_false e]; simp
  · rw [e1] at h1
    have := h.kz i (by omega)
    unfold nextK
    split
    · exact this
    · rw [with_bits, decide_eq_false (by omega), this]; rfl
  · rw [e1, drop_at ho]
    unfold lostR
    have Br := B r hr4
    by_cases c4 : o.kd = 4 ∨ o.kd = 5
    · rw [if_pos (by omega), hg.b4 c4, Nat.zero_testBit]
    · by_cases c2 : o.kd = 2
      · obtain ⟨r1, r2⟩ := hr (Or.inl c2)
        rw [hg.b2 c2 r]
        by_cases er : o.k = (r : Int)
        · rw [if_pos (Or.inr (Or.inr ⟨c2, er⟩)), decide_eq_false (by omega)]; simp
        · rw [if_neg (by omega), if_neg (by omega), decide_eq_true (by omega), Br]; simp
      · by_cases c8 : o.kd = 8
        · obtain ⟨r1, r2⟩ := hr (Or.inr c8)
          rw [hg.b8 c8 r, if_neg (by omega)]
          by_cases er : o.k = (r : Int)
          · rw [if_pos ⟨c8, er⟩, decide_eq_true (by omega)]; simp
          · rw [if_neg (by omega), decide_eq_false (by omega), Br]; simp
        · rw [if_neg (by omega), if_neg (by omega), hg.bo c8 c2 (by omega) (by omega), Br]
theorem SetS.end_ {ops : List Opn} {K G : Nat} (h : SetS ops ops.length K G) : ∀ i, i < ops.length → K.testBit i = (setsK ops).getD i false := fun i hi => by rw [setsK_at]; exact h.kb i hi (by omega)
/-- What is used, behind so many operations from the end on. -/
def kdU (ops : List Opn) (i : Nat) : Bool := match ops[i]? with | some o => decide (4 ≤ o.kd) | none => false
structure UseS (b : Bk) (k : Nat) (U : Nat) : Prop where
  ul : U < 2 ^ 64
  ex : ∃ us : List Bool, us.length = b.ops.length ∧ usedD b.ops (b.ops.length - k) us = usedL b ∧ (∀ i, i < b.ops.length → b.ops.length - k ≤ i → U.testBit i = us.getD i false) ∧ (∀ i, i < b.ops.length - k → us.getD i false = (kdU b.ops i || U.testBit i))
theorem UseS.start {b : Bk} (h : okB b = true) {U : Nat} (hl : U < 2 ^ 64) (hb : ∀ i, U.testBit i = ((decide (b.en ≠ 1) && decide (i = b.x.toNat)) || (decide (b.en = 3 ∨ b.en = 4) && decide (i = b.y.toNat)))) : UseS b 0 U :=
  ⟨hl, used0 b, used0_len b, rfl, fun i h1 h2 => by omega, fun i hi => by rw [used0_at h, hb i, ← Bool.or_assoc]; rfl⟩
theorem UseS.next {b : Bk} {k U U' m : Nat} {o : Opn} (H : UseS b k U) (h : okB b = true) (hk : k < b.ops.length) (hm : b.ops.length - 1 - k = m) (ho : b.ops[m]? = some o) (hl : U' < 2 ^ 64)
    (hb : ∀ i, U'.testBit i = (U.testBit i || ((decide (4 ≤ o.kd) || U.testBit m) && (decide (i = m) || (mvX o.kd && decide (i = o.x.toNat)) || (mvY o.kd && decide (i = o.y.toNat)))))) : UseS b (k + 1) U' := by
  obtain ⟨us, l1, e, a1, a2⟩ := H.ex
  have e1 : b.ops.length - (k + 1) = m := by omega
  have e2 : b.ops.length - k = m + 1 := by omega
  rw [e2] at e a1 a2
  obtain ⟨_, _, _, h4, _⟩ := ok_parts h
  obtain ⟨_, p1, _, p3, _⟩ := op_parts (h4 m o ho)
  have X : ∀ i, m ≤ i → (mvX o.kd && decide (i = o.x.toNat)) = false := fun i hi => by
    by_cases e : mvX o.kd = true
    · obtain ⟨m, _, e1, e2, _⟩ := val_take (p1 e)
      rw [decide_eq_false (by omega)]; simp
    · rw [(by simpa using e : mvX o.kd = false)]; rfl
  have Y : ∀ i, m ≤ i → (mvY o.kd && decide (i = o.y.toNat)) = false := fun i hi => by
    by_cases e : mvY o.kd = true
    · obtain ⟨m, _, e1, e2, _⟩ := val_take (p3 e)
      rw [decide_eq_false (by omega)]; simp
    · rw [(by simpa using e : mvY o.kd = false)]; rfl
  have um : us.getD m false = (decide (4 ≤ o.kd) || U.testBit m) := by rw [a2 m (by omega)]; unfold kdU; rw [ho]
  refine ⟨hl, usedO b.ops m us, by rw [usedO_len]; exact l1, by rw [e1]; exact e, fun i h1 h2 => ?_, fun i h1 => ?_⟩
  · rw [e1] at h2
    rw [usedO_at h ho l1, hb i, X i h2, Y i h2, um]
    by_cases e : i = m
    · subst e
      rw [um]
      cases decide (4 ≤ o.kd) <;> cases U.testBit i <;> simp
    · rw [a1 i h1 (by omega), decide_eq_false e]; simp
  · rw [e1] at h1
    rw [usedO_at h ho l1, hb i, um, a2 i (by omega), decide_eq_false (show ¬ i = m by omega)]
    cases kdU b.ops i <;> cases U.testBit i <;> cases decide (4 ≤ o.kd) <;> cases U.testBit m <;> simp
theorem UseS.end_ {b : Bk} {U : Nat} (H : UseS b b.ops.length U) : ∀ i, i < b.ops.length → U.testBit i = (usedL b).getD i false := fun i hi => by
  obtain ⟨us, l1, e, a1, a2⟩ := H.ex
  rw [Nat.sub_self] at e a1
  rw [a1 i hi (Nat.zero_le _), ← e]
  rfl
end Go.Proofs.YtflhehofgplcoaaDoor.Op
namespace Go.Proofs.YtflhehofgplcoaaDoor.Op
set_option linter.unusedVariables false
set_option linter.unusedSimpArgs false
open Go.ChangeShapes Go.WideShapes Go.ChangeAt Go.RowKit IntS Flat Irk Rng
open Ir Dt
open Mch (Rec)
open Pol (Keep)
theorem rv_len (ops : List Opn) : ∀ k, k ≤ ops.length → (rv ops k).length = k
  | 0, _ => rfl
  | k + 1, h => by
    obtain ⟨o, e⟩ : ∃ o, ops[ops.length - 1 - k]? = some o := ⟨_, List.getElem?_eq_getElem (by omega)⟩
    rw [rv_next e, List.length_append, rv_len ops k (by omega)]
    rfl
theorem frozen_mildM {B : Nat} {A A' : World} (h : Mild B A A') {a : Addr} {v : Value} {b : Addr} (hb : b.block = a.block) (hc : A.cell? a = some v) (hf : A.frozen? b = false) : A'.frozen? b = false := by
  unfold World.cell? at hc
  unfold World.frozen? at hf ⊢
  rw [hb] at hf ⊢
  cases ho : A.heap[a.block]? with
  | none => simp [ho] at hc
  | some o =>
    cases o with
    | cells cs t z => rw [h.cells _ _ _ _ ho]; simpa [ho] using hf
    | _ => simp [ho] at hc
theorem recM_mild {B Z : Nat} {c : Value} {cs : List Value} {A A' : World} (h : Rec Z (c :: cs) A) (hm : Mild B A A') : Rec Z (c :: cs) A' :=
  ⟨Nat.lt_of_lt_of_le h.lt hm.size, fun i v hv => hm.cell (h.cell i v hv), fun i => frozen_mildM hm (a := ⟨Z, 0, none⟩) rfl (h.cell 0 c rfl) (h.soft i)⟩
theorem keepsM_turn {C B : Nat} {A A' : World} (h : Turn C A A') (hC : C < B) : KeepsFrom B A A' := ⟨h.size, fun k o hk ho _ => (h.block k (lt_of_some ho) (by omega)).trans ho⟩
theorem keepsM_below {B : Nat} {A A' : World} (h : Below A.heap.size A A') : KeepsFrom B A A' := ⟨h.size, fun k o _ ho _ => (h.block k (lt_of_some ho)).trans ho⟩
theorem keepsM_refl {B : Nat} (A : World) : KeepsFrom B A A := ⟨Nat.le_refl _, fun k o _ ho _ => ho⟩
theorem turn_put {A : World} {D : Nat} (o : Obj) : Turn D A (A.putObj D o) := ⟨rfl, rfl, rfl, by simp, fun k _ hne => World.putObj_heap_other hne⟩
theorem mildM_below {W w A A' : World} (h : Below w.heap.size w A) (hm : Mild W.heap.size A A') (hW : w.heap.size ≤ W.heap.size) : Below w.heap.size w A' := Mild.below h ⟨hm.os, hm.tape, hm.output, hm.size, fun k hk hl => hm.low k (by omega) hl, hm.cells⟩ (Nat.le_refl _)
theorem fold_two (t : Array Value) (p q : Nat) (a b : Value) : (Array.zip #[p, q] #[a, b]).foldl (fun t (x : Tmp × Value) => match x with | (p, v) => t.setIfInBounds p v) t = (t.setIfInBounds p a).setIfInBounds q b := by simp
theorem encO_eq (m : Nat) (kd x y k t : Int) : encO (m, ⟨kd, x, y, k, t⟩) = #[.int .i64 (m : Int), .agg #[.int .i64 kd, .int .i64 x, .int .i64 y, .int .i64 k, .int .i64 t]] := rfl
attribute [local go_sem] Oper.semAt_some
set_option maxRecDepth 8000 in
theorem backwardOf (a : Option Addr) (n cap : Nat) (w : World) : Calls Tryd.prog 48 #[.slice a n cap] w fun e w' => e = .returned (.func (.func 66) #[] #[.pointer (some ⟨w.heap.size, 0, none⟩)]) ∧ w' = w.alloc (.cells #[.slice a n cap] 26) := by
  go_enter Tryd.func48, Tryd.ntmps48
  go_wp2
  go_ret
  exact ⟨rfl, rfl⟩
theorem enterB : ∀ args w, (callFunc 66 args).run Tryd.prog w = .ok (.enter 66 args) w := enters_of Tryd.func66 (by kernel_rfl) rfl
/-- leaveSets' boxes: what is kept, what is set again, and the slice that is gone through. -/
structure Bx (w : World) (q : Option Addr) (n c K G : Nat) (A : World) : Prop where
  bw : Below w.heap.size w A
  rk : Rec w.heap.size [.int .u64 (K : Int)] A
  rg : Rec (w.heap.size + 1) [.int .u64 (G : Int)] A
  rs : Rec (w.heap.size + 1 + 1) [.slice q n c] A
theorem Bx.mild {w A A' W : World} {q : Option Addr} {n c K G : Nat} (h : Bx w q n c K G A) (hm : Mild W.heap.size A A') (hW : w.heap.size ≤ W.heap.size) : Bx w q n c K G A' :=
  ⟨mildM_below h.bw hm hW, recM_mild h.rk hm, recM_mild h.rg hm, recM_mild h.rs hm⟩
theorem Bx.putK {w A : World} {q : Option Addr} {n c K G : Nat} (h : Bx w q n c K G A) (K' : Nat) : Bx w q n c K' G (A.setCell ⟨w.heap.size, 0, none⟩ (.int .u64 (K' : Int))) ∧ Turn w.heap.size A (A.setCell ⟨w.heap.size, 0, none⟩ (.int .u64 (K' : Int))) := by
  have t := (Turn.refl w.heap.size A).setCell (p := ⟨w.heap.size, 0, none⟩) rfl (.int .u64 (K' : Int))
  exact ⟨⟨h.bw.trans (t.below (Nat.le_refl _) h.bw.size), h.rk.set 0 _ (by simp) rfl, h.rg.turn t (by omega), h.rs.turn t (by omega)⟩, t⟩
theorem Bx.putG {w A : World} {q : Option Addr} {n c K G : Nat} (h : Bx w q n c K G A) (G' : Nat) : Bx w q n c K G' (A.setCell ⟨w.heap.size + 1, 0, none⟩ (.int .u64 (G' : Int))) ∧ Turn (w.heap.size + 1) A (A.setCell ⟨w.heap.size + 1, 0, none⟩ (.int .u64 (G' : Int))) := by
  have t := (Turn.refl (w.heap.size + 1) A).setCell (p := ⟨w.heap.size + 1, 0, none⟩) rfl (.int .u64 (G' : Int))
  exact ⟨⟨h.bw.trans (t.below (by omega) h.bw.size), h.rk.turn t (by omega), h.rg.set 0 _ (by simp) rfl, h.rs.turn t (by omega)⟩, t⟩
/-- Behind so many rounds. -/
structure Bck (w : World) (ops : List Opn) (q : Option Addr) (n c : Nat) (pre : List (Nat × Opn)) (A : World) : Prop where
  le : pre.length ≤ ops.length
  eq : pre = rv ops pre.length
  ex : ∃ K G, SetS ops pre.length K G ∧ Bx w q n c K G A
theorem Bck.mild {w A A' W : World} {ops : List Opn} {q : Option Addr} {n c : Nat} {pre : List (Nat × Opn)} (h : Bck w ops q n c pre A) (hm : Mild W.heap.size A A') (hW : w.heap.size ≤ W.heap.size) : Bck w ops q n c pre A' :=
  ⟨h.le, h.eq, let ⟨K, G, h1, h2⟩ := h.ex; ⟨K, G, h1, h2.mild hm hW⟩⟩
theorem Bck.bw {w A : World} {ops : List Opn} {q : Option Addr} {n c : Nat} {pre : List (Nat × Opn)} (h : Bck w ops q n c pre A) : Below w.heap.size w A := let ⟨_, _, _, h2⟩ := h.ex; h2.bw
theorem Bck.rs {w A : World} {ops : List Opn} {q : Option Addr} {n c : Nat} {pre : List (Nat × Opn)} (h : Bck w ops q n c pre A) : Rec (w.heap.size + 1 + 1) [.slice q n c] A := let ⟨_, _, _, h2⟩ := h.ex; h2.rs
end Go.Proofs.YtflhehofgplcoaaDoor.Op
namespace Go.Proofs.YtflhehofgplcoaaDoor.Op
set_option linter.unusedVariables false
set_option linter.unusedSimpArgs false
open Go.ChangeShapes Go.WideShapes Go.ChangeAt Go.RowKit IntS Flat Irk Rng
open Ir Dt
open Mch (Rec)
open Pol (Keep)
attribute [local go_sem] Oper.semAt_some
def AxS (w : World) (ops : List Opn) (Z : Nat) (q : Option Addr) (n c : Nat) (pre : List (Nat × Opn)) (x : Nat × Opn) (a₁ : Act) (A : World) : Prop :=
  Bck w ops q n c pre A ∧ pre.length < ops.length ∧ pre ++ [x] = rv ops (pre.length + 1) ∧ x.1 = ops.length - 1 - pre.length ∧ ops[x.1]? = some x.2 ∧ ∃ X, w.heap.size + 3 ≤ X ∧ Rec X [.int .i64 x.2.kd, .int .i64 x.2.x, .int .i64 x.2.y, .int .i64 x.2.k, .int .i64 x.2.t] A ∧
    a₁ = { tmps := #[.pointer (some ⟨Z, 0, none⟩), undef, .pointer (some ⟨w.heap.size, 0, none⟩), .pointer (some ⟨w.heap.size + 1, 0, none⟩), .int .i64 (x.1 : Int), .pointer (some ⟨X, 0, none⟩), .pointer (some ⟨Z, 0, none⟩), .pointer (some ⟨Z, 0, none⟩), .pointer (some ⟨Z, 0, none⟩), .pointer (some ⟨Z, 2, none⟩), .slice q n c, .func (.func 66) #[] #[.pointer (some ⟨w.heap.size + 1 + 1, 0, none⟩)], .int .i64 (x.1 : Int), .agg #[.int .i64 x.2.kd, .int .i64 x.2.x, .int .i64 x.2.y, .int .i64 x.2.k, .int .i64 x.2.t], undef, undef, undef, undef, undef, undef, undef, undef, undef, undef, undef, undef, undef, undef, undef, undef, undef, undef, undef, undef, undef, undef, undef, undef, undef, undef, undef, undef, undef, undef, undef, undef, undef], defers := [] }
set_option maxRecDepth 100000 in
set_option maxHeartbeats 8000000 in
theorem leaveSets (b : Bk) (Z : Nat) (q : Option Addr) (n c : Nat) (w : World) (ht : Based w Z q) (h : Hd w Z q n c b) (hok : okB b = true) :
    Calls Tryd.prog 30 #[.pointer (some ⟨Z, 0, none⟩)] w fun e w' => Wy w Z q (dropB b (setsK b.ops)) e w' := by
  obtain ⟨h1, h2, h3, h4, h5⟩ := ok_parts hok
  have HD := hide h
  have TB := hide ht
  have OK := hide hok
  have hl := h.ops.len
  have HL := hide hl
  have z2 := h.box.cell 2 _ rfl
  have zl := h.box.lt
  obtain ⟨B, hrow⟩ := h.ops.row
  have HR := hide hrow
  have OPS : Hid (∀ (k : Nat) o, b.ops[k]? = some o → o.kd = 2 ∨ o.kd = 8 → 0 ≤ o.k ∧ o.k ≤ 3) := fun k o ho => (op_parts (h4 k o ho)).2.2.2.2.2.1
  have T := backward (w.heap.size + 1 + 1) B (.slice q n c) b.ops (by omega)
  obtain ⟨ops, eo⟩ : ∃ z, b.ops = z := ⟨_, rfl⟩
  rw [eo] at HR HL OPS T hl h3 ⊢
  have EO := hide eo
  clear h ht hok h1 h2 h4 h5 hrow eo
  refine (callsIn_wide (n := 0)).1 ?_
  refine callsIn_of_wp_marks Tryd.func30 rfl trivial ?_ rfl
  simp only [Tryd.ntmps30, List.size_toArray, List.length_cons, List.length_nil, Nat.reduceAdd, Nat.reduceSub, Array.replicate_succ, Array.replicate_zero, List.push_toArray, List.append_toArray, List.nil_append, List.cons_append]
  gi_wp2_with fail
  refine ⟨trivial, rfl, (callsIn_wide.2 (backwardOf _ _ _ _)).mono ?_⟩
  rintro e u ⟨rfl, rfl⟩
  simp only [World.size_alloc]
  have TP : Bck w ops q n c [] (((w.alloc (.cells #[.int .u64 0] 53)).alloc (.cells #[.int .u64 0] 53)).alloc (.cells #[.slice q n c] 26)) := by
    have b1 := (Below.refl _ w).alloc (Nat.le_refl _) (.cells #[.int .u64 0] 53)
    have b2 := b1.alloc b1.size (.cells #[.int .u64 0] 53)
    have b3 := b2.alloc b2.size (.cells #[.slice q n c] 26)
    have x1 := Rec.new w [.int .u64 0] 53
    have x2 := Rec.new (w.alloc (.cells #[.int .u64 0] 53)) [.int .u64 0] 53
    have x3 := Rec.new ((w.alloc (.cells #[.int .u64 0] 53)).alloc (.cells #[.int .u64 0] 53)) [.slice q n c] 26
    simp only [World.size_alloc] at x2 x3
    exact ⟨Nat.zero_le _, rfl, 0, 0, SetS.start ops, b3, (x1.alloc _).alloc _, x2.alloc _, x3⟩
  have hsz : ((((w.alloc (.cells #[.int .u64 0] 53)).alloc (.cells #[.int .u64 0] 53)).alloc (.cells #[.slice q n c] 26)) : World).heap.size = w.heap.size + 3 := by simp
  generalize (((w.alloc (.cells #[.int .u64 0] 53)).alloc (.cells #[.int .u64 0] 53)).alloc (.cells #[.slice q n c] 26)) = W0 at TP hsz ⊢
  have HSZ := hide hsz
  have TPH := hide TP
  clear hsz TP z2
  gi_wp2
  refine range (gf := 66) (lb := #[.pointer (some ⟨w.heap.size + 1 + 1, 0, none⟩)]) rfl enterB T (fun _ => rfl)
    (fun pre A => Bck w ops q n c pre A) (fun _ A => False) (fun pre x a₁ A => AxS w ops Z q n c pre x a₁ A)
    (fun pre A h => ⟨h.rs.cell 0 _ rfl, HR.out.below h.bw⟩)
    (fun pre A A' h hm => h.mild hm (by rw [HSZ.out]; omega))
    (fun pre A A' h hm => h)
    (fun pre x a₁ A A' h hm => ⟨h.1.mild hm (by rw [HSZ.out]; omega), h.2.1, h.2.2.1, h.2.2.2.1, h.2.2.2.2.1, let ⟨X, h1, h2, h3⟩ := h.2.2.2.2.2; ⟨X, h1, recM_mild h2 hm, h3⟩⟩)
    TPH.out ?_ ?_ ?_ ?_
  · intro l pre x A₀ A K hI hb hF hK
    obtain ⟨k, k1, k2, k3, k4, k5⟩ := hF
    obtain rfl : k = pre.length := by have := rv_len ops k (by omega); rw [← k2] at this; exact this.symm
    have h1 := hI.mild (Mild.of_below (B := w.heap.size) hb) (Nat.le_refl _)
    have K1 := hide k1
    have K3 := hide k3
    have K4 := hide k4
    have K5 := hide k5
    clear k1 k2 k3 k4 k5
    have lo : w.heap.size + 3 ≤ A.heap.size := h1.rs.lt
    obtain ⟨m, kd, ox, oy, ok, ot⟩ := x
    have H1 := hide h1
    clear h1
    rw [encO_eq, fold_two]
    simp only [List.setIfInBounds_toArray, List.set]
    gi_wp2
    exact hK _ _ ((KeepsOthers.alloc _ _).from _) (Mild.alloc (B := 0) _ _).kept ⟨H1.out.mild (Mild.alloc (B := w.heap.size) _ _) (Nat.le_refl _), K1.out, K3.out, K4.out, K5.out, A.heap.size, lo, Rec.new A [.int .i64 kd, .int .i64 ox, .int .i64 oy, .int .i64 ok, .int .i64 ot] 41, rfl⟩
  · rintro l pre x a₁ A ⟨hI, p1, p2, p3, p4, X, xl, xr, rfl⟩
    obtain ⟨K, G, hS, hB⟩ := hI.ex
    obtain ⟨m, kd, ox, oy, ok, ot⟩ := x
    simp only [] at p2 p3 p4 xr ⊢
    have hr := OPS.out m _ p4
    simp only [] at hr
    have el : (pre ++ [(m, (⟨kd, ox, oy, ok, ot⟩ : Opn))]).length = pre.length + 1 := by simp
    have NXT : Hid (∀ (G' : Nat) (A' : World), NextG ⟨kd, ox, oy, ok, ot⟩ G G' → Bx w q n c (nextK ops m ⟨kd, ox, oy, ok, ot⟩ K G) G' A' → Bck w ops q n c (pre ++ [(m, (⟨kd, ox, oy, ok, ot⟩ : Opn))]) A') := fun G' A' g1 g2 =>
      ⟨by rw [el]; omega, by rw [el]; exact p2, _, _, by rw [el]; exact hS.next p1 p3.symm p4 h3 hr g1, g2⟩
    have m48 : m < 48 := by omega
    have HB := hide hB
    have kl := hS.kl
    have gl := hS.gl
    have c0 := xr.cell 0 _ rfl
    have c3 := xr.cell 3 _ rfl
    have r0 := hB.rk.cell 0 _ rfl
    have rs := hB.rk.soft 0
    have g0 := hB.rg.cell 0 _ rfl
    have gs := hB.rg.soft 0
    have HX := hide xr
    have HP := hide p4
    have szl : w.heap.size + 3 ≤ A.heap.size := hB.rs.lt
    have HRR := hide hr
    clear hI hS hB xr p1 p2 p3 p4 hr el
    by_cases e8 : kd = 8
    · subst e8
      obtain ⟨r1, r2⟩ := HRR.out (Or.inr rfl)
      obtain ⟨r, rfl⟩ : ∃ r : Nat, ok = r := ⟨ok.toNat, by omega⟩
      have r64 : r < 64 := by omega
      have NG : Hid (NextG ⟨8, ox, oy, (r : Int), ot⟩ G (G ||| 2 ^ r)) := ⟨with_lt gl r64, fun _ i => with_bits G r i, (fun e => by cases e), (fun e => by rcases e with e | e <;> cases e), fun e => (e rfl).elim⟩
      gi_wp2_with fail
      refine ⟨trivial, rfl, (callsIn_wide.2 (bitHas G r A gl r64)).mono ?_⟩
      rintro e u ⟨rfl, rfl⟩
      cases eb : G.testBit r with
      | true =>
        have NK : nextK ops m ⟨8, ox, oy, (r : Int), ot⟩ K G = K := by unfold nextK; rw [if_pos ⟨rfl, eb⟩]
        rw [NK] at NXT
        clear NK eb
        gi_wp2_with fail
        refine ⟨trivial, rfl, (callsIn_wide.2 (bitWith G r u gl r64)).mono ?_⟩
        rintro e u2 ⟨rfl, rfl⟩
        obtain ⟨f1, f2⟩ := HB.out.putG (G ||| 2 ^ r)
        have FIN : Hid (KeepsFrom W0.heap.size u2 _ ∧ _) := ⟨keepsM_turn f2 (by rw [HSZ.out]; omega), NXT.out _ _ NG.out f1⟩
        clear f1 f2
        gi_wp2
        exact ⟨FIN.out.1, FIN.out.2, fun _ _ _ _ h => h.elim⟩
      | false =>
        have NK : nextK ops m ⟨8, ox, oy, (r : Int), ot⟩ K G = K ||| 2 ^ m := by unfold nextK; rw [if_neg (by simp [eb])]
        rw [NK] at NXT
        clear NK eb
        gi_wp2_with fail
        refine ⟨trivial, rfl, (callsIn_wide.2 (bitWith K m u kl (by omega))).mono ?_⟩
        rintro e u2 ⟨rfl, rfl⟩
        obtain ⟨f1, f2⟩ := HB.out.putK (K ||| 2 ^ m)
        have X1 := HX.out.turn f2 (by omega)
        have c0' := X1.cell 0 _ rfl
        have c3' := X1.cell 3 _ rfl
        have g0' := f1.rg.cell 0 _ rfl
        have gs' := f1.rg.soft 0
        have F1 := hide f1
        have F2 := hide f2
        clear f1 f2 X1 c0 c3
        gi_wp2_with fail
        generalize u2.setCell ⟨w.heap.size, 0, none⟩ (.int .u64 ((K ||| 2 ^ m : Nat) : Int)) = V at c0' c3' g0' gs' F1 F2 ⊢
        refine ⟨trivial, rfl, (callsIn_wide.2 (bitWith G r V gl r64)).mono ?_⟩
        rintro e u3 ⟨rfl, rfl⟩
        obtain ⟨f1, f2⟩ := F1.out.putG (G ||| 2 ^ r)
        have FIN : Hid (KeepsFrom W0.heap.size u2 _ ∧ _) := ⟨(keepsM_turn F2.out (by rw [HSZ.out]; omega)).trans (keepsM_turn f2 (by rw [HSZ.out]; omega)), NXT.out _ _ NG.out f1⟩
        clear f1 f2
        gi_wp2
        exact ⟨FIN.out.1, FIN.out.2, fun _ _ _ _ h => h.elim⟩
    · have n8 : (kd == 8) = false := beq_eq_false_iff_ne.2 e8
      have n8' : (kd != 8) = true := bne_iff_ne.2 e8
      have NK : nextK ops m ⟨kd, ox, oy, ok, ot⟩ K G = K ||| 2 ^ m := by unfold nextK; rw [if_neg (fun h => e8 h.1)]
      rw [NK] at NXT
      clear NK
      gi_wp2_with fail
      refine ⟨trivial, ?_⟩
      gi_wp2_with fail
      refine ⟨trivial, rfl, (callsIn_wide.2 (bitWith K m A kl (by omega))).mono ?_⟩
      rintro e u2 ⟨rfl, rfl⟩
      obtain ⟨f1, f2⟩ := HB.out.putK (K ||| 2 ^ m)
      have X1 := HX.out.turn f2 (by omega)
      have c0' := X1.cell 0 _ rfl
      have c3' := X1.cell 3 _ rfl
      have g0' := f1.rg.cell 0 _ rfl
      have gs' := f1.rg.soft 0
      have F1 := hide f1
      have F2 := hide f2
      clear f1 f2 X1 c0 c3
      by_cases e2 : kd = 2
      · subst e2
        obtain ⟨r1, r2⟩ := HRR.out (Or.inl rfl)
        obtain ⟨r, rfl⟩ : ∃ r : Nat, ok = r := ⟨ok.toNat, by omega⟩
        have r64 : r < 64 := by omega
        gi_wp2_with fail
        generalize u2.setCell ⟨w.heap.size, 0, none⟩ (.int .u64 ((K ||| 2 ^ m : Nat) : Int)) = V at c0' c3' g0' gs' F1 F2 ⊢
        refine ⟨trivial, rfl, (callsIn_wide.2 (bitWithout G r V gl r64)).mono ?_⟩
        rintro e u3 ⟨t, t1, t2, rfl, rfl⟩
        have NG : NextG ⟨2, ox, oy, (r : Int), ot⟩ G t := ⟨t1, (fun e => by cases e), fun _ i => t2 i, (fun e => by rcases e with e | e <;> cases e), fun _ e => (e rfl).elim⟩
        obtain ⟨f1, f2⟩ := F1.out.putG t
        have FIN : Hid (KeepsFrom W0.heap.size u2 _ ∧ _) := ⟨(keepsM_turn F2.out (by rw [HSZ.out]; omega)).trans (keepsM_turn f2 (by rw [HSZ.out]; omega)), NXT.out _ _ NG f1⟩
        clear f1 f2 NG t2
        gi_wp2
        exact ⟨FIN.out.1, FIN.out.2, fun _ _ _ _ h => h.elim⟩
      · have n2 : (kd == 2) = false := beq_eq_false_iff_ne.2 e2
        by_cases e4 : kd = 4 ∨ kd = 5
        · have NG : NextG ⟨kd, ox, oy, ok, ot⟩ G 0 := ⟨by decide, (fun e => (e8 e).elim), (fun e => (e2 e).elim), fun _ => rfl, fun _ _ e e' => by rcases e4 with q | q; exact (e q).elim; exact (e' q).elim⟩
          obtain ⟨f1, f3⟩ := F1.out.putG 0
          have FIN : Hid (KeepsFrom W0.heap.size u2 _ ∧ _) := ⟨(keepsM_turn F2.out (by rw [HSZ.out]; omega)).trans (keepsM_turn f3 (by rw [HSZ.out]; omega)), NXT.out _ _ NG f1⟩
          clear f1 f3 NG
          rcases e4 with rfl | rfl
          · gi_wp2
            exact ⟨FIN.out.1, FIN.out.2, fun _ _ _ _ h => h.elim⟩
          · gi_wp2
            exact ⟨FIN.out.1, FIN.out.2, fun _ _ _ _ h => h.elim⟩
        · have n4 : (kd == 4) = false := beq_eq_false_iff_ne.2 (fun e => e4 (Or.inl e))
          have n5 : (kd == 5) = false := beq_eq_false_iff_ne.2 (fun e => e4 (Or.inr e))
          have NG : NextG ⟨kd, ox, oy, ok, ot⟩ G G := ⟨gl, (fun e => (e8 e).elim), (fun e => (e2 e).elim), (fun e => (e4 e).elim), fun _ _ _ _ => rfl⟩
          have FIN : Hid (KeepsFrom W0.heap.size u2 _ ∧ _) := ⟨keepsM_turn F2.out (by rw [HSZ.out]; omega), NXT.out _ _ NG F1.out⟩
          gi_wp2
          exact ⟨FIN.out.1, FIN.out.2, fun _ _ _ _ h => h.elim⟩
  · rintro D xs A hD hS hI hK
    obtain ⟨K, G, hSS, hB⟩ := hI.ex
    have xl : xs.length = ops.length := by have := rv_len ops ops.length (Nat.le_refl _); rw [← hS] at this; exact this
    rw [xl] at hSS
    have bits := hSS.end_
    rw [hl] at bits
    have bw := hB.bw
    have TA : Based A Z q := by obtain ⟨base, y1, y2, y3, y4⟩ := TB.out.ex; exact ⟨base, y1, y2.trans (bw.mono y2.size), y3, y4⟩
    have KH := keepH b (setsK ops) K Z q n c A TA (HD.out.below bw) OK.out (by have := sets_refs OK.out; rw [EO.out] at this; exact this) hSS.kl bits
    have k0 := hB.rk.cell 0 _ rfl
    have HK := hide hK
    have BW := hide bw
    have KHH := hide KH
    have DL : Hid (w.heap.size ≤ D ∧ D < A.heap.size) := ⟨by rw [HSZ.out] at hD; omega, lt_of_some hK⟩
    clear KH TA bits hSS hB hI bw hK hS xl
    gi_wp2_with fail
    refine ⟨trivial, rfl, (callsIn_wide.2 KHH.out).mono ?_⟩
    rintro e u ⟨rfl, ⟨q', n', c', y1, y2⟩, y3⟩
    have hKu : u.heap[D]? = some (.deferred (some [])) := by
      rw [y3.block D DL.out.2 (fun hi => by rcases hi with hi | hi; have := HD.out.box.lt; have := DL.out; omega; have := HD.out.ops.lt hi; have := DL.out; omega)]
      exact HK.out
    have tp : Turn D u (u.putObj D (.deferred none)) := turn_put _
    have FIN : Hid (Wy w Z q (dropB b (setsK ops)) (.returned (.tuple #[])) (u.putObj D (.deferred none))) := by
      refine ⟨rfl, ⟨q', n', c', y1.turn tp (by have := HD.out.box.lt; have := DL.out; omega) (fun g e => ?_), ?_⟩, ?_⟩
      · rcases y2 with y2 | y2
        · rw [y2] at e; have := HD.out.ops.lt e; have := DL.out; omega
        · have := y2 g e; have := DL.out; omega
      · rcases y2 with y2 | y2
        · exact Or.inl y2
        · exact Or.inr fun g e => by have := y2 g e; have := BW.out.size; omega
      · exact keep_turn ((Pol.Keep.of_below BW.out).trans y3) tp (Or.inr DL.out.1)
    clear y1 y2 y3 tp
    gi_wp2
    refine ⟨by simp, .inl ⟨_, _, rfl, run_takeDeferred hKu, ?_⟩⟩
    exact ⟨.tuple #[], by simp [results, Tryd.results30, go_sem], FIN.out⟩
  · intro D pre A hD h
    exact h.elim
end Go.Proofs.YtflhehofgplcoaaDoor.Op
