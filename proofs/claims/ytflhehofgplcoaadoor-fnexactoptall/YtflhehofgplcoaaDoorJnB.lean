/-
  A region that draws its order, in two phases, within a round of a range over a function: what reads yields in every world that meets S as long as nothing from number n on has come up; each operation from n on waits, through others, for what is taken first.
-/
import Derived.Test.YtflhehofgplcoaaDoorPhaseIn
import Derived.OwnWalkIn
import Derived.Test.YtflhehofgplcoaaDoorJnA
import Derived.Test.YtflhehofgplcoaaDoorPhaseTw
namespace Go.Proofs.YtflhehofgplcoaaDoor.PhaseR
open Go
open PhaseIn (waitsOn blocks unlisted waits_no)
section
variable {P : Program} {ops : Array Oper} {Q : Exit → Act → World → Prop} {md : Region.Mode} {S : World → Prop} {n l : Nat}
def noDefer (ops : Array Oper) : Bool := (List.range ops.size).all fun k => match ops[k]? with | some o => (match o.op with | .defer _ => false | _ => true) | none => true
theorem noDefer_spec (h : noDefer ops = true) {j : Nat} {o : Oper} (hj : ops[j]? = some o) : ∀ c, o.op ≠ .defer c := fun c e => by
  have := List.all_eq_true.1 h j (List.mem_range.2 (Array.getElem?_eq_some_iff.1 hj).1)
  simp only [hj, e] at this
  cases this
theorem yields_op (hnd : noDefer ops = true) {i : Nat} {o : Oper} {v : Value} {a : Act} (hi : ops[i]? = some o) (hy : YieldsIf P ops S o v a) {K : Act → World → Prop} {w : World} (hS : S w) (h : K (a.put o.dst v) w) : wpOpIn (Fence.wide.inRound l) 0 P ops Q i K a w := by
  unfold wpOpIn
  simp only [hi]
  rcases hy with ⟨hw, hv⟩ | ⟨hw, rfl⟩
  · rw [if_pos hw]
    unfold Oper.wpIn
    refine ⟨fun _ _ => trivial, ?_⟩
    rw [Oper.semAt_plain _ _ _ (noDefer_spec hnd hi), hv w hS]
    exact h
  · rw [if_neg (by rw [hw]; decide)]
    exact ⟨fun _ _ => trivial, h⟩
/-- An operation apart from oi goes the same way with oi's value in its place. -/
theorem put_op (hnd : noDefer ops = true) {j : Nat} {oi oj : Oper} {v : Value} (hj : ops[j]? = some oj) (hap : oi.apart ops oj = true) (hsi : ∀ cs b, oi.op ≠ .select cs b) (hsj : ∀ cs b, oj.op ≠ .select cs b)
    (hQ : ∀ c a w, Q (.panic c) (a.put oi.dst v) w → Q (.panic c) a w) {K : Act → World → Prop} {a : Act} {w : World} (hy : YieldsIf P ops S oi v a) (h : wpOpIn (Fence.wide.inRound l) 0 P ops Q j K (a.put oi.dst v) w) :
    wpOpIn (Fence.wide.inRound l) 0 P ops Q j (fun a' w' => YieldsIf P ops S oi v a' ∧ K (a'.put oi.dst v) w') a w := by
  obtain ⟨d1, d2, d3⟩ := Oper.apart_spec hap
  have stays : ∀ b : Act, YieldsIf P ops S oi v b → ∀ u, YieldsIf P ops S oi v (b.put oj.dst u) := fun b hb u => hb.of_same (execOp_put oi hsi b oj.dst u d3) (wanted_put oi b oj.dst u d3)
  have next : ∀ u w', K ((a.put oi.dst v).put oj.dst u) w' → YieldsIf P ops S oi v (a.put oj.dst u) ∧ K ((a.put oj.dst u).put oi.dst v) w' := fun u w' hk => ⟨stays a hy u, by rw [← Act.put_comm a v u d2]; exact hk⟩
  unfold wpOpIn at h ⊢
  simp only [hj] at h ⊢
  rw [wanted_put oj a oi.dst v d1] at h
  by_cases hw : Region.wanted oj (yielded ops a.tmps) = true
  · rw [if_pos hw] at h ⊢
    unfold Oper.wpIn at h ⊢
    refine ⟨fun _ _ => trivial, ?_⟩
    have h2 := h.2
    rw [Oper.semAt_plain _ _ _ (noDefer_spec hnd hj), execOp_put oj hsj a oi.dst v d1] at h2
    rw [Oper.semAt_plain _ _ _ (noDefer_spec hnd hj)]
    generalize (execOp a.eval oj).run P w = r at h2 ⊢
    match r, h2 with
    | .ok (.value u) w', h2 => exact next u w' h2
    | .ok .skip w', h2 => exact next undef w' h2
    | .ok (.defer d) w', h2 =>
      have hd : YieldsIf P ops S oi v { a with defers := d :: a.defers } := hy.of_same rfl rfl
      refine ⟨stays _ hd _, ?_⟩
      rw [← Act.put_comm _ v undef d2, ← Act.put_defers]
      exact h2
    | .ok (.enter f args) w', h2 =>
      refine ⟨h2.1, h2.2.mono fun e w'' he => ?_⟩
      match e, he with
      | .returned u, he => exact next u w'' he
      | .panicked c, he => exact hQ _ _ _ he
      | .outgrown, he => exact he
    | .ok (.row row args) w', h2 => exact ⟨h2.1, h2.2.mono fun u w'' he => next u w'' he⟩
    | .ok (.round l f tmps assign body) w', h2 =>
      refine ⟨h2.1, h2.2.mono fun e w'' he => ?_⟩
      match e, he with
      | .returned u, he => exact next u w'' he
      | .panicked c, he => exact hQ _ _ _ he
      | .outgrown, he => exact he
    | .halt (.panic u) w', h2 => exact hQ _ _ _ h2
  · rw [if_neg hw] at h ⊢
    exact ⟨fun _ _ => trivial, next undef w h.2⟩
def wpAnyW (l : Nat) (P : Program) (md : Region.Mode) (ops : Array Oper) (Q : Exit → Act → World → Prop) (S : World → Prop) (n : Nat) : Nat → Array Bool → Act → World → Prop
  | 0, listed, a, w => Region.ready md ops listed = [] ∧ Q .normal a w
  | fuel + 1, listed, a, w =>
    (Region.ready md ops listed = [] → Q .normal a w) ∧
    ∀ i ∈ Region.ready md ops listed, wpOpIn (Fence.wide.inRound l) 0 P ops Q i (fun a' w' => (i < n → S w') ∧ wpAnyW l P md ops Q S n fuel (listed.setIfInBounds i true) a' w') a w
theorem any_of : ∀ (fuel : Nat) (listed : Array Bool) (a : Act) (w : World), wpAnyW l P md ops Q S n fuel listed a w → wpAnyIn (Fence.wide.inRound l) 0 P md ops Q fuel listed a w
  | 0, _, _, _, h => h
  | fuel + 1, _, _, _, h => ⟨h.1, fun i hi => wpOpIn_mono (fun a' w' h' => any_of fuel _ a' w' h'.2) (h.2 i hi)⟩
theorem first (hnd : noDefer ops = true) {i : Nat} {oi : Oper} {v : Value} {B : List Nat} (hi : ops[i]? = some oi) (hw : blocks md ops n i B = true) (hsel : ∀ (j : Nat) (o : Oper) cs b, ops[j]? = some o → o.op ≠ .select cs b)
    (hQ : ∀ c a w, Q (.panic c) (a.put oi.dst v) w → Q (.panic c) a w) :
    ∀ (fuel : Nat) (listed : Array Bool) (a : Act) (w : World),
      (∀ j oj, ops[j]? = some oj → j ≠ i → listed.getD j true = false → (∀ e ∈ oj.after, Region.binds md e = true → e.on ≠ i) → oi.apart ops oj = true) →
      (∀ b ∈ B, listed.getD b false = false) → i ∈ Region.ready md ops listed → YieldsIf P ops S oi v a → S w →
      wpAnyW l P md ops Q S n fuel (listed.setIfInBounds i true) (a.put oi.dst v) w → wpAnyW l P md ops Q S n (fuel + 1) listed a w := by
  intro fuel
  induction fuel with
  | zero =>
    intro listed a w _ _ hr hy hS H
    refine ⟨fun h => (by rw [h] at hr; cases hr), fun j hj => ?_⟩
    by_cases hji : j = i
    · subst hji; exact yields_op hnd hi hy hS ⟨fun _ => hS, H⟩
    · have := ready_mono hj hji
      rw [H.1] at this
      cases this
  | succ fuel ih =>
    intro listed a w hfree hB hr hy hS H
    refine ⟨fun h => (by rw [h] at hr; cases hr), fun j hj => ?_⟩
    by_cases hji : j = i
    · subst hji; exact yields_op hnd hi hy hS ⟨fun _ => hS, H⟩
    · have h1 := H.2 j (ready_mono hj hji)
      obtain ⟨hjun, oj, hoj, hall⟩ := mem_ready.1 hj
      have hnot : ∀ e ∈ oj.after, Region.binds md e = true → e.on ≠ i := fun e he hb heq => by
        have h1 := hall e he hb
        rw [heq] at h1
        exact unlisted hr h1
      have hjs : j < ops.size := (Array.getElem?_eq_some_iff.1 hoj).1
      have hbl := List.all_eq_true.1 hw j (List.mem_range.2 hjs)
      simp only [hoj, Bool.and_eq_true, Bool.or_eq_true, beq_iff_eq, Bool.not_eq_true', decide_eq_true_eq] at hbl
      have hno : ¬ waitsOn md B oj = true := fun h => waits_no h hall hB
      have hjn : j < n := hbl.2.resolve_right hno
      have hjB : j ∉ B := fun h => by
        rcases hbl.1 with (h2 | h2) | h2
        · exact hji h2
        · rw [List.contains_iff_mem.2 h] at h2; cases h2
        · exact hno h2
      have h2 := put_op hnd hoj (hfree j oj hoj hji hjun hnot) (fun cs b => hsel i oi cs b hi) (fun cs b => hsel j oj cs b hoj) hQ hy h1
      have hfree' : ∀ k ok, ops[k]? = some ok → k ≠ i → (listed.setIfInBounds j true).getD k true = false →
          (∀ e ∈ ok.after, Region.binds md e = true → e.on ≠ i) → oi.apart ops ok = true := fun k ok hk hki hun hno => by
        refine hfree k ok hk hki ?_ hno
        by_cases hjk : j = k
        · subst hjk; exact hjun
        · rw [getD_set_ne true hjk] at hun; exact hun
      have hB' : ∀ b ∈ B, (listed.setIfInBounds j true).getD b false = false := fun b hb => by
        have hne : j ≠ b := fun e => hjB (by rw [e]; exact hb)
        rw [getD_set_ne false hne]
        exact hB b hb
      refine wpOpIn_mono (fun a' w' h3 => ⟨h3.2.1, ih (listed.setIfInBounds j true) a' w' hfree' hB' (ready_mono hr (Ne.symm hji)) h3.1 (h3.2.1 hjn) ?_⟩) h2
      rw [Array.setIfInBounds_comm _ _ hji]
      exact h3.2.2
/-- Take number i first; B: it, and those that wait for it. -/
theorem take {i : Nat} {oi : Oper} {v : Value} {fuel : Nat} {listed : Array Bool} {a : Act} {w : World} (B : List Nat) (hnd : noDefer ops = true) (hi : ops[i]? = some oi) (hw : blocks md ops n i B = true) (hB : (B.all fun b => !listed.getD b false) = true)
    (hs : Region.noSelect ops = true) (hf : Region.free md ops listed i = true) (hr : (Region.ready md ops listed).contains i = true)
    (hQ : ∀ c a w, Q (.panic c) (a.put oi.dst v) w → Q (.panic c) a w) (hy : YieldsIf P ops S oi v a) (hS : S w)
    (h : wpAnyW l P md ops Q S n fuel (listed.setIfInBounds i true) (a.put oi.dst v) w) : wpAnyW l P md ops Q S n (fuel + 1) listed a w :=
  first hnd hi hw (Region.noSelect_spec hs) hQ fuel listed a w (Region.free_spec hi hf) (fun b hb => by simpa using List.all_eq_true.1 hB b hb) (by simpa using hr) hy hS h
/-- The same, the place of its value written out. -/
theorem takeD {i : Nat} {oi : Oper} {v : Value} {fuel : Nat} {listed : Array Bool} {a : Act} {w : World} (B : List Nat) (d : Nat) (hnd : noDefer ops = true) (hi : ops[i]? = some oi) (hd : oi.dst = some d) (hw : blocks md ops n i B = true) (hB : (B.all fun b => !listed.getD b false) = true)
    (hs : Region.noSelect ops = true) (hf : Region.free md ops listed i = true) (hr : (Region.ready md ops listed).contains i = true)
    (hQ : ∀ c a w, Q (.panic c) (a.put (some d) v) w → Q (.panic c) a w) (hy : YieldsIf P ops S oi v a) (hS : S w)
    (h : wpAnyW l P md ops Q S n fuel (listed.setIfInBounds i true) (a.put (some d) v) w) : wpAnyW l P md ops Q S n (fuel + 1) listed a w :=
  take B hnd hi hw hB hs hf hr (fun c a w h => hQ c a w (by rw [← hd]; exact h)) hy hS (by rw [hd]; exact h)
/-- Only number i may come up. -/
theorem one {i : Nat} {o : Oper} {fuel : Nat} {listed : Array Bool} {a : Act} {w : World} (hr : Region.ready md ops listed = [i]) (ho : ops[i]? = some o) (hw : Region.wanted o (yielded ops a.tmps) = true)
    (h : ∀ K : Act → World → Prop, (∀ a' w', (i < n → S w') → wpAnyW l P md ops Q S n fuel (listed.setIfInBounds i true) a' w' → K a' w') → Oper.wpIn (Fence.wide.inRound l) 0 P o a w K Q) : wpAnyW l P md ops Q S n (fuel + 1) listed a w := by
  refine ⟨fun h0 => (by rw [hr] at h0; cases h0), fun j hj => ?_⟩
  rw [hr] at hj
  obtain rfl : j = i := by simpa using hj
  unfold wpOpIn
  simp only [ho]
  rw [if_pos hw]
  exact h _ (fun a' w' h1 h2 => ⟨h1, h2⟩)
theorem done {listed : Array Bool} {a : Act} {w : World} (hr : Region.ready md ops listed = []) (h : Q .normal a w) : ∀ fuel, wpAnyW l P md ops Q S n fuel listed a w
  | 0 => ⟨hr, h⟩
  | _ + 1 => ⟨fun _ => h, by rw [hr]; simp⟩
/-- Behind the first phase, one by one: number i yields in whatever world. -/
theorem late (hnd : noDefer ops = true) {i : Nat} {o : Oper} {v : Value} {fuel : Nat} {listed : Array Bool} {a : Act} {w : World} (hr : Region.ready md ops listed = [i]) (ho : ops[i]? = some o) (d : Nat) (hd : o.dst = some d) (hn : n ≤ i) (hy : YieldsIf P ops (fun _ => True) o v a)
    (h : wpAnyW l P md ops Q S n fuel (listed.setIfInBounds i true) (a.put (some d) v) w) : wpAnyW l P md ops Q S n (fuel + 1) listed a w := by
  refine ⟨fun h0 => (by rw [hr] at h0; cases h0), fun j hj => ?_⟩
  rw [hr] at hj
  obtain rfl : j = i := by simpa using hj
  exact yields_op hnd ho hy trivial ⟨fun h => absurd h (by omega), by rw [hd]; exact h⟩
theorem region {id : Nat} {a : Act} {w : World} (n : Nat) (hm : P.follows .mixedOrders = true) (h : wpAnyW l P .any ops Q S n ops.size (Array.replicate ops.size false) a w.drew) : (Code.region id ops true).wpIn (Fence.wide.inRound l) 0 P Q a w :=
  wpIn_region_any hm (any_of _ _ _ _ h)
end
end Go.Proofs.YtflhehofgplcoaaDoor.PhaseR
namespace Go.Proofs.YtflhehofgplcoaaDoor.Op
set_option linter.unusedVariables false
set_option linter.unusedSimpArgs false
open Go.ChangeShapes Go.WideShapes Go.ChangeAt Go.RowKit IntS Flat Irk Rng
open Ir Dt
open Mch (Rec)
open Pol (Keep)
attribute [local go_sem] Oper.semAt_some
/-- What withWords tells: a set with one or two places more. -/
structure Wh (U : Nat) (sx sy : Bool) (x y : Int) (t : Nat) : Prop where
  lt : t < 2 ^ 64
  b : ∀ i, t.testBit i = (U.testBit i || (sx && decide (i = x.toNat)) || (sy && decide (i = y.toNat)))
set_option maxRecDepth 8000 in
set_option maxHeartbeats 8000000 in
theorem withWords (U : Nat) (s : Sh) (x y : Int) (w : World) (hU : U < 2 ^ 64) (hX : s.x = true → ∃ m : Nat, x = m ∧ m < 64) (hY : s.y = true → ∃ m : Nat, y = m ∧ m < 64) :
    Calls Tryd.prog 54 #[.int .u64 (U : Int), .agg #[.bool s.x, .bool s.y, .bool s.a, .int .i64 s.l, .int .i64 s.m], .int .i64 x, .int .i64 y] w fun e w' => ∃ t : Nat, e = .returned (.int .u64 (t : Int)) ∧ Wh U s.x s.y x y t ∧ Below w.heap.size w w' := by
  obtain ⟨sx, sy, sa, sl, sm⟩ := s
  simp only [] at hX hY ⊢
  have b1 : Below w.heap.size w (w.alloc (.cells #[.bool sx, .bool sy, .bool sa, .int .i64 sl, .int .i64 sm] 71)) := (Below.refl _ _).alloc (Nat.le_refl _) _
  have BW := hide b1
  clear b1
  cases sx with
  | true =>
    obtain ⟨mx, rfl, lx⟩ := hX rfl
    clear hX
    cases sy with
    | true =>
      obtain ⟨my, rfl, ly⟩ := hY rfl
      clear hY
      go_enter Tryd.func54, Tryd.ntmps54
      go_wp2_with fail
      refine (bitWith U mx _ hU lx).mono ?_
      rintro e u1 ⟨rfl, rfl⟩
      go_wp2_with fail
      refine (bitWith (U ||| 2 ^ mx) my _ (with_lt hU lx) ly).mono ?_
      rintro e u2 ⟨rfl, rfl⟩
      go_wp2
      exact bodyPost_ret (v := .int .u64 ((((U ||| 2 ^ mx) ||| 2 ^ my) : Nat) : Int)) (by simp [results, Tryd.results54, go_sem]) rfl ⟨((U ||| 2 ^ mx) ||| 2 ^ my), rfl, ⟨(with_lt (with_lt hU lx) ly), fun i => by rw [with_bits, with_bits]; simp⟩, BW.out⟩
    | false =>
      clear hY
      go_enter Tryd.func54, Tryd.ntmps54
      go_wp2_with fail
      refine (bitWith U mx _ hU lx).mono ?_
      rintro e u1 ⟨rfl, rfl⟩
      go_wp2
      exact bodyPost_ret (v := .int .u64 (((U ||| 2 ^ mx) : Nat) : Int)) (by simp [results, Tryd.results54, go_sem]) rfl ⟨(U ||| 2 ^ mx), rfl, ⟨(with_lt hU lx), fun i => by rw [with_bits]; simp⟩, BW.out⟩
  | false =>
    clear hX
    cases sy with
    | true =>
      obtain ⟨my, rfl, ly⟩ := hY rfl
      clear hY
      go_enter Tryd.func54, Tryd.ntmps54
      go_wp2_with fail
      refine (bitWith U my _ hU ly).mono ?_
      rintro e u2 ⟨rfl, rfl⟩
      go_wp2
      exact bodyPost_ret (v := .int .u64 (((U ||| 2 ^ my) : Nat) : Int)) (by simp [results, Tryd.results54, go_sem]) rfl ⟨(U ||| 2 ^ my), rfl, ⟨(with_lt hU ly), fun i => by rw [with_bits]; simp⟩, BW.out⟩
    | false =>
      clear hY
      go_enter Tryd.func54, Tryd.ntmps54
      go_wp2
      exact bodyPost_ret (v := .int .u64 ((U : Nat) : Int)) (by simp [results, Tryd.results54, go_sem]) rfl ⟨U, rfl, ⟨hU, fun i => by simp⟩, BW.out⟩
/-- usedIn's boxes: what is used, and the slice that is gone through. -/
structure Ux (w : World) (q : Option Addr) (n c Ub Sb U : Nat) (A : World) : Prop where
  bw : Below w.heap.size w A
  ru : Rec Ub [.int .u64 (U : Int)] A
  rs : Rec Sb [.slice q n c] A
theorem Ux.mild {w A A' W : World} {q : Option Addr} {n c Ub Sb U : Nat} (h : Ux w q n c Ub Sb U A) (hm : Mild W.heap.size A A') (hW : w.heap.size ≤ W.heap.size) : Ux w q n c Ub Sb U A' := ⟨mildM_below h.bw hm hW, recM_mild h.ru hm, recM_mild h.rs hm⟩
structure Uck (w : World) (b : Bk) (q : Option Addr) (n c Ub Sb : Nat) (pre : List (Nat × Opn)) (A : World) : Prop where
  le : pre.length ≤ b.ops.length
  eq : pre = rv b.ops pre.length
  ex : ∃ U, UseS b pre.length U ∧ Ux w q n c Ub Sb U A
theorem Uck.mild {w A A' W : World} {b : Bk} {q : Option Addr} {n c Ub Sb : Nat} {pre : List (Nat × Opn)} (h : Uck w b q n c Ub Sb pre A) (hm : Mild W.heap.size A A') (hW : w.heap.size ≤ W.heap.size) : Uck w b q n c Ub Sb pre A' :=
  ⟨h.le, h.eq, let ⟨U, h1, h2⟩ := h.ex; ⟨U, h1, h2.mild hm hW⟩⟩
theorem Uck.bw {w A : World} {b : Bk} {q : Option Addr} {n c Ub Sb : Nat} {pre : List (Nat × Opn)} (h : Uck w b q n c Ub Sb pre A) : Below w.heap.size w A := let ⟨_, _, h2⟩ := h.ex; h2.bw
theorem Uck.rs {w A : World} {b : Bk} {q : Option Addr} {n c Ub Sb : Nat} {pre : List (Nat × Opn)} (h : Uck w b q n c Ub Sb pre A) : Rec Sb [.slice q n c] A := let ⟨_, _, h2⟩ := h.ex; h2.rs
def AxU (w : World) (b : Bk) (pc ln bx by_ bk : Int) (m : Nat) (q : Option Addr) (n c Ub Sb hi : Nat) (t6 t7 t8 t9 t10 t11 t12 t13 t14 t15 : Value) (pre : List (Nat × Opn)) (x : Nat × Opn) (a₁ : Act) (A : World) : Prop :=
  Uck w b q n c Ub Sb pre A ∧ pre.length < b.ops.length ∧ pre ++ [x] = rv b.ops (pre.length + 1) ∧ x.1 = b.ops.length - 1 - pre.length ∧ b.ops[x.1]? = some x.2 ∧ ∃ X, hi ≤ X ∧ Rec X [.int .i64 x.2.kd, .int .i64 x.2.x, .int .i64 x.2.y, .int .i64 x.2.k, .int .i64 x.2.t] A ∧
    a₁ = { tmps := #[.agg #[.int .i64 pc, .int .i64 ln, .slice q n c, .int .i64 (m : Int), .int .i64 bx, .int .i64 by_, .int .i64 bk], .pointer (some ⟨w.heap.size, 0, none⟩), .int .u64 0, .pointer (some ⟨Ub, 0, none⟩), .int .i64 (x.1 : Int), .pointer (some ⟨X, 0, none⟩), t6, t7, t8, t9, t10, t11, t12, t13, t14, t15, .pointer (some ⟨w.heap.size, 2, none⟩), .slice q n c, .func (.func 66) #[] #[.pointer (some ⟨Sb, 0, none⟩)], .int .i64 (x.1 : Int), .agg #[.int .i64 x.2.kd, .int .i64 x.2.x, .int .i64 x.2.y, .int .i64 x.2.k, .int .i64 x.2.t], undef, undef, undef, undef, undef, undef, undef, undef, undef, undef, undef, undef, undef, undef, undef, undef, undef, undef, undef, undef, undef, undef], defers := [] }
set_option maxRecDepth 100000 in
set_option maxHeartbeats 16000000 in
theorem usedInM (b : Bk) (pc ln bx by_ bk : Int) (m : Nat) (eb : b.pc = pc ∧ b.ln = ln ∧ b.en = m ∧ b.x = bx ∧ b.y = by_ ∧ b.k = bk) (s : Sh) (q : Option Addr) (n c B : Nat) (w : World) (hr : ORow w B (.slice q n c) b.ops) (hn : b.ops.length = n) (ht : Tbs w) (hok : okB b = true) (hs : enL[m]? = some s) (es : s.x = decide (b.en ≠ 1) ∧ s.y = decide (b.en = 3 ∨ b.en = 4)) :
    Calls Tryd.prog 36 #[.agg #[.int .i64 pc, .int .i64 ln, .slice q n c, .int .i64 (m : Int), .int .i64 bx, .int .i64 by_, .int .i64 bk]] w fun e w' => ∃ U : Nat, e = .returned (.int .u64 (U : Int)) ∧ U < 2 ^ 64 ∧ (∀ i, i < n → U.testBit i = (usedL b).getD i false) ∧ Below w.heap.size w w' := by
  obtain ⟨h1, h2, h3, h4, h5⟩ := ok_parts hok
  obtain ⟨p0, p1, _, p3, _⟩ := end_parts h5
  obtain ⟨tb, to, tc, t1, t2, RD0⟩ := Rd.of ht.2 hs
  have m9 : m < 5 := (List.getElem?_eq_some_iff.1 hs).1
  have m9i : ((m : Nat) : Int) < 5 := by omega
  change 5 ≤ tc at t1
  unfold maxLen at t2
  have b1 : Below w.heap.size w (w.alloc (.cells #[.int .i64 pc, .int .i64 ln, .slice q n c, .int .i64 (m : Int), .int .i64 bx, .int .i64 by_, .int .i64 bk] 28)) := (Below.refl _ _).alloc (Nat.le_refl _) _
  have RD := hide (RD0.below b1)
  change Hid (Rd _ _ tb to tc 5 m s) at RD
  have RA := hide (Rec.new w [.int .i64 pc, .int .i64 ln, .slice q n c, .int .i64 (m : Int), .int .i64 bx, .int .i64 by_, .int .i64 bk] 28)
  have BW := hide b1
  have HR := hide hr
  have TB := hide ht
  have OK := hide hok
  have EB := hide eb
  have ES := hide es
  have IX : Hid ((s.x = true → ∃ m : Nat, bx = m ∧ m < 64) ∧ (s.y = true → ∃ m : Nat, by_ = m ∧ m < 64)) := by
    obtain ⟨_, _, _, e4, e5, _⟩ := eb
    refine ⟨fun e => ?_, fun e => ?_⟩
    · rw [es.1] at e
      obtain ⟨j, _, e1, e2, _⟩ := val_get (p1 (of_decide_eq_true e))
      exact ⟨j, by rw [← e4]; exact e1, by omega⟩
    · rw [es.2] at e
      obtain ⟨j, _, e1, e2, _⟩ := val_get (p3 (of_decide_eq_true e))
      exact ⟨j, by rw [← e5]; exact e1, by omega⟩
  have HN := hide hn
  have OPS := hide h4
  clear b1 RD0 hr ht hok hs es eb h1 h2 h4 h5 p0 p1 p3
  refine (callsIn_wide (n := 0)).1 ?_
  refine callsIn_of_wp_marks Tryd.func36 rfl trivial ?_ rfl
  simp only [Tryd.ntmps36, List.size_toArray, List.length_cons, List.length_nil, Nat.reduceAdd, Nat.reduceSub, Array.replicate_succ, Array.replicate_zero, List.push_toArray, List.append_toArray, List.nil_append, List.cons_append]
  gi_wp2_with fail
  generalize w.alloc (.cells #[.int .i64 pc, .int .i64 ln, .slice q n c, .int .i64 (m : Int), .int .i64 bx, .int .i64 by_, .int .i64 bk] 28) = W0 at RD RA BW ⊢
  have bA : Below W0.heap.size W0 W0.drew := (Below.refl _ _).drew
  replace RD := hide (RD.out.below bA)
  replace RA := hide (RA.out.below bA)
  replace BW := hide (BW.out.trans (bA.mono BW.out.size))
  clear bA
  refine wpIn_mono (Q := PhaseIn.onlyN (fun a' V => ∃ (t6 t7 t8 t9 t10 t11 t12 t13 t14 t15 : Value) (Ub U : Nat), a' = { tmps := #[.agg #[.int .i64 pc, .int .i64 ln, .slice q n c, .int .i64 (m : Int), .int .i64 bx, .int .i64 by_, .int .i64 bk], .pointer (some ⟨w.heap.size, 0, none⟩), .int .u64 0, .pointer (some ⟨Ub, 0, none⟩), undef, undef, t6, t7, t8, t9, t10, t11, t12, t13, t14, t15, undef, undef, undef, undef, undef, undef, undef, undef, undef, undef, undef, undef, undef, undef, undef, undef, undef, undef, undef, undef, undef, undef, undef, undef, undef, undef, undef], defers := [] } ∧ w.heap.size < Ub ∧ Ub < V.heap.size ∧ Wh 0 s.x s.y bx by_ U ∧ Rec Ub [.int .u64 (U : Int)] V ∧ Rec w.heap.size [.int .i64 pc, .int .i64 ln, .slice q n c, .int .i64 (m : Int), .int .i64 bx, .int .i64 by_, .int .i64 bk] V ∧ Below w.heap.size w V)) ?_ ?_
  · refine PhaseIn.region (S := fun v => Rd v 1 tb to tc 5 m s ∧ Rec w.heap.size [.int .i64 pc, .int .i64 ln, .slice q n c, .int .i64 (m : Int), .int .i64 bx, .int .i64 by_, .int .i64 bk] v) 11 (by kernel_rfl) ?_
    generalize W0.drew = d1 at RD RA BW ⊢
    have hHeld : Rd d1 1 tb to tc 5 m s ∧ Rec w.heap.size [.int .i64 pc, .int .i64 ln, .slice q n c, .int .i64 (m : Int), .int .i64 bx, .int .i64 by_, .int .i64 bk] d1 := ⟨RD.out, RA.out⟩
    clear RD RA
    refine PhaseIn.takeD (i := 0) (v := ?_) [0, 3, 4, 9, 11] 6 rfl (by rfl) (by kernel_rfl) (by kernel_rfl) (by kernel_rfl) (by kernel_rfl) (by kernel_rfl) (fun _ _ _ h => h) (Or.inl ⟨by kernel_rfl, ?_⟩) hHeld ?_
    rotate_left
    · intro w' hSw
      (try dsimp only at hSw)
      have g0 := hSw.1.g
      go_simp
      first | done | with_reducible rfl
    try simp only [Act.put, List.setIfInBounds_toArray, List.set]
    refine PhaseIn.takeD (i := 1) (v := ?_) [1, 2, 3, 4, 9, 11] 7 rfl (by rfl) (by kernel_rfl) (by kernel_rfl) (by kernel_rfl) (by kernel_rfl) (by kernel_rfl) (fun _ _ _ h => h) (Or.inl ⟨by kernel_rfl, ?_⟩) hHeld ?_
    rotate_left
    · intro w' hSw
      (try dsimp only at hSw)
      go_simp
      first | done | with_reducible rfl
    try simp only [Act.put, List.setIfInBounds_toArray, List.set]
    refine PhaseIn.takeD (i := 2) (v := ?_) [2, 3, 4, 9, 11] 8 rfl (by rfl) (by kernel_rfl) (by kernel_rfl) (by kernel_rfl) (by kernel_rfl) (by kernel_rfl) (fun _ _ _ h => h) (Or.inl ⟨by kernel_rfl, ?_⟩) hHeld ?_
    rotate_left
    · intro w' hSw
      (try dsimp only at hSw)
      have z3 := hSw.2.cell 3 _ rfl
      go_simp
      first | done | with_reducible rfl
    try simp only [Act.put, List.setIfInBounds_toArray, List.set]
    refine PhaseIn.takeD (i := 3) (v := ?_) [3, 4, 9, 11] 9 rfl (by rfl) (by kernel_rfl) (by kernel_rfl) (by kernel_rfl) (by kernel_rfl) (by kernel_rfl) (fun _ _ _ h => h) (Or.inl ⟨by kernel_rfl, ?_⟩) hHeld ?_
    rotate_left
    · intro w' hSw
      (try dsimp only at hSw)
      go_simp
      first | done | with_reducible rfl
    try simp only [Act.put, List.setIfInBounds_toArray, List.set]
    refine PhaseIn.takeD (i := 4) (v := ?_) [4, 9, 11] 10 rfl (by rfl) (by kernel_rfl) (by kernel_rfl) (by kernel_rfl) (by kernel_rfl) (by kernel_rfl) (fun _ _ _ h => h) (Or.inl ⟨by kernel_rfl, ?_⟩) hHeld ?_
    rotate_left
    · intro w' hSw
      (try dsimp only at hSw)
      obtain ⟨s0, s1, s2, s3, s4⟩ := hSw.1.s
      go_simp
      first | done | with_reducible rfl
    try simp only [Act.put, List.setIfInBounds_toArray, List.set]
    refine PhaseIn.takeD (i := 5) (v := ?_) [5, 6, 9, 11] 11 rfl (by rfl) (by kernel_rfl) (by kernel_rfl) (by kernel_rfl) (by kernel_rfl) (by kernel_rfl) (fun _ _ _ h => h) (Or.inl ⟨by kernel_rfl, ?_⟩) hHeld ?_
    rotate_left
    · intro w' hSw
      (try dsimp only at hSw)
      go_simp
      first | done | with_reducible rfl
    try simp only [Act.put, List.setIfInBounds_toArray, List.set]
    refine PhaseIn.takeD (i := 6) (v := ?_) [6, 9, 11] 12 rfl (by rfl) (by kernel_rfl) (by kernel_rfl) (by kernel_rfl) (by kernel_rfl) (by kernel_rfl) (fun _ _ _ h => h) (Or.inl ⟨by kernel_rfl, ?_⟩) hHeld ?_
    rotate_left
    · intro w' hSw
      (try dsimp only at hSw)
      have z4 := hSw.2.cell 4 _ rfl
      go_simp
      first | done | with_reducible rfl
    try simp only [Act.put, List.setIfInBounds_toArray, List.set]
    refine PhaseIn.takeD (i := 7) (v := ?_) [7, 8, 9, 11] 13 rfl (by rfl) (by kernel_rfl) (by kernel_rfl) (by kernel_rfl) (by kernel_rfl) (by kernel_rfl) (fun _ _ _ h => h) (Or.inl ⟨by kernel_rfl, ?_⟩) hHeld ?_
    rotate_left
    · intro w' hSw
      (try dsimp only at hSw)
      go_simp
      first | done | with_reducible rfl
    try simp only [Act.put, List.setIfInBounds_toArray, List.set]
    refine PhaseIn.takeD (i := 8) (v := ?_) [8, 9, 11] 14 rfl (by rfl) (by kernel_rfl) (by kernel_rfl) (by kernel_rfl) (by kernel_rfl) (by kernel_rfl) (fun _ _ _ h => h) (Or.inl ⟨by kernel_rfl, ?_⟩) hHeld ?_
    rotate_left
    · intro w' hSw
      (try dsimp only at hSw)
      have z5 := hSw.2.cell 5 _ rfl
      go_simp
      first | done | with_reducible rfl
    try simp only [Act.put, List.setIfInBounds_toArray, List.set]
    refine PhaseIn.two (i := 9) (j := 10) (by kernel_rfl) rfl rfl (by kernel_rfl) (by kernel_rfl) (fun K hK => ?_) (fun K hK => ?_)
    · -- the call first
      unfold Oper.wpIn
      refine ⟨fun _ _ => trivial, ?_⟩
      go_simp
      refine ⟨rfl, (callsIn_wide.2 (withWords 0 s bx by_ _ (by decide) IX.out.1 IX.out.2)).mono ?_⟩
      rintro e d2 ⟨U, rfl, hW, hb⟩
      replace hHeld : Rd d2 1 tb to tc 5 m s ∧ Rec w.heap.size [.int .i64 pc, .int .i64 ln, .slice q n c, .int .i64 (m : Int), .int .i64 bx, .int .i64 by_, .int .i64 bk] d2 := ⟨hHeld.1.below hb, hHeld.2.below hb⟩
      replace BW := hide (BW.out.trans (hb.mono BW.out.size))
      refine hK _ _ (fun _ => hHeld) ?_
      clear hK K
      try simp only [Act.put, List.setIfInBounds_toArray, List.set]
      refine PhaseIn.one (i := 10) (by kernel_rfl) rfl (by kernel_rfl) (fun K hK => ?_)
      unfold Oper.wpIn
      refine ⟨fun _ _ => trivial, ?_⟩
      go_simp
      have ba := (Below.refl _ d2).alloc (Nat.le_refl _) (.cells #[.int .u64 0] 53)
      have RU := hide (Rec.new d2 [.int .u64 0] 53)
      have UL : Hid (w.heap.size < d2.heap.size) := hHeld.2.lt
      replace hHeld : Rd (d2.alloc (.cells #[.int .u64 0] 53)) 1 tb to tc 5 m s ∧ Rec w.heap.size [.int .i64 pc, .int .i64 ln, .slice q n c, .int .i64 (m : Int), .int .i64 bx, .int .i64 by_, .int .i64 bk] (d2.alloc (.cells #[.int .u64 0] 53)) := ⟨hHeld.1.below ba, hHeld.2.below ba⟩
      replace BW := hide (BW.out.trans (ba.mono BW.out.size))
      refine hK _ _ (fun _ => hHeld) ?_
      clear hK K ba hb
      try simp only [Act.put, List.setIfInBounds_toArray, List.set]
      generalize d2.alloc (.cells #[.int .u64 0] 53) = V at hHeld BW RU ⊢
      generalize d2.heap.size = Ub at RU UL ⊢
      have c0 := RU.out.cell 0 _ rfl
      have f0 := RU.out.soft 0
      refine PhaseIn.one (i := 11) (by kernel_rfl) rfl (by kernel_rfl) (fun K hK => ?_)
      unfold Oper.wpIn
      refine ⟨fun _ _ => trivial, ?_⟩
      go_simp
      have R3 := RU.out.set 0 (.int .u64 (U : Int)) (by simp) (show _ = [.int .u64 (U : Int)] from rfl)
      have T3 := (Turn.refl Ub V).setCell (p := ⟨Ub, 0, none⟩) rfl (.int .u64 (U : Int))
      have B3 := BW.out.trans (T3.below (by have := UL.out; omega) BW.out.size)
      have A3 := hHeld.2.turn T3 (by have := UL.out; omega)
      refine hK _ _ (fun h => absurd h (by decide)) ?_
      try simp only [Act.put, List.setIfInBounds_toArray, List.set]
      refine PhaseIn.done (by kernel_rfl) ?_ _
      exact ⟨_, _, _, _, _, _, _, _, _, _, Ub, U, rfl, UL.out, R3.lt, hW, R3, A3, B3⟩
    · -- the box first
      unfold Oper.wpIn
      refine ⟨fun _ _ => trivial, ?_⟩
      go_simp
      have ba := (Below.refl _ d1).alloc (Nat.le_refl _) (.cells #[.int .u64 0] 53)
      have RU := hide (Rec.new d1 [.int .u64 0] 53)
      have UL : Hid (w.heap.size < d1.heap.size) := hHeld.2.lt
      replace hHeld : Rd (d1.alloc (.cells #[.int .u64 0] 53)) 1 tb to tc 5 m s ∧ Rec w.heap.size [.int .i64 pc, .int .i64 ln, .slice q n c, .int .i64 (m : Int), .int .i64 bx, .int .i64 by_, .int .i64 bk] (d1.alloc (.cells #[.int .u64 0] 53)) := ⟨hHeld.1.below ba, hHeld.2.below ba⟩
      replace BW := hide (BW.out.trans (ba.mono BW.out.size))
      refine hK _ _ (fun _ => hHeld) ?_
      clear hK K ba
      try simp only [Act.put, List.setIfInBounds_toArray, List.set]
      generalize d1.alloc (.cells #[.int .u64 0] 53) = V at hHeld BW RU ⊢
      generalize d1.heap.size = Ub at RU UL ⊢
      refine PhaseIn.one (i := 9) (by kernel_rfl) rfl (by kernel_rfl) (fun K hK => ?_)
      unfold Oper.wpIn
      refine ⟨fun _ _ => trivial, ?_⟩
      go_simp
      refine ⟨rfl, (callsIn_wide.2 (withWords 0 s bx by_ _ (by decide) IX.out.1 IX.out.2)).mono ?_⟩
      rintro e d2 ⟨U, rfl, hW, hb⟩
      replace hHeld : Rd d2 1 tb to tc 5 m s ∧ Rec w.heap.size [.int .i64 pc, .int .i64 ln, .slice q n c, .int .i64 (m : Int), .int .i64 bx, .int .i64 by_, .int .i64 bk] d2 := ⟨hHeld.1.below hb, hHeld.2.below hb⟩
      replace BW := hide (BW.out.trans (hb.mono BW.out.size))
      replace RU := hide (RU.out.below hb)
      refine hK _ _ (fun _ => hHeld) ?_
      clear hK K hb
      try simp only [Act.put, List.setIfInBounds_toArray, List.set]
      have c0 := RU.out.cell 0 _ rfl
      have f0 := RU.out.soft 0
      refine PhaseIn.one (i := 11) (by kernel_rfl) rfl (by kernel_rfl) (fun K hK => ?_)
      unfold Oper.wpIn
      refine ⟨fun _ _ => trivial, ?_⟩
      go_simp
      have R3 := RU.out.set 0 (.int .u64 (U : Int)) (by simp) (show _ = [.int .u64 (U : Int)] from rfl)
      have T3 := (Turn.refl Ub d2).setCell (p := ⟨Ub, 0, none⟩) rfl (.int .u64 (U : Int))
      have B3 := BW.out.trans (T3.below (by have := UL.out; omega) BW.out.size)
      have A3 := hHeld.2.turn T3 (by have := UL.out; omega)
      refine hK _ _ (fun h => absurd h (by decide)) ?_
      try simp only [Act.put, List.setIfInBounds_toArray, List.set]
      refine PhaseIn.done (by kernel_rfl) ?_ _
      exact ⟨_, _, _, _, _, _, _, _, _, _, Ub, U, rfl, UL.out, R3.lt, hW, R3, A3, B3⟩
  · clear RD RA BW IX
    intro e a' V hV
    cases e <;> first | exact hV.elim | skip
    obtain ⟨t6, t7, t8, t9, t10, t11, t12, t13, t14, t15, Ub, U0, rfl, ul, uh, hW, hU, hA, hB⟩ := hV
    have z2 := hA.cell 2 _ rfl
    obtain ⟨Sb, eSb⟩ : ∃ z, V.heap.size = z := ⟨_, rfl⟩
    have b1 := (Below.refl _ V).alloc (Nat.le_refl _) (.cells #[.slice q n c] 26)
    have TP : Uck w b q n c Ub Sb [] (V.alloc (.cells #[.slice q n c] 26)) := by
      have st : UseS b 0 U0 := UseS.start OK.out hW.lt (fun i => by
        obtain ⟨_, _, _, e4, e5, _⟩ := EB.out
        rw [hW.b i, Nat.zero_testBit, Bool.false_or, e4, e5, ES.out.1, ES.out.2])
      refine ⟨Nat.zero_le _, rfl, U0, st, hB.trans (b1.mono hB.size), hU.below b1, ?_⟩
      rw [← eSb]
      exact Rec.new V [.slice q n c] 26
    have hsz : (V.alloc (.cells #[.slice q n c] 26) : World).heap.size = Sb + 1 := by simp [eSb]
    have ws : w.heap.size < Sb ∧ Ub < Sb := by omega
    have T := backward Sb B (.slice q n c) b.ops (by omega)
    have TPH := hide TP
    have HSZ := hide hsz
    clear hA hB hU hW TP hsz b1 EB ES
    simp only [PhaseIn.onlyN] at *
    gi_wp2_with fail
    refine ⟨trivial, rfl, (callsIn_wide.2 (backwardOf _ _ _ _)).mono ?_⟩
    rintro e u ⟨rfl, rfl⟩
    simp only [World.size_alloc, eSb]
    generalize V.alloc (.cells #[.slice q n c] 26) = W1 at TPH HSZ ⊢
    clear eSb uh z2
    gi_wp2
    refine range (gf := 66) (lb := #[.pointer (some ⟨Sb, 0, none⟩)]) rfl enterB T (fun _ => rfl)
      (fun pre A => Uck w b q n c Ub Sb pre A) (fun _ A => False) (fun pre x a₁ A => AxU w b pc ln bx by_ bk m q n c Ub Sb (Sb + 1) t6 t7 t8 t9 t10 t11 t12 t13 t14 t15 pre x a₁ A)
      (fun pre A h => ⟨h.rs.cell 0 _ rfl, HR.out.below h.bw⟩)
      (fun pre A A' h hm => h.mild hm (by rw [HSZ.out]; omega))
      (fun pre A A' h hm => h)
      (fun pre x a₁ A A' h hm => ⟨h.1.mild hm (by rw [HSZ.out]; omega), h.2.1, h.2.2.1, h.2.2.2.1, h.2.2.2.2.1, let ⟨X, h1, h2, h3⟩ := h.2.2.2.2.2; ⟨X, h1, recM_mild h2 hm, h3⟩⟩)
      TPH.out ?_ ?_ ?_ ?_
    · intro l pre x A₀ A K hI hb hF hK
      obtain ⟨k, k1, k2, k3, k4, k5⟩ := hF
      obtain rfl : k = pre.length := by have := rv_len b.ops k (by omega); rw [← k2] at this; exact this.symm
      have h1 := hI.mild (Mild.of_below (B := w.heap.size) hb) (Nat.le_refl _)
      have K1 := hide k1
      have K3 := hide k3
      have K4 := hide k4
      have K5 := hide k5
      clear k1 k2 k3 k4 k5
      have lo : Sb + 1 ≤ A.heap.size := h1.rs.lt
      obtain ⟨j, kd, ox, oy, ok, ot⟩ := x
      have H1 := hide h1
      clear h1
      rw [encO_eq, fold_two]
      simp only [List.setIfInBounds_toArray, List.set]
      gi_wp2
      exact hK _ _ ((KeepsOthers.alloc _ _).from _) (Mild.alloc (B := 0) _ _).kept ⟨H1.out.mild (Mild.alloc (B := w.heap.size) _ _) (Nat.le_refl _), K1.out, K3.out, K4.out, K5.out, A.heap.size, lo, Rec.new A [.int .i64 kd, .int .i64 ox, .int .i64 oy, .int .i64 ok, .int .i64 ot] 41, rfl⟩
    · rintro l pre x a₁ A ⟨hI, q1, q2, q3, q4, X, xl, xr, rfl⟩
      obtain ⟨U, hS, hB⟩ := hI.ex
      obtain ⟨j, kd, ox, oy, ok, ot⟩ := x
      simp only [] at q2 q3 q4 xr ⊢
      have el : (pre ++ [(j, (⟨kd, ox, oy, ok, ot⟩ : Opn))]).length = pre.length + 1 := by simp
      have NXT : Hid (∀ (U' : Nat) (A' : World), U' < 2 ^ 64 → (∀ i, U'.testBit i = (U.testBit i || ((decide (4 ≤ kd) || U.testBit j) && (decide (i = j) || (mvX kd && decide (i = ox.toNat)) || (mvY kd && decide (i = oy.toNat)))))) → Ux w q n c Ub Sb U' A' → Uck w b q n c Ub Sb (pre ++ [(j, (⟨kd, ox, oy, ok, ot⟩ : Opn))]) A') := fun U' A' g0 g1 g2 =>
        ⟨by rw [el]; omega, by rw [el]; exact q2, _, by rw [el]; exact hS.next OK.out q1 q3.symm q4 g0 g1, g2⟩
      have j48 : j < 48 := by omega
      obtain ⟨⟨k1, k8⟩, o1, _, o3, _⟩ := op_parts (OPS.out j _ q4)
      simp only [] at k1 k8 o1 o3
      obtain ⟨mo, so, e1, e2, e3, e4, e5⟩ := op_shape k1 k8
      have HB := hide hB
      have kl := hS.ul
      obtain ⟨tb2, to2, tc2, y1, y2, RD0⟩ := Rd.of (TB.out.below hB.bw).1 e3
      change 9 ≤ tc2 at y1
      unfold maxLen at y2
      change Rd _ _ tb2 to2 tc2 9 mo so at RD0
      have IX : Hid ((so.x = true → ∃ m : Nat, ox = m ∧ m < 64) ∧ (so.y = true → ∃ m : Nat, oy = m ∧ m < 64)) := by
        refine ⟨fun e => ?_, fun e => ?_⟩
        · rw [e4] at e
          obtain ⟨z, _, f1, f2, _⟩ := val_take (o1 e)
          exact ⟨z, f1, by omega⟩
        · rw [e5] at e
          obtain ⟨z, _, f1, f2, _⟩ := val_take (o3 e)
          exact ⟨z, f1, by omega⟩
      rw [e1] at e4 e5
      have E45 := hide (And.intro e4 e5)
      subst e1
      have mo9 : ((mo : Nat) : Int) < 9 := by omega
      have c0 := xr.cell 0 _ rfl
      have r0 := hB.ru.cell 0 _ rfl
      have RD := hide RD0
      have HX := hide xr
      have szl : Sb + 1 ≤ A.heap.size := hB.rs.lt
      clear hI hS hB xr q1 q2 q3 q4 el k1 k8 o1 o3 e3 e4 e5 RD0 m9 m9i t1 t2
      by_cases e4 : (4 : Int) ≤ (mo : Int)
      · gi_wp2_with fail
        refine ⟨trivial, ?_⟩
        gi_wp2_with fail
        have bA : Below A.heap.size A A.drew := (Below.refl _ _).drew
        have HB2 : Ux w q n c Ub Sb U A.drew := ⟨HB.out.bw.trans (bA.mono HB.out.bw.size), HB.out.ru.below bA, HB.out.rs.below bA⟩
        have KA : Hid (KeepsFrom W1.heap.size A A.drew) := keepsM_below bA
        have hHeld : Rd A.drew 0 tb2 to2 tc2 9 mo so ∧ Rec X [.int .i64 (mo : Int), .int .i64 ox, .int .i64 oy, .int .i64 ok, .int .i64 ot] A.drew ∧ Rec Ub [.int .u64 (U : Int)] A.drew ∧ Ux w q n c Ub Sb U A.drew := ⟨RD.out.below bA, HX.out.below bA, HB2.ru, HB2⟩
        clear bA HB2 c0 r0
        refine PhaseR.region (S := fun v => Rd v 0 tb2 to2 tc2 9 mo so ∧ Rec X [.int .i64 (mo : Int), .int .i64 ox, .int .i64 oy, .int .i64 ok, .int .i64 ot] v ∧ Rec Ub [.int .u64 (U : Int)] v ∧ Ux w q n c Ub Sb U v) 12 (by kernel_rfl) ?_
        generalize A.drew = d1 at hHeld KA ⊢
        refine PhaseR.takeD (i := 0) (v := ?_) [0, 2, 12, 13] 29 (by kernel_rfl) rfl (by rfl) (by kernel_rfl) (by kernel_rfl) (by kernel_rfl) (by kernel_rfl) (by kernel_rfl) (fun _ _ _ h => h) (Or.inl ⟨by kernel_rfl, ?_⟩) hHeld ?_
        rotate_left
        · intro w' hSw
          (try dsimp only at hSw)
          have u0 := hSw.2.2.1.cell 0 _ rfl
          go_simp
          first | done | with_reducible rfl
        try simp only [Act.put, List.setIfInBounds_toArray, List.set]
        refine PhaseR.takeD (i := 1) (v := ?_) [1, 2, 12, 13] 30 (by kernel_rfl) rfl (by rfl) (by kernel_rfl) (by kernel_rfl) (by kernel_rfl) (by kernel_rfl) (by kernel_rfl) (fun _ _ _ h => h) (Or.inl ⟨by kernel_rfl, ?_⟩) hHeld ?_
        rotate_left
        · intro w' hSw
          (try dsimp only at hSw)
          go_simp
          first | done | with_reducible rfl
        try simp only [Act.put, List.setIfInBounds_toArray, List.set]
        refine PhaseR.takeD (i := 3) (v := ?_) [3, 6, 7, 12, 13] 32 (by kernel_rfl) rfl (by rfl) (by kernel_rfl) (by kernel_rfl) (by kernel_rfl) (by kernel_rfl) (by kernel_rfl) (fun _ _ _ h => h) (Or.inl ⟨by kernel_rfl, ?_⟩) hHeld ?_
        rotate_left
        · intro w' hSw
          (try dsimp only at hSw)
          have g0 := hSw.1.g
          go_simp
          first | done | with_reducible rfl
        try simp only [Act.put, List.setIfInBounds_toArray, List.set]
        refine PhaseR.takeD (i := 4) (v := ?_) [4, 5, 6, 7, 12, 13] 33 (by kernel_rfl) rfl (by rfl) (by kernel_rfl) (by kernel_rfl) (by kernel_rfl) (by kernel_rfl) (by kernel_rfl) (fun _ _ _ h => h) (Or.inl ⟨by kernel_rfl, ?_⟩) hHeld ?_
        rotate_left
        · intro w' hSw
          (try dsimp only at hSw)
          go_simp
          first | done | with_reducible rfl
        try simp only [Act.put, List.setIfInBounds_toArray, List.set]
        refine PhaseR.takeD (i := 5) (v := ?_) [5, 6, 7, 12, 13] 34 (by kernel_rfl) rfl (by rfl) (by kernel_rfl) (by kernel_rfl) (by kernel_rfl) (by kernel_rfl) (by kernel_rfl) (fun _ _ _ h => h) (Or.inl ⟨by kernel_rfl, ?_⟩) hHeld ?_
        rotate_left
        · intro w' hSw
          (try dsimp only at hSw)
          have z0 := hSw.2.1.cell 0 _ rfl
          go_simp
          first | done | with_reducible rfl
        try simp only [Act.put, List.setIfInBounds_toArray, List.set]
        refine PhaseR.takeD (i := 6) (v := ?_) [6, 7, 12, 13] 35 (by kernel_rfl) rfl (by rfl) (by kernel_rfl) (by kernel_rfl) (by kernel_rfl) (by kernel_rfl) (by kernel_rfl) (fun _ _ _ h => h) (Or.inl ⟨by kernel_rfl, ?_⟩) hHeld ?_
        rotate_left
        · intro w' hSw
          (try dsimp only at hSw)
          go_simp
          first | done | with_reducible rfl
        try simp only [Act.put, List.setIfInBounds_toArray, List.set]
        refine PhaseR.takeD (i := 7) (v := ?_) [7, 12, 13] 36 (by kernel_rfl) rfl (by rfl) (by kernel_rfl) (by kernel_rfl) (by kernel_rfl) (by kernel_rfl) (by kernel_rfl) (fun _ _ _ h => h) (Or.inl ⟨by kernel_rfl, ?_⟩) hHeld ?_
        rotate_left
        · intro w' hSw
          (try dsimp only at hSw)
          obtain ⟨s0, s1, s2, s3, s4⟩ := hSw.1.s
          go_simp
          first | done | with_reducible rfl
        try simp only [Act.put, List.setIfInBounds_toArray, List.set]
        refine PhaseR.takeD (i := 8) (v := ?_) [8, 9, 12, 13] 37 (by kernel_rfl) rfl (by rfl) (by kernel_rfl) (by kernel_rfl) (by kernel_rfl) (by kernel_rfl) (by kernel_rfl) (fun _ _ _ h => h) (Or.inl ⟨by kernel_rfl, ?_⟩) hHeld ?_
        rotate_left
        · intro w' hSw
          (try dsimp only at hSw)
          go_simp
          first | done | with_reducible rfl
        try simp only [Act.put, List.setIfInBounds_toArray, List.set]
        refine PhaseR.takeD (i := 9) (v := ?_) [9, 12, 13] 38 (by kernel_rfl) rfl (by rfl) (by kernel_rfl) (by kernel_rfl) (by kernel_rfl) (by kernel_rfl) (by kernel_rfl) (fun _ _ _ h => h) (Or.inl ⟨by kernel_rfl, ?_⟩) hHeld ?_
        rotate_left
        · intro w' hSw
          (try dsimp only at hSw)
          have z1 := hSw.2.1.cell 1 _ rfl
          go_simp
          first | done | with_reducible rfl
        try simp only [Act.put, List.setIfInBounds_toArray, List.set]
        refine PhaseR.takeD (i := 10) (v := ?_) [10, 11, 12, 13] 39 (by kernel_rfl) rfl (by rfl) (by kernel_rfl) (by kernel_rfl) (by kernel_rfl) (by kernel_rfl) (by kernel_rfl) (fun _ _ _ h => h) (Or.inl ⟨by kernel_rfl, ?_⟩) hHeld ?_
        rotate_left
        · intro w' hSw
          (try dsimp only at hSw)
          go_simp
          first | done | with_reducible rfl
        try simp only [Act.put, List.setIfInBounds_toArray, List.set]
        refine PhaseR.takeD (i := 11) (v := ?_) [11, 12, 13] 40 (by kernel_rfl) rfl (by rfl) (by kernel_rfl) (by kernel_rfl) (by kernel_rfl) (by kernel_rfl) (by kernel_rfl) (fun _ _ _ h => h) (Or.inl ⟨by kernel_rfl, ?_⟩) hHeld ?_
        rotate_left
        · intro w' hSw
          (try dsimp only at hSw)
          have z2 := hSw.2.1.cell 2 _ rfl
          go_simp
          first | done | with_reducible rfl
        try simp only [Act.put, List.setIfInBounds_toArray, List.set]
        refine PhaseR.one (i := 2) (by kernel_rfl) rfl (by kernel_rfl) (fun K hK => ?_)
        unfold Oper.wpIn
        refine ⟨fun _ _ => trivial, ?_⟩
        go_simp
        refine ⟨rfl, (callsIn_wide.2 (bitWith U j d1 kl (by omega))).mono ?_⟩
        rintro e d2 ⟨rfl, rfl⟩
        refine hK _ _ (fun _ => hHeld) ?_
        clear hK K
        try simp only [Act.put, List.setIfInBounds_toArray, List.set]
        refine PhaseR.one (i := 12) (by kernel_rfl) rfl (by kernel_rfl) (fun K hK => ?_)
        unfold Oper.wpIn
        refine ⟨fun _ _ => trivial, ?_⟩
        go_simp
        refine ⟨rfl, (callsIn_wide.2 (withWords (U ||| 2 ^ j) so ox oy d2 (with_lt kl (by omega)) IX.out.1 IX.out.2)).mono ?_⟩
        rintro e d3 ⟨U', rfl, hW, hb⟩
        have X3 := hHeld.2.2.2
        replace X3 : Ux w q n c Ub Sb U d3 := ⟨X3.bw.trans (hb.mono X3.bw.size), X3.ru.below hb, X3.rs.below hb⟩
        replace KA := hide (KA.out.trans (keepsM_below hb))
        refine hK _ _ (fun h => absurd h (by decide)) ?_
        clear hK K hHeld hb
        try simp only [Act.put, List.setIfInBounds_toArray, List.set]
        have c0 := X3.ru.cell 0 _ rfl
        have f0 := X3.ru.soft 0
        refine PhaseR.one (i := 13) (by kernel_rfl) rfl (by kernel_rfl) (fun K hK => ?_)
        unfold Oper.wpIn
        refine ⟨fun _ _ => trivial, ?_⟩
        go_simp
        have T4 := (Turn.refl Ub d3).setCell (p := ⟨Ub, 0, none⟩) rfl (.int .u64 (U' : Int))
        have X4 : Ux w q n c Ub Sb U' (d3.setCell ⟨Ub, 0, none⟩ (.int .u64 (U' : Int))) := ⟨X3.bw.trans (T4.below (by omega) X3.bw.size), X3.ru.set 0 _ (by simp) rfl, X3.rs.turn T4 (by omega)⟩
        have FIN : Hid (KeepsFrom W1.heap.size A _ ∧ _) := ⟨KA.out.trans (keepsM_turn T4 (by rw [HSZ.out]; omega)), NXT.out U' _ hW.lt (fun i => by
          rw [hW.b i, with_bits, E45.out.1, E45.out.2, decide_eq_true e4]
          simp [Bool.or_assoc]) X4⟩
        refine hK _ _ (fun h => absurd h (by decide)) ?_
        clear hK K T4 X4 c0 f0 X3 hW
        try simp only [Act.put, List.setIfInBounds_toArray, List.set]
        refine PhaseR.done (by kernel_rfl) ?_ _
        gi_wp2
        exact ⟨FIN.out.1, FIN.out.2, fun _ _ _ _ h => h.elim⟩
      · gi_wp2_with fail
        refine ⟨trivial, rfl, (callsIn_wide.2 (bitHas U j A kl (by omega))).mono ?_⟩
        rintro e u ⟨rfl, rfl⟩
        cases eb : U.testBit j with
        | true =>
          have EBT := hide eb
          clear eb
          gi_wp2_with fail

          have bA : Below u.heap.size u u.drew := (Below.refl _ _).drew
          have HB2 : Ux w q n c Ub Sb U u.drew := ⟨HB.out.bw.trans (bA.mono HB.out.bw.size), HB.out.ru.below bA, HB.out.rs.below bA⟩
          have KA : Hid (KeepsFrom W1.heap.size u u.drew) := keepsM_below bA
          have hHeld : Rd u.drew 0 tb2 to2 tc2 9 mo so ∧ Rec X [.int .i64 (mo : Int), .int .i64 ox, .int .i64 oy, .int .i64 ok, .int .i64 ot] u.drew ∧ Rec Ub [.int .u64 (U : Int)] u.drew ∧ Ux w q n c Ub Sb U u.drew := ⟨RD.out.below bA, HX.out.below bA, HB2.ru, HB2⟩
          clear bA HB2 c0 r0
          refine PhaseR.region (S := fun v => Rd v 0 tb2 to2 tc2 9 mo so ∧ Rec X [.int .i64 (mo : Int), .int .i64 ox, .int .i64 oy, .int .i64 ok, .int .i64 ot] v ∧ Rec Ub [.int .u64 (U : Int)] v ∧ Ux w q n c Ub Sb U v) 12 (by kernel_rfl) ?_
          generalize u.drew = d1 at hHeld KA ⊢
          refine PhaseR.takeD (i := 0) (v := ?_) [0, 2, 12, 13] 29 (by kernel_rfl) rfl (by rfl) (by kernel_rfl) (by kernel_rfl) (by kernel_rfl) (by kernel_rfl) (by kernel_rfl) (fun _ _ _ h => h) (Or.inl ⟨by kernel_rfl, ?_⟩) hHeld ?_
          rotate_left
          · intro w' hSw
            (try dsimp only at hSw)
            have u0 := hSw.2.2.1.cell 0 _ rfl
            go_simp
            first | done | with_reducible rfl
          try simp only [Act.put, List.setIfInBounds_toArray, List.set]
          refine PhaseR.takeD (i := 1) (v := ?_) [1, 2, 12, 13] 30 (by kernel_rfl) rfl (by rfl) (by kernel_rfl) (by kernel_rfl) (by kernel_rfl) (by kernel_rfl) (by kernel_rfl) (fun _ _ _ h => h) (Or.inl ⟨by kernel_rfl, ?_⟩) hHeld ?_
          rotate_left
          · intro w' hSw
            (try dsimp only at hSw)
            go_simp
            first | done | with_reducible rfl
          try simp only [Act.put, List.setIfInBounds_toArray, List.set]
          refine PhaseR.takeD (i := 3) (v := ?_) [3, 6, 7, 12, 13] 32 (by kernel_rfl) rfl (by rfl) (by kernel_rfl) (by kernel_rfl) (by kernel_rfl) (by kernel_rfl) (by kernel_rfl) (fun _ _ _ h => h) (Or.inl ⟨by kernel_rfl, ?_⟩) hHeld ?_
          rotate_left
          · intro w' hSw
            (try dsimp only at hSw)
            have g0 := hSw.1.g
            go_simp
            first | done | with_reducible rfl
          try simp only [Act.put, List.setIfInBounds_toArray, List.set]
          refine PhaseR.takeD (i := 4) (v := ?_) [4, 5, 6, 7, 12, 13] 33 (by kernel_rfl) rfl (by rfl) (by kernel_rfl) (by kernel_rfl) (by kernel_rfl) (by kernel_rfl) (by kernel_rfl) (fun _ _ _ h => h) (Or.inl ⟨by kernel_rfl, ?_⟩) hHeld ?_
          rotate_left
          · intro w' hSw
            (try dsimp only at hSw)
            go_simp
            first | done | with_reducible rfl
          try simp only [Act.put, List.setIfInBounds_toArray, List.set]
          refine PhaseR.takeD (i := 5) (v := ?_) [5, 6, 7, 12, 13] 34 (by kernel_rfl) rfl (by rfl) (by kernel_rfl) (by kernel_rfl) (by kernel_rfl) (by kernel_rfl) (by kernel_rfl) (fun _ _ _ h => h) (Or.inl ⟨by kernel_rfl, ?_⟩) hHeld ?_
          rotate_left
          · intro w' hSw
            (try dsimp only at hSw)
            have z0 := hSw.2.1.cell 0 _ rfl
            go_simp
            first | done | with_reducible rfl
          try simp only [Act.put, List.setIfInBounds_toArray, List.set]
          refine PhaseR.takeD (i := 6) (v := ?_) [6, 7, 12, 13] 35 (by kernel_rfl) rfl (by rfl) (by kernel_rfl) (by kernel_rfl) (by kernel_rfl) (by kernel_rfl) (by kernel_rfl) (fun _ _ _ h => h) (Or.inl ⟨by kernel_rfl, ?_⟩) hHeld ?_
          rotate_left
          · intro w' hSw
            (try dsimp only at hSw)
            go_simp
            first | done | with_reducible rfl
          try simp only [Act.put, List.setIfInBounds_toArray, List.set]
          refine PhaseR.takeD (i := 7) (v := ?_) [7, 12, 13] 36 (by kernel_rfl) rfl (by rfl) (by kernel_rfl) (by kernel_rfl) (by kernel_rfl) (by kernel_rfl) (by kernel_rfl) (fun _ _ _ h => h) (Or.inl ⟨by kernel_rfl, ?_⟩) hHeld ?_
          rotate_left
          · intro w' hSw
            (try dsimp only at hSw)
            obtain ⟨s0, s1, s2, s3, s4⟩ := hSw.1.s
            go_simp
            first | done | with_reducible rfl
          try simp only [Act.put, List.setIfInBounds_toArray, List.set]
          refine PhaseR.takeD (i := 8) (v := ?_) [8, 9, 12, 13] 37 (by kernel_rfl) rfl (by rfl) (by kernel_rfl) (by kernel_rfl) (by kernel_rfl) (by kernel_rfl) (by kernel_rfl) (fun _ _ _ h => h) (Or.inl ⟨by kernel_rfl, ?_⟩) hHeld ?_
          rotate_left
          · intro w' hSw
            (try dsimp only at hSw)
            go_simp
            first | done | with_reducible rfl
          try simp only [Act.put, List.setIfInBounds_toArray, List.set]
          refine PhaseR.takeD (i := 9) (v := ?_) [9, 12, 13] 38 (by kernel_rfl) rfl (by rfl) (by kernel_rfl) (by kernel_rfl) (by kernel_rfl) (by kernel_rfl) (by kernel_rfl) (fun _ _ _ h => h) (Or.inl ⟨by kernel_rfl, ?_⟩) hHeld ?_
          rotate_left
          · intro w' hSw
            (try dsimp only at hSw)
            have z1 := hSw.2.1.cell 1 _ rfl
            go_simp
            first | done | with_reducible rfl
          try simp only [Act.put, List.setIfInBounds_toArray, List.set]
          refine PhaseR.takeD (i := 10) (v := ?_) [10, 11, 12, 13] 39 (by kernel_rfl) rfl (by rfl) (by kernel_rfl) (by kernel_rfl) (by kernel_rfl) (by kernel_rfl) (by kernel_rfl) (fun _ _ _ h => h) (Or.inl ⟨by kernel_rfl, ?_⟩) hHeld ?_
          rotate_left
          · intro w' hSw
            (try dsimp only at hSw)
            go_simp
            first | done | with_reducible rfl
          try simp only [Act.put, List.setIfInBounds_toArray, List.set]
          refine PhaseR.takeD (i := 11) (v := ?_) [11, 12, 13] 40 (by kernel_rfl) rfl (by rfl) (by kernel_rfl) (by kernel_rfl) (by kernel_rfl) (by kernel_rfl) (by kernel_rfl) (fun _ _ _ h => h) (Or.inl ⟨by kernel_rfl, ?_⟩) hHeld ?_
          rotate_left
          · intro w' hSw
            (try dsimp only at hSw)
            have z2 := hSw.2.1.cell 2 _ rfl
            go_simp
            first | done | with_reducible rfl
          try simp only [Act.put, List.setIfInBounds_toArray, List.set]
          refine PhaseR.one (i := 2) (by kernel_rfl) rfl (by kernel_rfl) (fun K hK => ?_)
          unfold Oper.wpIn
          refine ⟨fun _ _ => trivial, ?_⟩
          go_simp
          refine ⟨rfl, (callsIn_wide.2 (bitWith U j d1 kl (by omega))).mono ?_⟩
          rintro e d2 ⟨rfl, rfl⟩
          refine hK _ _ (fun _ => hHeld) ?_
          clear hK K
          try simp only [Act.put, List.setIfInBounds_toArray, List.set]
          refine PhaseR.one (i := 12) (by kernel_rfl) rfl (by kernel_rfl) (fun K hK => ?_)
          unfold Oper.wpIn
          refine ⟨fun _ _ => trivial, ?_⟩
          go_simp
          refine ⟨rfl, (callsIn_wide.2 (withWords (U ||| 2 ^ j) so ox oy d2 (with_lt kl (by omega)) IX.out.1 IX.out.2)).mono ?_⟩
          rintro e d3 ⟨U', rfl, hW, hb⟩
          have X3 := hHeld.2.2.2
          replace X3 : Ux w q n c Ub Sb U d3 := ⟨X3.bw.trans (hb.mono X3.bw.size), X3.ru.below hb, X3.rs.below hb⟩
          replace KA := hide (KA.out.trans (keepsM_below hb))
          refine hK _ _ (fun h => absurd h (by decide)) ?_
          clear hK K hHeld hb
          try simp only [Act.put, List.setIfInBounds_toArray, List.set]
          have c0 := X3.ru.cell 0 _ rfl
          have f0 := X3.ru.soft 0
          refine PhaseR.one (i := 13) (by kernel_rfl) rfl (by kernel_rfl) (fun K hK => ?_)
          unfold Oper.wpIn
          refine ⟨fun _ _ => trivial, ?_⟩
          go_simp
          have T4 := (Turn.refl Ub d3).setCell (p := ⟨Ub, 0, none⟩) rfl (.int .u64 (U' : Int))
          have X4 : Ux w q n c Ub Sb U' (d3.setCell ⟨Ub, 0, none⟩ (.int .u64 (U' : Int))) := ⟨X3.bw.trans (T4.below (by omega) X3.bw.size), X3.ru.set 0 _ (by simp) rfl, X3.rs.turn T4 (by omega)⟩
          have FIN : Hid (KeepsFrom W1.heap.size u _ ∧ _) := ⟨KA.out.trans (keepsM_turn T4 (by rw [HSZ.out]; omega)), NXT.out U' _ hW.lt (fun i => by
            rw [hW.b i, with_bits, E45.out.1, E45.out.2, EBT.out, Bool.or_true]
            simp [Bool.or_assoc]) X4⟩
          refine hK _ _ (fun h => absurd h (by decide)) ?_
          clear hK K T4 X4 c0 f0 X3 hW
          try simp only [Act.put, List.setIfInBounds_toArray, List.set]
          refine PhaseR.done (by kernel_rfl) ?_ _
          gi_wp2
          exact ⟨FIN.out.1, FIN.out.2, fun _ _ _ _ h => h.elim⟩
        | false =>
          have FIN : Hid (KeepsFrom W1.heap.size u u ∧ _) := ⟨keepsM_refl u, NXT.out U u kl (fun i => by rw [decide_eq_false (by omega : ¬ (4 : Int) ≤ (mo : Int)), eb]; simp) HB.out⟩
          clear eb
          gi_wp2
          exact ⟨FIN.out.1, FIN.out.2, fun _ _ _ _ h => h.elim⟩
    · rintro D xs A hD hS hI hK
      obtain ⟨U, hSS, hB⟩ := hI.ex
      have xl : xs.length = b.ops.length := by have := rv_len b.ops b.ops.length (Nat.le_refl _); rw [← hS] at this; exact this
      rw [xl] at hSS
      have bits := hSS.end_
      rw [HN.out] at bits
      have c0 := hB.ru.cell 0 _ rfl
      have hm : Mild w.heap.size A (A.putObj D (.deferred none)) := Mild.put (.deferred none) (by rw [HSZ.out] at hD; omega) hK rfl
      have FIN : Hid (Below w.heap.size w (A.putObj D (.deferred none))) := Mild.below hB.bw hm (Nat.le_refl _)
      have UL := hide hSS.ul
      have BT := hide bits
      clear hm bits hSS hB hI hS xl
      gi_wp2
      refine ⟨by simp, .inl ⟨_, _, rfl, run_takeDeferred hK, ?_⟩⟩
      exact ⟨.int .u64 (U : Int), by simp [results, Tryd.results36, go_sem], U, rfl, UL.out, BT.out, FIN.out⟩
    · intro D pre A hD h
      exact h.elim
theorem usedIn (b : Bk) (q : Option Addr) (n c B : Nat) (w : World) (hr : ORow w B (.slice q n c) b.ops) (hn : b.ops.length = n) (ht : Tbs w) (hok : okB b = true) :
    Calls Tryd.prog 36 #[.agg #[.int .i64 b.pc, .int .i64 b.ln, .slice q n c, .int .i64 b.en, .int .i64 b.x, .int .i64 b.y, .int .i64 b.k]] w fun e w' => ∃ U : Nat, e = .returned (.int .u64 (U : Int)) ∧ U < 2 ^ 64 ∧ (∀ i, i < n → U.testBit i = (usedL b).getD i false) ∧ Below w.heap.size w w' := by
  obtain ⟨e1, _⟩ := end_parts (ok_parts hok).2.2.2.2
  obtain ⟨m, s, f1, f2, f3, f4, f5⟩ := en_shape e1.1 e1.2
  have := usedInM b b.pc b.ln b.x b.y b.k m ⟨rfl, rfl, f1, rfl, rfl, rfl⟩ s q n c B w hr hn ht hok f3 ⟨f4, f5⟩
  rw [← f1] at this
  exact this
end Go.Proofs.YtflhehofgplcoaaDoor.Op
namespace Go.Proofs.YtflhehofgplcoaaDoor.Op
set_option linter.unusedVariables false
set_option linter.unusedSimpArgs false
open Go.ChangeShapes Go.WideShapes Go.ChangeAt Go.RowKit IntS Flat Irk
open Ir Dt
open Mch (Rec)
open Pol (Keep)
set_option maxRecDepth 8000 in
set_option maxHeartbeats 8000000 in
theorem leaveDead (b : Bk) (Z : Nat) (q : Option Addr) (n c : Nat) (w : World) (ht : Based w Z q) (h : Hd w Z q n c b) (hok : okB b = true) :
    Calls Tryd.prog 38 #[.pointer (some ⟨Z, 0, none⟩)] w fun e w' => Wy w Z q (dropB b (usedL b)) e w' := by
  obtain ⟨B, hrow⟩ := h.ops.row
  have hl := h.ops.len
  have hT : Tbs w := ht.tbs (Pol.Keep.refl _ _)
  have UI := hide (usedIn b q n c B w hrow hl hT hok)
  have HD := hide h
  have TB := hide ht
  have z0 := h.box.cell 0 _ rfl
  have z1 := h.box.cell 1 _ rfl
  have z2 := h.box.cell 2 _ rfl
  have z3 := h.box.cell 3 _ rfl
  have z4 := h.box.cell 4 _ rfl
  have z5 := h.box.cell 5 _ rfl
  have z6 := h.box.cell 6 _ rfl
  clear h ht hT hrow
  go_enter Tryd.func38, Tryd.ntmps38
  go_wp2_with fail
  refine UI.out.mono ?_
  rintro e u ⟨U, rfl, ul, bits, hb⟩
  have TA : Based u Z q := by obtain ⟨base, y1, y2, y3, y4⟩ := TB.out.ex; exact ⟨base, y1, y2.trans (hb.mono y2.size), y3, y4⟩
  have KH := hide (keepH b (usedL b) U Z q n c u TA (HD.out.below hb) hok (used_refs hok) ul bits)
  have BW := hide hb
  clear TA bits hb z0 z1 z2 z3 z4 z5 z6
  go_wp2_with fail
  refine KH.out.mono ?_
  rintro e v ⟨rfl, ⟨q', n', c', y1, y2⟩, y3⟩
  have FIN : Hid (Wy w Z q (dropB b (usedL b)) (.returned (.tuple #[])) v) := by
    refine ⟨rfl, ⟨q', n', c', y1, ?_⟩, (Pol.Keep.of_below BW.out).trans y3⟩
    rcases y2 with y2 | y2
    · exact Or.inl y2
    · exact Or.inr fun g e => by have := y2 g e; have := BW.out.size; omega
  clear y1 y2 y3 KH
  go_wp2
  exact bodyPost_end (v := .tuple #[]) (by simp [results, Tryd.results38, go_sem]) rfl FIN.out
def setF (b : Bk) : Bk := dropB b (setsK b.ops)
def dedF (b : Bk) : Bk := dropB b (usedL b)
theorem set_eq {b : Bk} (h : okB b = true) : setsB b = setF b := by unfold setsB; rw [if_pos h]; rfl
theorem ded_eq {b : Bk} (h : okB b = true) : deadB b = dedF b := by unfold deadB; rw [if_pos h]; rfl
theorem setWay : Way 30 setF where
  en := fun args w => by kernel_rfl
  ok := fun b h => by rw [← set_eq h]; exact sets_ok h
  go := fun b Z q n c w ht h hok => leaveSets b Z q n c w ht h hok
theorem dedWay : Way 38 dedF where
  en := fun args w => by kernel_rfl
  ok := fun b h => by rw [← ded_eq h]; exact dead_ok h
  go := fun b Z q n c w ht h hok => leaveDead b Z q n c w ht h hok
theorem noSets {b : Bk} (h : okB b = false) : setsB b = nilB := by unfold setsB; rw [h]; rfl
theorem noDead {b : Bk} (h : okB b = false) : deadB b = nilB := by unfold deadB; rw [h]; rfl
theorem ok_nil : okB nilB = false := by decide
theorem len_drop (b : Bk) (keep : List Bool) : (dropB b keep).ops.length ≤ b.ops.length := (dropS_len b.ops keep b.ops.length (Nat.le_refl _)).2
theorem lenSets (b : Bk) : (setsB b).ops.length ≤ b.ops.length := by
  unfold setsB
  split
  · exact len_drop _ _
  · exact Nat.zero_le _
theorem lenDead (b : Bk) : (deadB b).ops.length ≤ b.ops.length := by
  unfold deadB
  split
  · exact len_drop _ _
  · exact Nat.zero_le _
theorem all_eq {b : Bk} (h : okB b = true) : allB b = dedF (setF (dedF (cstF (cpyF b)))) := by
  have h1 := copy_ok h
  have h2 := const_ok h1
  have h3 := dead_ok h2
  have h4 := sets_ok h3
  unfold allB
  rw [ded_eq h4, set_eq h3, ded_eq h2, cst_eq h1, cpy_eq h]
theorem noAll {b : Bk} (h : okB b = false) : allB b = nilB := by
  unfold allB
  rw [noCopy h, noConst ok_nil, noDead ok_nil, noSets ok_nil, noDead ok_nil]
theorem lenAll (b : Bk) : (allB b).ops.length ≤ b.ops.length :=
  Nat.le_trans (lenDead _) (Nat.le_trans (lenSets _) (Nat.le_trans (lenDead _) (Nat.le_trans (lenConst _) (lenCopy b))))
end Go.Proofs.YtflhehofgplcoaaDoor.Op
