/-
  Pieces of code as data: contracts of the laws' own eqIrBlock, of the specification's l1In; a piece of code that came in.
-/
import Derived.Test.YthlpndligadnjaaIrN
namespace Go.Proofs.Ythlpndligadnjaa.Ir
set_option linter.unusedVariables false
open Go.ChangeShapes Go.WideShapes Go.ChangeAt Go.RowKit IntS Mch

def inI (n lo hi : Int) : Bool := decide (lo ≤ n ∧ n ≤ hi)
set_option maxRecDepth 8000 in
set_option maxHeartbeats 4000000 in
theorem eqIrOpS (os : List Opn) (B B' : Nat) (v v' : Value) (w : World) (h : ORow w B v os) (h' : ORow w B' v' os) :
    Calls Try.prog 61 #[v, v'] w fun e w' => e = .returned (.bool true) ∧ Below w.heap.size w w' := by
  obtain ⟨a, cap, off, rfl, h2, h3, hz, h4⟩ := h
  obtain ⟨a', cap', off', rfl, h2', h3', hz', h4'⟩ := h'
  unfold maxLen at h3 h3'
  clear hz hz'
  obtain ⟨n, en⟩ : ∃ n, os.length = n := ⟨_, rfl⟩
  have EN := hide en
  rw [en] at h2 h2' ⊢
  have H4 := hide h4
  have H4' := hide h4'
  have nn : ((n : Int) != (n : Int)) = false := by simp
  clear en h4 h4'
  go_enter Try.func61, Try.ntmps61
  by_cases n0 : n = 0
  · subst n0
    go_wp2
    refine wp_loop_rounds 1 ?_
    rw [rounds_succ]
    go_wp2
    go_ret
    exact ⟨rfl, Below.refl _ _⟩
  · obtain ⟨rfl, hc⟩ := H4.out.resolve_left (fun e => n0 (by rw [← EN.out, e]; rfl))
    obtain ⟨rfl, hc'⟩ := H4'.out.resolve_left (fun e => n0 (by rw [← EN.out, e]; rfl))
    have HC := hide hc
    have HC' := hide hc'
    clear hc hc' H4 H4'
    go_wp2
    go_loopw [5] (fun i wr => ∃ k : Nat, k ≤ n ∧ i = .int .i64 k ∧ Hid (Below w.heap.size w wr)) (fun i _ => n - (intOf i).toNat)
    case atStart => exact ⟨0, by omega, rfl, Below.refl _ _⟩
    case round =>
      obtain ⟨k, hk, rfl, HB⟩ := hrel
      by_cases hlt : k < n
      · obtain ⟨o, et⟩ : ∃ o, os[k]? = some o := ⟨_, List.getElem?_eq_getElem (by rw [EN.out]; exact hlt)⟩
        obtain ⟨c0, c1, c2, c3, c4⟩ := (HC.out k o et).below HB.out
        obtain ⟨d0, d1, d2, d3, d4⟩ := (HC'.out k o et).below HB.out
        have HB2 : Hid (Below w.heap.size w wr.drew) := HB.out.drew
        have lk : ((k : Nat) : Int) < (n : Nat) := by omega
        clear et
        go_wp2_with fail
        refine region_tail 8 (by kernel_rfl) (by kernel_rfl) ?_
        simp only [List.take_succ_cons, List.take_zero, List.drop_succ_cons, List.drop_zero]
        repeat still_step
        refine wpStill_nil ?_
        go_wp2_with fail
        refine (eqIrOp o _).mono ?_
        rintro e u ⟨rfl, hb⟩
        have HB3 := hide (HB2.out.trans (hb.mono HB2.out.size))
        clear hb
        go_wp2
        exact ⟨⟨k + 1, by omega, by go_num, HB3⟩, by simp [intOf]; omega⟩
      · go_wp2
        go_ret
        exact ⟨rfl, HB.out⟩
set_option maxRecDepth 8000 in
set_option maxHeartbeats 4000000 in
theorem eqIrBlock (b : Bk) (c c' : List Value) (w : World) (h : RBk w c b) (h' : RBk w c' b) :
    Calls Try.prog 33 #[.agg c.toArray, .agg c'.toArray] w fun e w' => e = .returned (.bool true) ∧ Below w.heap.size w w' := by
  obtain ⟨a, cap, B, rfl, hr⟩ := h
  obtain ⟨a', cap', B', rfl, hr'⟩ := h'
  obtain ⟨pc, ln, ops, en, x, y, k⟩ := b
  simp only [bv] at *
  have T := hide (Two.new w [.int .i64 pc, .int .i64 ln, .slice a ops.length cap, .int .i64 en, .int .i64 x, .int .i64 y, .int .i64 k] [.int .i64 pc, .int .i64 ln, .slice a' ops.length cap', .int .i64 en, .int .i64 x, .int .i64 y, .int .i64 k] 39 39)
  have H := hide (And.intro hr hr')
  have n1 := same_ne pc
  have n2 := same_ne ln
  have n3 := same_ne en
  have n4 := same_ne x
  have n5 := same_ne y
  have n6 := same_ne k
  clear hr hr'
  go_enter Try.func33, Try.ntmps33
  go_wp2_with fail
  refine (eqIrOpS ops B B' _ _ _ (H.out.1.below T.out.bw) (H.out.2.below T.out.bw)).mono ?_
  rintro e u ⟨rfl, hb⟩
  replace T := hide (T.out.below hb)
  clear hb H
  have a3 := T.out.a.cell 3 _ rfl
  have b3 := T.out.b.cell 3 _ rfl
  have a4 := T.out.a.cell 4 _ rfl
  have b4 := T.out.b.cell 4 _ rfl
  have a5 := T.out.a.cell 5 _ rfl
  have b5 := T.out.b.cell 5 _ rfl
  have a6 := T.out.a.cell 6 _ rfl
  have b6 := T.out.b.cell 6 _ rfl
  have BW := hide T.out.bw
  clear T
  go_wp2
  go_ret
  exact ⟨rfl, BW.out⟩
theorem list_of' {α : Type} {P : Nat → α → Prop} : ∀ n : Nat, (∀ i, i < n → ∃ x, P i x) → ∃ xs : List α, xs.length = n ∧ ∀ (i : Nat) x, xs[i]? = some x → P i x
  | 0, _ => ⟨[], rfl, fun i x h => by simp at h⟩
  | n + 1, h => by
    obtain ⟨xs, hl, hx⟩ := list_of' n (fun i hi => h i (by omega))
    obtain ⟨y, hy⟩ := h n (by omega)
    refine ⟨xs ++ [y], by simp [hl], fun i x hi => ?_⟩
    by_cases e : i < n
    · rw [List.getElem?_append_left (by omega)] at hi
      exact hx i x hi
    · rw [List.getElem?_append_right (by omega)] at hi
      have : i = n := by
        have := (List.getElem?_eq_some_iff.1 hi).1
        simp at this; omega
      subst this
      rw [hl, Nat.sub_self] at hi
      obtain rfl := Option.some.inj (show some y = some x from hi)
      exact hy
theorem fiveL {l : List Value} (h : l.length = 5) : ∃ a b c d e, l = [a, b, c, d, e] := by
  match l, h with
  | [a, b, c, d, e], _ => exact ⟨a, b, c, d, e, rfl⟩
theorem sevenL {l : List Value} (h : l.length = 7) : ∃ a b c d e f g, l = [a, b, c, d, e, f, g] := by
  match l, h with
  | [a, b, c, d, e, f, g], _ => exact ⟨a, b, c, d, e, f, g, rfl⟩
set_option maxRecDepth 8000 in
theorem ops_hold {w : World} {n : Nat} {cs : List Value} (h : Shape.Holds Try.prog w (n + 3) 30 cs) : ∃ v os B, cs = [v] ∧ ORow w B v os := by
  rcases Shape.holds_slice (n := n + 2) Try.underlying30 h with h | ⟨x, l, c, h, hl, hm, hx⟩
  · exact ⟨_, [], 0, h, ⟨none, 0, 0, rfl, Nat.le_refl _, by unfold maxLen; omega, fun _ => rfl, Or.inl rfl⟩⟩
  · have e5 : Try.prog.cellsOf 98 = 5 := by kernel_rfl
    have e1 : Try.prog.cellsOf 3 = 1 := by kernel_rfl
    have hc (i : Nat) (hi : i < l) : ∃ o : Opn, w.cell? (x.add (i * 5)) = some (.int .i64 o.kd) ∧ w.cell? (x.add (i * 5 + 1)) = some (.int .i64 o.x) ∧ w.cell? (x.add (i * 5 + 2)) = some (.int .i64 o.y) ∧ w.cell? (x.add (i * 5 + 3)) = some (.int .i64 o.k) ∧ w.cell? (x.add (i * 5 + 4)) = some (.int .i64 o.t) := by
      obtain ⟨xs, h1, h2, h3⟩ := hx i (by omega)
      rw [e5] at h1 h2
      obtain ⟨a, b, c, d, e, rfl⟩ := fiveL h1
      obtain ⟨_, hf⟩ := Shape.holds_struct (n := n + 1) Try.underlying98 h3
      obtain ⟨v0, q0, _⟩ := Shape.holds_int (n := n) Try.underlying3 (hf _ (List.mem_of_getElem? (i := 0) rfl))
      obtain ⟨v1, q1, _⟩ := Shape.holds_int (n := n) Try.underlying3 (hf _ (List.mem_of_getElem? (i := 1) rfl))
      obtain ⟨v2, q2, _⟩ := Shape.holds_int (n := n) Try.underlying3 (hf _ (List.mem_of_getElem? (i := 2) rfl))
      obtain ⟨v3, q3, _⟩ := Shape.holds_int (n := n) Try.underlying3 (hf _ (List.mem_of_getElem? (i := 3) rfl))
      obtain ⟨v4, q4, _⟩ := Shape.holds_int (n := n) Try.underlying3 (hf _ (List.mem_of_getElem? (i := 4) rfl))
      simp [e1] at q0 q1 q2 q3 q4
      subst q0 q1 q2 q3 q4
      exact ⟨⟨v0, v1, v2, v3, v4⟩, h2 0 (by omega), h2 1 (by omega), h2 2 (by omega), h2 3 (by omega), h2 4 (by omega)⟩
    obtain ⟨os, e, hts⟩ := list_of' l hc
    by_cases h0 : l = 0
    · subst h0
      refine ⟨_, [], 0, h, ⟨some x, c, 0, rfl, Nat.zero_le _, hm, (fun h => by cases h), Or.inl rfl⟩⟩
    · obtain ⟨b, o, spot⟩ := x
      obtain ⟨m0, hv0, _⟩ := hc 0 (by omega)
      have hspot : spot = none := by simpa [Addr.add] using World.cell?_spot hv0
      subst hspot
      refine ⟨_, os, b, h, ⟨some ⟨b, o, none⟩, c, o, by rw [e], by omega, hm, (fun h => by cases h), Or.inr ⟨rfl, fun i m hi => ?_⟩⟩⟩
      obtain ⟨k1, k2, k3, k4, k5⟩ := hts i m hi
      rw [Go.WideShapes.add_plain] at k1 k2 k3 k4 k5
      exact ⟨k1, by rw [Nat.add_assoc]; exact k2, by rw [Nat.add_assoc]; exact k3, by rw [Nat.add_assoc]; exact k4, by rw [Nat.add_assoc]; exact k5⟩
set_option maxRecDepth 8000 in
theorem of_holds {w : World} {c : Array Value} (h : Shape.Holds Try.prog w 9 32 c.toList) : ∃ (l : List Value) (b : Bk), c = l.toArray ∧ RBk w l b := by
  obtain ⟨hl, hf⟩ := Shape.holds_struct (n := 8) Try.underlying32 h
  have e7 : Try.prog.cellsOf 32 = 7 := by kernel_rfl
  have e1 : Try.prog.cellsOf 3 = 1 := by kernel_rfl
  have es : Try.prog.cellsOf 30 = 1 := by kernel_rfl
  rw [e7] at hl
  obtain ⟨c0, c1, c2, c3, c4, c5, c6, hc⟩ := sevenL hl
  rw [hc] at hf
  obtain ⟨x0, q0, _⟩ := Shape.holds_int (n := 7) Try.underlying3 (hf _ (List.mem_of_getElem? (i := 0) rfl))
  obtain ⟨x1, q1, _⟩ := Shape.holds_int (n := 7) Try.underlying3 (hf _ (List.mem_of_getElem? (i := 1) rfl))
  obtain ⟨v2, os, B, q2, r2⟩ := ops_hold (n := 5) (hf _ (List.mem_of_getElem? (i := 2) rfl))
  obtain ⟨x3, q3, _⟩ := Shape.holds_int (n := 7) Try.underlying3 (hf _ (List.mem_of_getElem? (i := 3) rfl))
  obtain ⟨x4, q4, _⟩ := Shape.holds_int (n := 7) Try.underlying3 (hf _ (List.mem_of_getElem? (i := 4) rfl))
  obtain ⟨x5, q5, _⟩ := Shape.holds_int (n := 7) Try.underlying3 (hf _ (List.mem_of_getElem? (i := 5) rfl))
  obtain ⟨x6, q6, _⟩ := Shape.holds_int (n := 7) Try.underlying3 (hf _ (List.mem_of_getElem? (i := 6) rfl))
  simp [e1, es] at q0 q1 q2 q3 q4 q5 q6
  subst q0 q1 q2 q3 q4 q5 q6
  obtain ⟨a, cap, off, rfl, hh⟩ := r2
  exact ⟨_, ⟨x0, x1, os, x3, x4, x5, x6⟩, Array.ext' hc, ⟨a, cap, B, rfl, ⟨a, cap, off, rfl, hh⟩⟩⟩
end Go.Proofs.Ythlpndligadnjaa.Ir
