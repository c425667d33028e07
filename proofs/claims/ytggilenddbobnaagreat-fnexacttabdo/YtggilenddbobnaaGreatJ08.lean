/-
  A region that draws its order, in two phases, at the fence that asks nothing (so a round of a range over a function may stand in it): what reads yields in every world that meets S as long as nothing from number n on has come up; each operation from n on waits, through others, for what is taken first.
  The walk of the specification's l4Merge.
-/
import Derived.Test.YtggilenddbobnaaGreatAl
import Derived.OrdersIn
import Derived.OrdersHeld
import Derived.Deep.RegionHeld
import Derived.Test.YtggilenddbobnaaGreatJ07
namespace Go.Proofs.YtggilenddbobnaaGreat.PhaseIn
open Go
section
variable {P : Program} {ops : Array Oper} {Q : Exit → Act → World → Prop} {md : Region.Mode} {S : World → Prop} {n : Nat}
theorem yields_op {i : Nat} {o : Oper} {v : Value} {a : Act} (hi : ops[i]? = some o) (hy : YieldsIf P ops S o v a) {K : Act → World → Prop} {w : World} (hS : S w) (h : K (a.put o.dst v) w) : wpOpIn Fence.wide 0 P ops Q i K a w := by
 unfold wpOpIn
 simp only [hi]
 rcases hy with ⟨hw, hv⟩ | ⟨hw, rfl⟩
 · rw [if_pos hw]
   unfold Oper.wpIn
   refine ⟨fun _ _ => trivial, ?_⟩
   rw [show Fence.wide.round = none from rfl, Oper.semAt_none, hv w hS]
   exact h
 · rw [if_neg (by rw [hw]; decide)]
   exact ⟨fun _ _ => trivial, h⟩
/-- An operation apart from oi goes the same way with oi's value in its place. -/
theorem put_op {j : Nat} {oi oj : Oper} {v : Value} (hj : ops[j]? = some oj) (hap : oi.apart ops oj = true) (hsi : ∀ cs b, oi.op ≠ .select cs b) (hsj : ∀ cs b, oj.op ≠ .select cs b)
 (hQ : ∀ c a w, Q (.panic c) (a.put oi.dst v) w → Q (.panic c) a w) {K : Act → World → Prop} {a : Act} {w : World} (hy : YieldsIf P ops S oi v a) (h : wpOpIn Fence.wide 0 P ops Q j K (a.put oi.dst v) w) :
 wpOpIn Fence.wide 0 P ops Q j (fun a' w' => YieldsIf P ops S oi v a' ∧ K (a'.put oi.dst v) w') a w := by
 obtain ⟨d1, d2, d3⟩ := Oper.apart_spec hap
 have stays : ∀ b : Act, YieldsIf P ops S oi v b → ∀ u, YieldsIf P ops S oi v (b.put oj.dst u) := fun b hb u => hb.of_same (execOp_put oi hsi b oj.dst u d3) (wanted_put oi b oj.dst u d3)
 have next : ∀ u w', K ((a.put oi.dst v).put oj.dst u) w' → YieldsIf P ops S oi v (a.put oj.dst u) ∧ K ((a.put oj.dst u).put oi.dst v) w' := fun u w' hk => ⟨stays a hy u, by rw [← Act.put_comm a v u d2]; exact hk⟩
 unfold wpOpIn at h ⊢
 simp only [hj] at h ⊢
 rw [wanted_put oj a oi.dst v d1] at h
 by_cases hw : Region.wanted oj (yielded ops a.tmps) = true
 · rw [if_pos hw] at h ⊢
   unfold Oper.wpIn at h ⊢
   refine ⟨fun _ _ => trivial, ?_⟩
   have h2 := h.2
   rw [show Fence.wide.round = none from rfl, Oper.semAt_none, execOp_put oj hsj a oi.dst v d1] at h2
   rw [show Fence.wide.round = none from rfl, Oper.semAt_none]
   generalize (execOp a.eval oj).run P w = r at h2 ⊢
   match r, h2 with
   | .ok (.value u) w', h2 => exact next u w' h2
   | .ok .skip w', h2 => exact next undef w' h2
   | .ok (.defer d) w', h2 =>
    have hd : YieldsIf P ops S oi v { a with defers := d :: a.defers } := hy.of_same rfl rfl
    refine ⟨stays _ hd _, ?_⟩
    rw [← Act.put_comm _ v undef d2, ← Act.put_defers]
    exact h2
   | .ok (.enter f args) w', h2 =>
    refine ⟨h2.1, h2.2.mono fun e w'' he => ?_⟩
    match e, he with
    | .returned u, he => exact next u w'' he
    | .panicked c, he => exact hQ _ _ _ he
    | .outgrown, he => exact he
   | .ok (.row row args) w', h2 => exact ⟨h2.1, h2.2.mono fun u w'' he => next u w'' he⟩
   | .ok (.round l f tmps assign body) w', h2 =>
    refine ⟨h2.1, h2.2.mono fun e w'' he => ?_⟩
    match e, he with
    | .returned u, he => exact next u w'' he
    | .panicked c, he => exact hQ _ _ _ he
    | .outgrown, he => exact he
   | .halt (.panic u) w', h2 => exact hQ _ _ _ h2
 · rw [if_neg hw] at h ⊢
   exact ⟨fun _ _ => trivial, next undef w h.2⟩
def wpAnyW (P : Program) (md : Region.Mode) (ops : Array Oper) (Q : Exit → Act → World → Prop) (S : World → Prop) (n : Nat) : Nat → Array Bool → Act → World → Prop
 | 0, listed, a, w => Region.ready md ops listed = [] ∧ Q .normal a w
 | fuel + 1, listed, a, w =>
  (Region.ready md ops listed = [] → Q .normal a w) ∧
  ∀ i ∈ Region.ready md ops listed, wpOpIn Fence.wide 0 P ops Q i (fun a' w' => (i < n → S w') ∧ wpAnyW P md ops Q S n fuel (listed.setIfInBounds i true) a' w') a w
theorem any_of : ∀ (fuel : Nat) (listed : Array Bool) (a : Act) (w : World), wpAnyW P md ops Q S n fuel listed a w → wpAnyIn Fence.wide 0 P md ops Q fuel listed a w
 | 0, _, _, _, h => h
 | fuel + 1, _, _, _, h => ⟨h.1, fun i hi => wpOpIn_mono (fun a' w' h' => any_of fuel _ a' w' h'.2) (h.2 i hi)⟩
/-- Those of a set, one of which an operation waits for. -/
def waitsOn (md : Region.Mode) (B : List Nat) (o : Oper) : Bool := o.after.any fun e => Region.binds md e && B.contains e.on
/-- Number i, and those that wait for it through others: every operation from n on waits for one of them. -/
def blocks (md : Region.Mode) (ops : Array Oper) (n i : Nat) (B : List Nat) : Bool :=
 (List.range ops.size).all fun k => match ops[k]? with
  | none => true
  | some o => (k == i || !B.contains k || waitsOn md B o) && (decide (k < n) || waitsOn md B o)
theorem unlisted {i : Nat} {listed : Array Bool} (h : i ∈ Region.ready md ops listed) : ¬ listed.getD i false = true := fun h1 => by
 have h0 := (mem_ready.1 h).1
 rcases Nat.lt_or_ge i listed.size with h' | h'
 · simp [h'] at h0 h1; rw [h0] at h1; cases h1
 · simp [Array.getElem?_eq_none h'] at h1
theorem waits_no {B : List Nat} {o : Oper} {listed : Array Bool} (h : waitsOn md B o = true) (hall : ∀ e ∈ o.after, Region.binds md e = true → listed.getD e.on false = true) (hB : ∀ b ∈ B, listed.getD b false = false) : False := by
 unfold waitsOn at h
 rw [Array.any_eq_true] at h
 obtain ⟨j, hj, h3⟩ := h
 simp only [Bool.and_eq_true, List.contains_iff_mem] at h3
 have h1 := hall _ (Array.getElem_mem hj) h3.1
 rw [hB _ h3.2] at h1
 cases h1
theorem first {i : Nat} {oi : Oper} {v : Value} {B : List Nat} (hi : ops[i]? = some oi) (hw : blocks md ops n i B = true) (hsel : ∀ (j : Nat) (o : Oper) cs b, ops[j]? = some o → o.op ≠ .select cs b)
 (hQ : ∀ c a w, Q (.panic c) (a.put oi.dst v) w → Q (.panic c) a w) :
 ∀ (fuel : Nat) (listed : Array Bool) (a : Act) (w : World),
  (∀ j oj, ops[j]? = some oj → j ≠ i → listed.getD j true = false → (∀ e ∈ oj.after, Region.binds md e = true → e.on ≠ i) → oi.apart ops oj = true) →
  (∀ b ∈ B, listed.getD b false = false) → i ∈ Region.ready md ops listed → YieldsIf P ops S oi v a → S w →
  wpAnyW P md ops Q S n fuel (listed.setIfInBounds i true) (a.put oi.dst v) w → wpAnyW P md ops Q S n (fuel + 1) listed a w := by
 intro fuel
 induction fuel with
 | zero =>
  intro listed a w _ _ hr hy hS H
  refine ⟨fun h => (by rw [h] at hr; cases hr), fun j hj => ?_⟩
  by_cases hji : j = i
  · subst hji; exact yields_op hi hy hS ⟨fun _ => hS, H⟩
  · have := ready_mono hj hji
    rw [H.1] at this
    cases this
 | succ fuel ih =>
  intro listed a w hfree hB hr hy hS H
  refine ⟨fun h => (by rw [h] at hr; cases hr), fun j hj => ?_⟩
  by_cases hji : j = i
  · subst hji; exact yields_op hi hy hS ⟨fun _ => hS, H⟩
  · have h1 := H.2 j (ready_mono hj hji)
    obtain ⟨hjun, oj, hoj, hall⟩ := mem_ready.1 hj
    have hnot : ∀ e ∈ oj.after, Region.binds md e = true → e.on ≠ i := fun e he hb heq => by
     have h1 := hall e he hb
     rw [heq] at h1
     exact unlisted hr h1
    have hjs : j < ops.size := (Array.getElem?_eq_some_iff.1 hoj).1
    have hbl := List.all_eq_true.1 hw j (List.mem_range.2 hjs)
    simp only [hoj, Bool.and_eq_true, Bool.or_eq_true, beq_iff_eq, Bool.not_eq_true', decide_eq_true_eq] at hbl
    have hno : ¬ waitsOn md B oj = true := fun h => waits_no h hall hB
    have hjn : j < n := hbl.2.resolve_right hno
    have hjB : j ∉ B := fun h => by
     rcases hbl.1 with (h2 | h2) | h2
     · exact hji h2
     · rw [List.contains_iff_mem.2 h] at h2; cases h2
     · exact hno h2
    have h2 := put_op hoj (hfree j oj hoj hji hjun hnot) (fun cs b => hsel i oi cs b hi) (fun cs b => hsel j oj cs b hoj) hQ hy h1
    have hfree' : ∀ k ok, ops[k]? = some ok → k ≠ i → (listed.setIfInBounds j true).getD k true = false →
     (∀ e ∈ ok.after, Region.binds md e = true → e.on ≠ i) → oi.apart ops ok = true := fun k ok hk hki hun hno => by
     refine hfree k ok hk hki ?_ hno
     by_cases hjk : j = k
     · subst hjk; exact hjun
     · rw [getD_set_ne true hjk] at hun; exact hun
    have hB' : ∀ b ∈ B, (listed.setIfInBounds j true).getD b false = false := fun b hb => by
     have hne : j ≠ b := fun e => hjB (by rw [e]; exact hb)
     rw [getD_set_ne false hne]
     exact hB b hb
    refine wpOpIn_mono (fun a' w' h3 => ⟨h3.2.1, ih (listed.setIfInBounds j true) a' w' hfree' hB' (ready_mono hr (Ne.symm hji)) h3.1 (h3.2.1 hjn) ?_⟩) h2
    rw [Array.setIfInBounds_comm _ _ hji]
    exact h3.2.2
/-- Take number i first; B: it, and those that wait for it. -/
theorem take {i : Nat} {oi : Oper} {v : Value} {fuel : Nat} {listed : Array Bool} {a : Act} {w : World} (B : List Nat) (hi : ops[i]? = some oi) (hw : blocks md ops n i B = true) (hB : (B.all fun b => !listed.getD b false) = true)
 (hs : Region.noSelect ops = true) (hf : Region.free md ops listed i = true) (hr : (Region.ready md ops listed).contains i = true)
 (hQ : ∀ c a w, Q (.panic c) (a.put oi.dst v) w → Q (.panic c) a w) (hy : YieldsIf P ops S oi v a) (hS : S w)
 (h : wpAnyW P md ops Q S n fuel (listed.setIfInBounds i true) (a.put oi.dst v) w) : wpAnyW P md ops Q S n (fuel + 1) listed a w :=
 first hi hw (Region.noSelect_spec hs) hQ fuel listed a w (Region.free_spec hi hf) (fun b hb => by simpa using List.all_eq_true.1 hB b hb) (by simpa using hr) hy hS h
/-- The same, the place of its value written out. -/
theorem takeD {i : Nat} {oi : Oper} {v : Value} {fuel : Nat} {listed : Array Bool} {a : Act} {w : World} (B : List Nat) (d : Nat) (hi : ops[i]? = some oi) (hd : oi.dst = some d) (hw : blocks md ops n i B = true) (hB : (B.all fun b => !listed.getD b false) = true)
 (hs : Region.noSelect ops = true) (hf : Region.free md ops listed i = true) (hr : (Region.ready md ops listed).contains i = true)
 (hQ : ∀ c a w, Q (.panic c) (a.put (some d) v) w → Q (.panic c) a w) (hy : YieldsIf P ops S oi v a) (hS : S w)
 (h : wpAnyW P md ops Q S n fuel (listed.setIfInBounds i true) (a.put (some d) v) w) : wpAnyW P md ops Q S n (fuel + 1) listed a w :=
 take B hi hw hB hs hf hr (fun c a w h => hQ c a w (by rw [← hd]; exact h)) hy hS (by rw [hd]; exact h)
/-- The same, its tests as one. -/
theorem takeE {i : Nat} {oi : Oper} {v : Value} {fuel : Nat} {listed : Array Bool} {a : Act} {w : World} (B : List Nat) (d : Nat) (hi : ops[i]? = some oi) (hd : oi.dst = some d) (hk : (blocks md ops n i B && (B.all fun b => !listed.getD b false) && Region.noSelect ops && Region.free md ops listed i && (Region.ready md ops listed).contains i) = true)
  (hQ : ∀ c a w, Q (.panic c) (a.put (some d) v) w → Q (.panic c) a w) (hy : YieldsIf P ops S oi v a) (hS : S w)
  (h : wpAnyW P md ops Q S n fuel (listed.setIfInBounds i true) (a.put (some d) v) w) : wpAnyW P md ops Q S n (fuel + 1) listed a w := by
 simp only [Bool.and_eq_true] at hk
 exact takeD B d hi hd hk.1.1.1.1 hk.1.1.1.2 hk.1.1.2 hk.1.2 hk.2 hQ hy hS h
/-- Only number i may come up. -/
theorem one {i : Nat} {o : Oper} {fuel : Nat} {listed : Array Bool} {a : Act} {w : World} (hr : Region.ready md ops listed = [i]) (ho : ops[i]? = some o) (hw : Region.wanted o (yielded ops a.tmps) = true)
 (h : ∀ K : Act → World → Prop, (∀ a' w', (i < n → S w') → wpAnyW P md ops Q S n fuel (listed.setIfInBounds i true) a' w' → K a' w') → Oper.wpIn Fence.wide 0 P o a w K Q) : wpAnyW P md ops Q S n (fuel + 1) listed a w := by
 refine ⟨fun h0 => (by rw [hr] at h0; cases h0), fun j hj => ?_⟩
 rw [hr] at hj
 obtain rfl : j = i := by simpa using hj
 unfold wpOpIn
 simp only [ho]
 rw [if_pos hw]
 exact h _ (fun a' w' h1 h2 => ⟨h1, h2⟩)
theorem done {listed : Array Bool} {a : Act} {w : World} (hr : Region.ready md ops listed = []) (h : Q .normal a w) : ∀ fuel, wpAnyW P md ops Q S n fuel listed a w
 | 0 => ⟨hr, h⟩
 | _ + 1 => ⟨fun _ => h, by rw [hr]; simp⟩
/-- Behind the first phase, one by one: number i yields in whatever world. -/
theorem late {i : Nat} {o : Oper} {v : Value} {fuel : Nat} {listed : Array Bool} {a : Act} {w : World} (hr : Region.ready md ops listed = [i]) (ho : ops[i]? = some o) (d : Nat) (hd : o.dst = some d) (hn : n ≤ i) (hy : YieldsIf P ops (fun _ => True) o v a)
 (h : wpAnyW P md ops Q S n fuel (listed.setIfInBounds i true) (a.put (some d) v) w) : wpAnyW P md ops Q S n (fuel + 1) listed a w := by
 refine ⟨fun h0 => (by rw [hr] at h0; cases h0), fun j hj => ?_⟩
 rw [hr] at hj
 obtain rfl : j = i := by simpa using hj
 exact yields_op ho hy trivial ⟨fun h => absurd h (by omega), by rw [hd]; exact h⟩
theorem region {id : Nat} {a : Act} {w : World} (n : Nat) (hm : P.follows .mixedOrders = true) (h : wpAnyW P .any ops Q S n ops.size (Array.replicate ops.size false) a w.drew) : (Code.region id ops true).wpIn Fence.wide 0 P Q a w :=
 wpIn_region_any hm (any_of _ _ _ _ h)
end
end Go.Proofs.YtggilenddbobnaaGreat.PhaseIn
namespace Go.Proofs.YtggilenddbobnaaGreat.Pol
set_option linter.unusedVariables false
open Go.ChangeShapes Go.WideShapes Go.ChangeAt Go.RowKit IntS
/-- The list so far. -/
structure MergeP (w : World) (L : List Int) (g cap : Nat) (u : World) : Prop where
 own : IntS.Own u w.heap.size (.slice (some ⟨g, 0, none⟩) L.length cap) L
 lt : g < u.heap.size
 bw : Below w.heap.size w u
theorem MergeP.below {w u u' : World} {L : List Int} {g cap : Nat} (h : MergeP w L g cap u) (hb : Below u.heap.size u u') : MergeP w L g cap u' := by
 have := h.lt
 exact ⟨h.own.turn (Turn.of_below hb) (B := u.heap.size) (by omega) h.lt, Nat.lt_of_lt_of_le h.lt hb.size, h.bw.trans (hb.mono h.bw.size)⟩
theorem MergeP.base {w u : World} {L : List Int} {g cap : Nat} (h : MergeP w L g cap u) : w.heap.size ≤ g := by
 obtain ⟨g', cap', e, k1, _⟩ := h.own.form (fun e => by cases e)
 cases e
 exact k1
theorem MergeP.next {w u u' : World} {L L' : List Int} {g cap g' cap' : Nat} (h : MergeP w L g cap u) (ho : IntS.Own u' w.heap.size (.slice (some ⟨g', 0, none⟩) L'.length cap') L') (hl : g' < u'.heap.size) (ht : Turn g u u') : MergeP w L' g' cap' u' :=
 ⟨ho, hl, h.bw.trans (ht.below h.base h.bw.size)⟩
theorem merge_new (w : World) : MergeP w [] w.heap.size 0 (w.alloc (.cells #[] 3)) :=
 ⟨own_empty (heap_new w 3), by simp, (Below.refl _ _).alloc (Nat.le_refl _) _⟩
theorem row_drop {w : World} {B n cap i : Nat} {ad : Addr} {xs : List Int} (h : Row w B (.slice (some ad) n cap) xs) (hi : i ≤ n) : Row w B (.slice (some (ad.add i)) (n - i) (cap - i)) (xs.drop i) := by
 obtain ⟨a, c, off, e, h2, h3, hz, h4⟩ := h
 cases e
 refine ⟨some (ad.add i), cap - i, off + i, by rw [List.length_drop], by rw [List.length_drop]; omega, by omega, (fun h => by cases h), ?_⟩
 rcases h4 with h4 | ⟨h4, h5⟩
 · subst h4
   exact Or.inl (by simp)
 · cases h4
   refine Or.inr ⟨by rw [Go.WideShapes.add_plain], fun j x hx => ?_⟩
   rw [List.getElem?_drop] at hx
   rw [Nat.add_assoc]
   exact h5 _ _ hx
theorem row_void {w : World} {B : Nat} {ad : Addr} {xs : List Int} {i : Nat} (h : xs.length ≤ i) : Row w B (.slice (some ad) 0 0) (xs.drop i) := by
 rw [List.drop_eq_nil_of_le h]
 exact ⟨some ad, 0, 0, rfl, Nat.le_refl _, Nat.zero_le _, (fun h => by cases h), Or.inl rfl⟩
theorem row_nil {w : World} {B : Nat} {xs : List Int} {i : Nat} (h : xs.length ≤ i) : Row w B (.slice none 0 0) (xs.drop i) := by
 rw [List.drop_eq_nil_of_le h]
 exact ⟨none, 0, 0, rfl, Nat.le_refl _, Nat.zero_le _, (fun _ => rfl), Or.inl rfl⟩
set_option maxRecDepth 8000 in
set_option maxHeartbeats 16000000 in
theorem l4Merge (xs ys : List Int) (B B' : Nat) (v v' : Value) (w : World) (h : Row w B v xs) (h' : Row w B' v' ys) (hl : xs.length ≤ 1000) (hl' : ys.length ≤ 1000) :
 Calls Tryz.prog 109 #[v, v'] w fun e w' => ∃ B2 a l c, e = .returned (.slice a l c) ∧ Row w' B2 (.slice a l c) (mergeL xs ys) ∧ Below w.heap.size w w' := by
 have HX := hide h
 obtain ⟨a, cap, off, rfl, h2, h3, hz, h4⟩ := h
 obtain ⟨a', cap', off', rfl, h2', h3', hz', h4'⟩ := h'
 unfold maxLen at h3 h3'
 obtain ⟨n, en⟩ : ∃ n, xs.length = n := ⟨_, rfl⟩
 obtain ⟨m, em⟩ : ∃ m, ys.length = m := ⟨_, rfl⟩
 have EN := hide en
 have EM := hide em
 have H4 := hide h4
 have H4' := hide h4'
 have P0 := hide (merge_new w)
 rw [en] at h2 hl HX
 rw [em] at h2' hl'
 rw [en, em]
 clear en em h4 h4'
 go_enter Tryz.func109, Tryz.ntmps109
 go_wp2
 generalize w.alloc (.cells #[] 3) = V at P0 ⊢
 go_loopw [5, 6, 7] (fun q i k wr => ∃ (ni nk g gc : Nat) (L : List Int), ni ≤ n ∧ nk ≤ m ∧ q = .slice (some ⟨g, 0, none⟩) L.length gc ∧ i = .int .i64 ni ∧ k = .int .i64 nk ∧ Hid (MergeP w L g gc wr) ∧ Hid (L ++ mergeL (xs.drop ni) (ys.drop nk) = mergeL xs ys) ∧ Hid (L.length ≤ ni + nk)) (fun _ _ k _ => m - (intOf k).toNat)
 case atStart => exact ⟨0, 0, w.heap.size, 0, [], by omega, by omega, rfl, rfl, rfl, P0, rfl, Nat.le_refl _⟩
 case round =>
  obtain ⟨ni, nk, g, gc, L, hi, hk, rfl, rfl, rfl, PP, HL, HN⟩ := hrel
  clear P0
  by_cases hlt : nk < m
  case neg =>
   have HR := hide (show L ++ xs.drop ni = mergeL xs ys by have := HL.out; rw [merge_end (by rw [EM.out]; omega)] at this; exact this)
   have ln : ((ni : Nat) : Int) ≤ (n : Nat) := by omega
   have lc : ((ni : Nat) : Int) ≤ (cap : Nat) := by omega
   have LX : Hid ((xs.drop ni).length ≤ 1000000) := show _ ≤ _ by rw [List.length_drop, EN.out]; omega
   have LL : Hid (L.length ≤ 1000000) := show _ ≤ _ by have := HN.out; omega
   have HXW := hide (HX.out.below PP.out.bw)
   cases a with
   | none =>
    have hc0 := hz rfl
    subst hc0
    obtain rfl : n = 0 := by omega
    obtain rfl : ni = 0 := by omega
    have RW := hide (show Row wr B _ (xs.drop 0) from row_nil (by rw [EN.out]; exact Nat.le_refl _))
    go_wp2_with (at_builtin; refine wpList_join rfl _ _ rfl w.heap.size g gc L rfl PP.out.own PP.out.bw.size _ B (xs.drop 0) rfl RW.out LX.out LL.out ?_; intro g2 c2 u2 hR hT)
    have BZ := PP.out.bw.trans (hT.out.below PP.out.base PP.out.bw.size)
    exact bodyPost_ret (v := .slice (some ⟨g2, 0, none⟩) (L ++ xs.drop 0).length c2) (by simp [results, Tryz.results109, go_sem]) rfl ⟨g2, _, _, _, rfl, by rw [← HR.out]; exact hR.out, BZ⟩
   | some ad =>
    obtain ⟨ab, ao, af⟩ := ad
    by_cases e : ni = cap
    · subst e
      have RW := hide (show Row wr B _ (xs.drop ni) from row_void (ad := ⟨ab, ao, af⟩) (by rw [EN.out]; omega))
      go_wp2_with (at_builtin; refine wpList_join rfl _ _ rfl w.heap.size g gc L rfl PP.out.own PP.out.bw.size _ B (xs.drop ni) rfl RW.out LX.out LL.out ?_; intro g2 c2 u2 hR hT)
      have BZ := PP.out.bw.trans (hT.out.below PP.out.base PP.out.bw.size)
      exact bodyPost_ret (v := .slice (some ⟨g2, 0, none⟩) (L ++ xs.drop ni).length c2) (by simp [results, Tryz.results109, go_sem]) rfl ⟨g2, _, _, _, rfl, by rw [← HR.out]; exact hR.out, BZ⟩
    · have lc2 : ((ni : Nat) : Int) < (cap : Nat) := by omega
      have RW := hide (show Row wr B _ (xs.drop ni) from row_drop (ad := ⟨ab, ao, af⟩) HXW.out hi)
      go_wp2_with (at_builtin; refine wpList_join rfl _ _ rfl w.heap.size g gc L rfl PP.out.own PP.out.bw.size _ B (xs.drop ni) rfl RW.out LX.out LL.out ?_; intro g2 c2 u2 hR hT)
      have BZ := PP.out.bw.trans (hT.out.below PP.out.base PP.out.bw.size)
      exact bodyPost_ret (v := .slice (some ⟨g2, 0, none⟩) (L ++ xs.drop ni).length c2) (by simp [results, Tryz.results109, go_sem]) rfl ⟨g2, _, _, _, rfl, by rw [← HR.out]; exact hR.out, BZ⟩
  obtain ⟨y, ey⟩ : ∃ y, ys[nk]? = some y := ⟨_, List.getElem?_eq_getElem (by rw [EM.out]; exact hlt)⟩
  obtain ⟨rfl, hc'⟩ := H4'.out.resolve_left (fun e => by rw [e] at ey; simp at ey)
  have CY := hide (hc' nk y ey)
  have EY := hide ey
  clear ey hc'
  have lk : ((nk : Nat) : Int) < (m : Nat) := by omega
  go_wp2
  go_loopw [5, 6] (fun q i wr => ∃ (ni g gc : Nat) (L : List Int), ni ≤ n ∧ q = .slice (some ⟨g, 0, none⟩) L.length gc ∧ i = .int .i64 ni ∧ Hid (MergeP w L g gc wr) ∧ Hid (L ++ mergeL (xs.drop ni) (ys.drop nk) = mergeL xs ys) ∧ Hid (L.length ≤ ni + nk)) (fun _ i _ => n - (intOf i).toNat)
  case atStart => exact ⟨ni, g, gc, L, hi, rfl, rfl, PP, HL, HN⟩
  case round =>
   clear PP HL HN hi
   obtain ⟨ni, g, gc, L, hi, rfl, rfl, PP, HL, HN⟩ := hrel
   have DR : Below wr.heap.size wr wr.drew := (Below.refl _ _).drew
   have PD := hide (PP.out.below DR)
   have cy := cell_below PP.out.bw CY.out
   have A3 : Hid (L.length ≤ 1000000000000) := show _ ≤ _ by have := HN.out; omega
   clear DR
   by_cases hin : ni < n
   · have li : ((ni : Nat) : Int) < (n : Nat) := by omega
     obtain ⟨x, ex⟩ : ∃ x, xs[ni]? = some x := ⟨_, List.getElem?_eq_getElem (by rw [EN.out]; exact hin)⟩
     obtain ⟨rfl, hc⟩ := H4.out.resolve_left (fun e => by rw [e] at ex; simp at ex)
     have CX := hide (hc ni x ex)
     have EX := hide ex
     clear ex hc
     have cx := cell_below PP.out.bw CX.out
     by_cases hxy : x ≤ y
     · have HL2 := hide (show (L ++ [x]) ++ mergeL (xs.drop (ni + 1)) (ys.drop nk) = mergeL xs ys by
        have := HL.out
        rw [merge_take EX.out EY.out hxy] at this
        rw [List.append_assoc]
        exact this)
       have NL : Hid ((L ++ [x]).length ≤ ni + 1 + nk) := show _ ≤ _ by rw [List.length_append]; have := HN.out; simp; omega
       go_wp2_with fail
       refine (wpIn_wide (n := 0)).1 ?_
       have hHeld : wr.drew.cell? ⟨B, off + ni, none⟩ = some (.int .i64 x) ∧ wr.drew.cell? ⟨B', off' + nk, none⟩ = some (.int .i64 y) := ⟨cx, cy⟩
       refine PhaseIn.region (S := fun w' => w'.cell? ⟨B, off + ni, none⟩ = some (.int .i64 x) ∧ w'.cell? ⟨B', off' + nk, none⟩ = some (.int .i64 y)) 15 (by kernel_rfl) ?_
       refine PhaseIn.takeE (i := 0) (v := ?_) [0, 3, 4, 5, 6, 7, 8, 9, 10, 11, 12, 13, 14] 15 rfl (by rfl) (by kernel_rfl) (fun _ _ _ h => h) (Or.inl ⟨by kernel_rfl, ?_⟩) hHeld ?_
       rotate_left
       · intro w' hSw
         (try dsimp only at hSw)
         go_simp
         first | done | with_reducible rfl
       try simp only [Act.put, sA, List.set]
       refine PhaseIn.takeE (i := 1) (v := ?_) [1, 2, 3, 4, 5, 6, 7, 8, 9, 10, 11, 12, 13, 14] 16 rfl (by rfl) (by kernel_rfl) (fun _ _ _ h => h) (Or.inl ⟨by kernel_rfl, ?_⟩) hHeld ?_
       rotate_left
       · intro w' hSw
         (try dsimp only at hSw)
         go_simp
         first | done | with_reducible rfl
       try simp only [Act.put, sA, List.set]
       refine PhaseIn.takeE (i := 2) (v := ?_) [2, 3, 4, 5, 6, 7, 8, 9, 10, 11, 12, 13, 14] 17 rfl (by rfl) (by kernel_rfl) (fun _ _ _ h => h) (Or.inl ⟨by kernel_rfl, ?_⟩) hHeld ?_
       rotate_left
       · intro w' hSw
         (try dsimp only at hSw)
         go_simp
         first | done | with_reducible rfl
       try simp only [Act.put, sA, List.set]
       refine PhaseIn.takeE (i := 3) (v := ?_) [3, 4, 5, 6, 7, 8, 9, 10, 11, 12, 13, 14] 18 rfl (by rfl) (by kernel_rfl) (fun _ _ _ h => h) (Or.inl ⟨by kernel_rfl, ?_⟩) hHeld ?_
       rotate_left
       · intro w' hSw
         (try dsimp only at hSw)
         go_simp
         first | done | with_reducible rfl
       try simp only [Act.put, sA, List.set]
       refine PhaseIn.takeE (i := 4) (v := ?_) [4, 5, 6, 7, 8, 9, 10, 11, 12, 13, 14] 19 rfl (by rfl) (by kernel_rfl) (fun _ _ _ h => h) (Or.inl ⟨by kernel_rfl, ?_⟩) hHeld ?_
       rotate_left
       · intro w' hSw
         (try dsimp only at hSw)
         go_simp
         first | done | with_reducible rfl
       try simp only [Act.put, sA, List.set]
       refine PhaseIn.takeE (i := 5) (v := ?_) [5, 7, 8, 13, 14] 20 rfl (by rfl) (by kernel_rfl) (fun _ _ _ h => h) (Or.inl ⟨by kernel_rfl, ?_⟩) hHeld ?_
       rotate_left
       · intro w' hSw
         (try dsimp only at hSw)
         go_simp
         first | done | with_reducible rfl
       try simp only [Act.put, sA, List.set]
       refine PhaseIn.takeE (i := 6) (v := ?_) [6, 7, 8, 13, 14] 21 rfl (by rfl) (by kernel_rfl) (fun _ _ _ h => h) (Or.inl ⟨by kernel_rfl, ?_⟩) hHeld ?_
       rotate_left
       · intro w' hSw
         (try dsimp only at hSw)
         go_simp
         first | done | with_reducible rfl
       try simp only [Act.put, sA, List.set]
       refine PhaseIn.takeE (i := 7) (v := ?_) [7, 8, 13, 14] 22 rfl (by rfl) (by kernel_rfl) (fun _ _ _ h => h) (Or.inl ⟨by kernel_rfl, ?_⟩) hHeld ?_
       rotate_left
       · intro w' hSw
         (try dsimp only at hSw)
         go_simp
         first | done | with_reducible rfl
       try simp only [Act.put, sA, List.set]
       refine PhaseIn.takeE (i := 8) (v := ?_) [8, 13, 14] 23 rfl (by rfl) (by kernel_rfl) (fun _ _ _ h => h) (Or.inl ⟨by kernel_rfl, ?_⟩) hHeld ?_
       rotate_left
       · intro w' hSw
         (try dsimp only at hSw)
         go_simp
         first | done | with_reducible rfl
       try simp only [Act.put, sA, List.set]
       refine PhaseIn.takeE (i := 9) (v := ?_) [9, 11, 12, 13, 14] 24 rfl (by rfl) (by kernel_rfl) (fun _ _ _ h => h) (Or.inl ⟨by kernel_rfl, ?_⟩) hHeld ?_
       rotate_left
       · intro w' hSw
         (try dsimp only at hSw)
         go_simp
         first | done | with_reducible rfl
       try simp only [Act.put, sA, List.set]
       refine PhaseIn.takeE (i := 10) (v := ?_) [10, 11, 12, 13, 14] 25 rfl (by rfl) (by kernel_rfl) (fun _ _ _ h => h) (Or.inl ⟨by kernel_rfl, ?_⟩) hHeld ?_
       rotate_left
       · intro w' hSw
         (try dsimp only at hSw)
         go_simp
         first | done | with_reducible rfl
       try simp only [Act.put, sA, List.set]
       refine PhaseIn.takeE (i := 11) (v := ?_) [11, 12, 13, 14] 26 rfl (by rfl) (by kernel_rfl) (fun _ _ _ h => h) (Or.inl ⟨by kernel_rfl, ?_⟩) hHeld ?_
       rotate_left
       · intro w' hSw
         (try dsimp only at hSw)
         go_simp
         first | done | with_reducible rfl
       try simp only [Act.put, sA, List.set]
       refine PhaseIn.takeE (i := 12) (v := ?_) [12, 13, 14] 27 rfl (by rfl) (by kernel_rfl) (fun _ _ _ h => h) (Or.inl ⟨by kernel_rfl, ?_⟩) hHeld ?_
       rotate_left
       · intro w' hSw
         (try dsimp only at hSw)
         go_simp
         first | done | with_reducible rfl
       try simp only [Act.put, sA, List.set]
       refine PhaseIn.takeE (i := 13) (v := ?_) [13, 14] 28 rfl (by rfl) (by kernel_rfl) (fun _ _ _ h => h) (Or.inl ⟨by kernel_rfl, ?_⟩) hHeld ?_
       rotate_left
       · intro w' hSw
         (try dsimp only at hSw)
         go_simp
         first | done | with_reducible rfl
       try simp only [Act.put, sA, List.set]
       refine PhaseIn.takeE (i := 14) (v := ?_) [14] 29 rfl (by rfl) (by kernel_rfl) (fun _ _ _ h => h) (Or.inl ⟨by kernel_rfl, ?_⟩) hHeld ?_
       rotate_left
       · intro w' hSw
         (try dsimp only at hSw)
         go_simp
         first | done | with_reducible rfl
       try simp only [Act.put, sA, List.set]
       refine PhaseIn.done (by kernel_rfl) ?_ _
       clear hHeld
       clear cx cy
       have cx := cell_below PD.out.bw CX.out
       generalize wr.drew = U at PD cx ⊢
       have bX : Below U.heap.size U (U.alloc (.cells #[.int .i64 x] 3)) := (Below.refl _ _).alloc (Nat.le_refl _) _
       have SA := hide (PD.out.below bX)
       have A1 : Hid ((U.alloc (.cells #[.int .i64 x] 3)).cell? ((⟨U.heap.size, 0, none⟩ : Addr).add 0) = some (.int .i64 x)) := show _ = _ by
        rw [Go.WideShapes.add_plain, World.cell?_alloc_new]
        rfl
       clear bX
       go_wp2_with (at_builtin; refine wpList_push rfl _ _ rfl w.heap.size g gc L rfl SA.out.own SA.out.bw.size ⟨U.heap.size, 0, none⟩ x rfl A1.out A3.out ?_; intro g2 c2 u2 h1 h2 h3 h4; have NX := hide (SA.out.next h1 h3 h4); clear h1 h2 h3 h4)
       exact ⟨⟨ni + 1, g2, c2, L ++ [x], by omega, by rw [List.length_append]; rfl, by go_num, NX, HL2, NL⟩, by simp [intOf]; omega⟩
     · have hyx : y < x := by omega
       have HL2 := hide (show (L ++ [y]) ++ mergeL (xs.drop ni) (ys.drop (nk + 1)) = mergeL xs ys by
        have := HL.out
        rw [merge_put EX.out EY.out hxy] at this
        rw [List.append_assoc]
        exact this)
       have NL : Hid ((L ++ [y]).length ≤ ni + (nk + 1)) := show _ ≤ _ by rw [List.length_append]; have := HN.out; simp; omega
       go_wp2_with fail
       refine (wpIn_wide (n := 0)).1 ?_
       have hHeld : wr.drew.cell? ⟨B, off + ni, none⟩ = some (.int .i64 x) ∧ wr.drew.cell? ⟨B', off' + nk, none⟩ = some (.int .i64 y) := ⟨cx, cy⟩
       refine PhaseIn.region (S := fun w' => w'.cell? ⟨B, off + ni, none⟩ = some (.int .i64 x) ∧ w'.cell? ⟨B', off' + nk, none⟩ = some (.int .i64 y)) 15 (by kernel_rfl) ?_
       refine PhaseIn.takeE (i := 0) (v := ?_) [0, 3, 4, 5, 6, 7, 8, 9, 10, 11, 12, 13, 14] 15 rfl (by rfl) (by kernel_rfl) (fun _ _ _ h => h) (Or.inl ⟨by kernel_rfl, ?_⟩) hHeld ?_
       rotate_left
       · intro w' hSw
         (try dsimp only at hSw)
         go_simp
         first | done | with_reducible rfl
       try simp only [Act.put, sA, List.set]
       refine PhaseIn.takeE (i := 1) (v := ?_) [1, 2, 3, 4, 5, 6, 7, 8, 9, 10, 11, 12, 13, 14] 16 rfl (by rfl) (by kernel_rfl) (fun _ _ _ h => h) (Or.inl ⟨by kernel_rfl, ?_⟩) hHeld ?_
       rotate_left
       · intro w' hSw
         (try dsimp only at hSw)
         go_simp
         first | done | with_reducible rfl
       try simp only [Act.put, sA, List.set]
       refine PhaseIn.takeE (i := 2) (v := ?_) [2, 3, 4, 5, 6, 7, 8, 9, 10, 11, 12, 13, 14] 17 rfl (by rfl) (by kernel_rfl) (fun _ _ _ h => h) (Or.inl ⟨by kernel_rfl, ?_⟩) hHeld ?_
       rotate_left
       · intro w' hSw
         (try dsimp only at hSw)
         go_simp
         first | done | with_reducible rfl
       try simp only [Act.put, sA, List.set]
       refine PhaseIn.takeE (i := 3) (v := ?_) [3, 4, 5, 6, 7, 8, 9, 10, 11, 12, 13, 14] 18 rfl (by rfl) (by kernel_rfl) (fun _ _ _ h => h) (Or.inl ⟨by kernel_rfl, ?_⟩) hHeld ?_
       rotate_left
       · intro w' hSw
         (try dsimp only at hSw)
         go_simp
         first | done | with_reducible rfl
       try simp only [Act.put, sA, List.set]
       refine PhaseIn.takeE (i := 4) (v := ?_) [4, 5, 6, 7, 8, 9, 10, 11, 12, 13, 14] 19 rfl (by rfl) (by kernel_rfl) (fun _ _ _ h => h) (Or.inl ⟨by kernel_rfl, ?_⟩) hHeld ?_
       rotate_left
       · intro w' hSw
         (try dsimp only at hSw)
         go_simp
         first | done | with_reducible rfl
       try simp only [Act.put, sA, List.set]
       refine PhaseIn.takeE (i := 5) (v := ?_) [5, 7, 8, 13, 14] 20 rfl (by rfl) (by kernel_rfl) (fun _ _ _ h => h) (Or.inl ⟨by kernel_rfl, ?_⟩) hHeld ?_
       rotate_left
       · intro w' hSw
         (try dsimp only at hSw)
         go_simp
         first | done | with_reducible rfl
       try simp only [Act.put, sA, List.set]
       refine PhaseIn.takeE (i := 6) (v := ?_) [6, 7, 8, 13, 14] 21 rfl (by rfl) (by kernel_rfl) (fun _ _ _ h => h) (Or.inl ⟨by kernel_rfl, ?_⟩) hHeld ?_
       rotate_left
       · intro w' hSw
         (try dsimp only at hSw)
         go_simp
         first | done | with_reducible rfl
       try simp only [Act.put, sA, List.set]
       refine PhaseIn.takeE (i := 7) (v := ?_) [7, 8, 13, 14] 22 rfl (by rfl) (by kernel_rfl) (fun _ _ _ h => h) (Or.inl ⟨by kernel_rfl, ?_⟩) hHeld ?_
       rotate_left
       · intro w' hSw
         (try dsimp only at hSw)
         go_simp
         first | done | with_reducible rfl
       try simp only [Act.put, sA, List.set]
       refine PhaseIn.takeE (i := 8) (v := ?_) [8, 13, 14] 23 rfl (by rfl) (by kernel_rfl) (fun _ _ _ h => h) (Or.inl ⟨by kernel_rfl, ?_⟩) hHeld ?_
       rotate_left
       · intro w' hSw
         (try dsimp only at hSw)
         go_simp
         first | done | with_reducible rfl
       try simp only [Act.put, sA, List.set]
       refine PhaseIn.takeE (i := 9) (v := ?_) [9, 11, 12, 13, 14] 24 rfl (by rfl) (by kernel_rfl) (fun _ _ _ h => h) (Or.inl ⟨by kernel_rfl, ?_⟩) hHeld ?_
       rotate_left
       · intro w' hSw
         (try dsimp only at hSw)
         go_simp
         first | done | with_reducible rfl
       try simp only [Act.put, sA, List.set]
       refine PhaseIn.takeE (i := 10) (v := ?_) [10, 11, 12, 13, 14] 25 rfl (by rfl) (by kernel_rfl) (fun _ _ _ h => h) (Or.inl ⟨by kernel_rfl, ?_⟩) hHeld ?_
       rotate_left
       · intro w' hSw
         (try dsimp only at hSw)
         go_simp
         first | done | with_reducible rfl
       try simp only [Act.put, sA, List.set]
       refine PhaseIn.takeE (i := 11) (v := ?_) [11, 12, 13, 14] 26 rfl (by rfl) (by kernel_rfl) (fun _ _ _ h => h) (Or.inl ⟨by kernel_rfl, ?_⟩) hHeld ?_
       rotate_left
       · intro w' hSw
         (try dsimp only at hSw)
         go_simp
         first | done | with_reducible rfl
       try simp only [Act.put, sA, List.set]
       refine PhaseIn.takeE (i := 12) (v := ?_) [12, 13, 14] 27 rfl (by rfl) (by kernel_rfl) (fun _ _ _ h => h) (Or.inl ⟨by kernel_rfl, ?_⟩) hHeld ?_
       rotate_left
       · intro w' hSw
         (try dsimp only at hSw)
         go_simp
         first | done | with_reducible rfl
       try simp only [Act.put, sA, List.set]
       refine PhaseIn.takeE (i := 13) (v := ?_) [13, 14] 28 rfl (by rfl) (by kernel_rfl) (fun _ _ _ h => h) (Or.inl ⟨by kernel_rfl, ?_⟩) hHeld ?_
       rotate_left
       · intro w' hSw
         (try dsimp only at hSw)
         go_simp
         first | done | with_reducible rfl
       try simp only [Act.put, sA, List.set]
       refine PhaseIn.takeE (i := 14) (v := ?_) [14] 29 rfl (by rfl) (by kernel_rfl) (fun _ _ _ h => h) (Or.inl ⟨by kernel_rfl, ?_⟩) hHeld ?_
       rotate_left
       · intro w' hSw
         (try dsimp only at hSw)
         go_simp
         first | done | with_reducible rfl
       try simp only [Act.put, sA, List.set]
       refine PhaseIn.done (by kernel_rfl) ?_ _
       clear hHeld
       clear cy
       have cy := cell_below PD.out.bw CY.out
       generalize wr.drew = U at PD cy ⊢
       have bX : Below U.heap.size U (U.alloc (.cells #[.int .i64 y] 3)) := (Below.refl _ _).alloc (Nat.le_refl _) _
       have SA := hide (PD.out.below bX)
       have A1 : Hid ((U.alloc (.cells #[.int .i64 y] 3)).cell? ((⟨U.heap.size, 0, none⟩ : Addr).add 0) = some (.int .i64 y)) := show _ = _ by
        rw [Go.WideShapes.add_plain, World.cell?_alloc_new]
        rfl
       clear bX
       go_wp2_with (at_builtin; refine wpList_push rfl _ _ rfl w.heap.size g gc L rfl SA.out.own SA.out.bw.size ⟨U.heap.size, 0, none⟩ y rfl A1.out A3.out ?_; intro g2 c2 u2 h1 h2 h3 h4; have NX := hide (SA.out.next h1 h3 h4); clear h1 h2 h3 h4)
       exact ⟨⟨ni, nk + 1, g2, c2, L ++ [y], hi, by omega, by rw [List.length_append]; rfl, rfl, by go_num, NX, HL2, NL⟩, by simp [intOf]; omega⟩
   · have li : ¬ ((ni : Nat) : Int) < (n : Nat) := by omega
     have HL2 := hide (show (L ++ [y]) ++ mergeL (xs.drop ni) (ys.drop (nk + 1)) = mergeL xs ys by
      have := HL.out
      rw [merge_rest (by rw [EN.out]; omega) EY.out] at this
      rw [List.append_assoc]
      exact this)
     have NL : Hid ((L ++ [y]).length ≤ ni + (nk + 1)) := show _ ≤ _ by rw [List.length_append]; have := HN.out; simp; omega
     go_wp2_with fail
     refine (wpIn_wide (n := 0)).1 ?_
     have hHeld : True := trivial
     refine PhaseIn.region (S := fun _ => True) 15 (by kernel_rfl) ?_
     refine PhaseIn.takeE (i := 0) (v := ?_) [0, 3, 4, 5, 6, 7, 8, 9, 10, 11, 12, 13, 14] 15 rfl (by rfl) (by kernel_rfl) (fun _ _ _ h => h) (Or.inl ⟨by kernel_rfl, ?_⟩) hHeld ?_
     rotate_left
     · intro w' hSw
       (try dsimp only at hSw)
       go_simp
       first | done | with_reducible rfl
     try simp only [Act.put, sA, List.set]
     refine PhaseIn.takeE (i := 1) (v := ?_) [1, 2, 3, 4, 5, 6, 7, 8, 9, 10, 11, 12, 13, 14] 16 rfl (by rfl) (by kernel_rfl) (fun _ _ _ h => h) (Or.inl ⟨by kernel_rfl, ?_⟩) hHeld ?_
     rotate_left
     · intro w' hSw
       (try dsimp only at hSw)
       go_simp
       first | done | with_reducible rfl
     try simp only [Act.put, sA, List.set]
     refine PhaseIn.takeE (i := 2) (v := ?_) [2, 3, 4, 5, 6, 7, 8, 9, 10, 11, 12, 13, 14] 17 rfl (by rfl) (by kernel_rfl) (fun _ _ _ h => h) (Or.inl ⟨by kernel_rfl, ?_⟩) hHeld ?_
     rotate_left
     · intro w' hSw
       (try dsimp only at hSw)
       go_simp
       first | done | with_reducible rfl
     try simp only [Act.put, sA, List.set]
     refine PhaseIn.takeE (i := 3) (v := ?_) [3, 4, 5, 6, 7, 8, 9, 10, 11, 12, 13, 14] 18 rfl (by rfl) (by kernel_rfl) (fun _ _ _ h => h) (Or.inl ⟨by kernel_rfl, ?_⟩) hHeld ?_
     rotate_left
     · intro w' hSw
       (try dsimp only at hSw)
       go_simp
       first | done | with_reducible rfl
     try simp only [Act.put, sA, List.set]
     refine PhaseIn.takeE (i := 4) (v := .bool false) [4, 5, 6, 7, 8, 9, 10, 11, 12, 13, 14] 19 rfl (by rfl) (by kernel_rfl) (fun _ _ _ h => h) (Or.inl ⟨by kernel_rfl, ?_⟩) hHeld ?_
     · intro w' hSw
       (try dsimp only at hSw)
       go_simp
       first | done | with_reducible rfl
     try simp only [Act.put, sA, List.set]
     refine PhaseIn.takeE (i := 5) (v := undef) [5, 7, 8, 13, 14] 20 rfl (by rfl) (by kernel_rfl) (fun _ _ _ h => h) (Or.inr ⟨by kernel_rfl, rfl⟩) hHeld ?_
     try simp only [Act.put, sA, List.set]
     refine PhaseIn.takeE (i := 6) (v := undef) [6, 7, 8, 13, 14] 21 rfl (by rfl) (by kernel_rfl) (fun _ _ _ h => h) (Or.inr ⟨by kernel_rfl, rfl⟩) hHeld ?_
     try simp only [Act.put, sA, List.set]
     refine PhaseIn.takeE (i := 7) (v := undef) [7, 8, 13, 14] 22 rfl (by rfl) (by kernel_rfl) (fun _ _ _ h => h) (Or.inr ⟨by kernel_rfl, rfl⟩) hHeld ?_
     try simp only [Act.put, sA, List.set]
     refine PhaseIn.takeE (i := 8) (v := undef) [8, 13, 14] 23 rfl (by rfl) (by kernel_rfl) (fun _ _ _ h => h) (Or.inr ⟨by kernel_rfl, rfl⟩) hHeld ?_
     try simp only [Act.put, sA, List.set]
     refine PhaseIn.takeE (i := 9) (v := undef) [9, 11, 12, 13, 14] 24 rfl (by rfl) (by kernel_rfl) (fun _ _ _ h => h) (Or.inr ⟨by kernel_rfl, rfl⟩) hHeld ?_
     try simp only [Act.put, sA, List.set]
     refine PhaseIn.takeE (i := 10) (v := undef) [10, 11, 12, 13, 14] 25 rfl (by rfl) (by kernel_rfl) (fun _ _ _ h => h) (Or.inr ⟨by kernel_rfl, rfl⟩) hHeld ?_
     try simp only [Act.put, sA, List.set]
     refine PhaseIn.takeE (i := 11) (v := undef) [11, 12, 13, 14] 26 rfl (by rfl) (by kernel_rfl) (fun _ _ _ h => h) (Or.inr ⟨by kernel_rfl, rfl⟩) hHeld ?_
     try simp only [Act.put, sA, List.set]
     refine PhaseIn.takeE (i := 12) (v := undef) [12, 13, 14] 27 rfl (by rfl) (by kernel_rfl) (fun _ _ _ h => h) (Or.inr ⟨by kernel_rfl, rfl⟩) hHeld ?_
     try simp only [Act.put, sA, List.set]
     refine PhaseIn.takeE (i := 13) (v := undef) [13, 14] 28 rfl (by rfl) (by kernel_rfl) (fun _ _ _ h => h) (Or.inr ⟨by kernel_rfl, rfl⟩) hHeld ?_
     try simp only [Act.put, sA, List.set]
     refine PhaseIn.takeE (i := 14) (v := ?_) [14] 29 rfl (by rfl) (by kernel_rfl) (fun _ _ _ h => h) (Or.inl ⟨by kernel_rfl, ?_⟩) hHeld ?_
     rotate_left
     · intro w' hSw
       (try dsimp only at hSw)
       go_simp
       first | done | with_reducible rfl
     try simp only [Act.put, sA, List.set]
     refine PhaseIn.done (by kernel_rfl) ?_ _
     clear hHeld
     clear cy
     have cy := cell_below PD.out.bw CY.out
     generalize wr.drew = U at PD cy ⊢
     have bX : Below U.heap.size U (U.alloc (.cells #[.int .i64 y] 3)) := (Below.refl _ _).alloc (Nat.le_refl _) _
     have SA := hide (PD.out.below bX)
     have A1 : Hid ((U.alloc (.cells #[.int .i64 y] 3)).cell? ((⟨U.heap.size, 0, none⟩ : Addr).add 0) = some (.int .i64 y)) := show _ = _ by
      rw [Go.WideShapes.add_plain, World.cell?_alloc_new]
      rfl
     clear bX
     go_wp2_with (at_builtin; refine wpList_push rfl _ _ rfl w.heap.size g gc L rfl SA.out.own SA.out.bw.size ⟨U.heap.size, 0, none⟩ y rfl A1.out A3.out ?_; intro g2 c2 u2 h1 h2 h3 h4; have NX := hide (SA.out.next h1 h3 h4); clear h1 h2 h3 h4)
     exact ⟨⟨ni, nk + 1, g2, c2, L ++ [y], hi, by omega, by rw [List.length_append]; rfl, rfl, by go_num, NX, HL2, NL⟩, by simp [intOf]; omega⟩
end Go.Proofs.YtggilenddbobnaaGreat.Pol
