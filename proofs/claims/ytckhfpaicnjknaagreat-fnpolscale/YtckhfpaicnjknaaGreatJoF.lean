/-
  The sum of all parts: the program's told.
-/
import Derived.Test.YtckhfpaicnjknaaGreatPolIt
namespace Go.Proofs.YtckhfpaicnjknaaGreat.Pol
set_option linter.unusedVariables false
open Go.ChangeShapes Go.WideShapes Go.ChangeAt Go.RowKit Go.Shelf IntS Rng
attribute [local go_sem] Oper.semAt_some
theorem wpListIn_pushM {F : Fence} {n : Nat} {w : World} {ops : Array Oper} {rest : List Oper} {o : Oper} {a : Act} {Q : Exit → Act → World → Prop} (hgd : o.guard = none) (s x : Operand)
    (ho : o.op = .call { callee := .builtin .append, args := #[s, x], argTypes := #[23, 23] })
    (lo : Nat) (v : Value) (cs : List (Int × Value)) (hs : a.eval s = v) (hown : OwnM w lo v cs) (hlo : lo ≤ w.heap.size)
    (ad : Addr) (c : Int) (q : Option Addr) (m k : Nat) (hx : a.eval x = .slice (some ad) 1 1) (hc : w.cell? (ad.add 0) = some (.int .i64 c)) (hc2 : w.cell? (ad.add 1) = some (.slice q m k)) (hl : cs.length ≤ 1000000)
    (h : ∀ (G cap : Nat) (w' : World), Hid (OwnM w' lo (.slice (some ⟨G, 0, none⟩) (cs.length + 1) cap) (cs ++ [(c, .slice q m k)])) → Hid (Below lo w w') → Hid (∀ (k : Nat) (o : Obj), w.heap[k]? = some o → (∀ cs z, o ≠ Obj.cells cs 55 z) → w'.heap[k]? = some o) → wpListIn F n Tryz.prog ops Q rest (a.put o.dst (.slice (some ⟨G, 0, none⟩) (cs.length + 1) cap)) w') : wpListIn F n Tryz.prog ops Q (o :: rest) a w := by
  obtain ⟨i, hi, hz, hsz, hby⟩ := infoMono
  have hlt := World.ownsRow.lt hown
  refine wpListIn_append_own w hgd s x 23 ho lo 55 i _ 2 32 Tryz.underlying23 hi hz hsz hby rfl (by decide) v cs.length (flat cs) hs hown ad 1 1 [.int .i64 c, .slice q m k] hx rfl (fun j u hu => ?_) (fun u hu => by simp at hu; rcases hu with rfl | rfl <;> rfl) (by unfold maxLen; omega) (by omega) hlo fun v' w' h1 h2 h3 => ?_
  · match j, hu with
    | 0, hu => cases hu; exact hc
    | 1, hu => cases hu; exact hc2
    | j + 2, hu => simp at hu
  · have e : flat cs ++ [.int .i64 c, .slice q m k] = flat (cs ++ [(c, .slice q m k)]) := by rw [flat_app]; rfl
    rw [e] at h1
    have g1 : OwnM w' lo v' (cs ++ [(c, .slice q m k)]) := by
      unfold OwnM
      rw [List.length_append]
      exact h1
    obtain ⟨G, cap, rfl⟩ := g1.form (fun e2 => by have := (h3.1 e2).2; omega)
    rw [List.length_append] at g1
    have hb : Below lo w w' := (Below.refl lo w).grown h2 hlo (fun k e => (hlt k e).1)
    have hkeep : ∀ (k : Nat) (o : Obj), w.heap[k]? = some o → (∀ cs z, o ≠ Obj.cells cs 55 z) → w'.heap[k]? = some o := fun k o hk ht => by
      rw [h2.block k (lt_of_some hk) ?_]
      · exact hk
      · intro e
        obtain ⟨_, h0 | ⟨g, cap, cur, hv, _, hh, _⟩⟩ := hown
        · rw [h0.1] at e; simp [Value.ownBlock] at e
        · rw [hv] at e
          obtain rfl : k = g := by simpa [Value.ownBlock] using e
          rw [hk] at hh
          cases hh
          exact ht _ _ rfl
    have := h G cap w' g1 hb hkeep
    simpa [List.length_append] using this
theorem MapOf.same {w w' : World} {b : Nat} {es : List Mono} (h : MapOf w b es) (hs : w'.heap[b]? = w.heap[b]?) : MapOf w' b es := by
  obtain ⟨nn, D, h1, h2⟩ := h
  refine ⟨nn, D, ?_, h2⟩
  obtain ⟨e, clock, hb, F, hs2, hD⟩ := h1
  exact ⟨e, clock, hs.trans hb, F, hs2, hD⟩
def Part.cell (p : Part) : Int × Value := (p.c, .slice p.q p.m p.k)
/-- What the call has told so far. N: the heap's size when it began. -/
structure TellP (w : World) (b : Nat) (es L : List Mono) (pre : List Part) (A : World) : Prop where
  bw : Below w.heap.size w A
  r2 : Boxed A w.heap.size 25 (.slice none 0 0)
  r3 : Boxed A (w.heap.size + 1) 4 (.bool false)
  r4 : ∃ vq vc, Boxed A (w.heap.size + 2) 25 (.slice vq pre.length vc) ∧ OwnM A (w.heap.size + 4) (.slice vq pre.length vc) (pre.map Part.cell)
  bx : Boxed A (w.heap.size + 3) 52 (.map (some b))
  mp : MapOf A b es
  rows : ∀ p ∈ pre, IntS.Own A (w.heap.size + 4) (.slice p.q p.m p.k) p.at_
  apart : ∀ (i j : Nat) p r, i < j → pre[i]? = some p → pre[j]? = some r → ∀ a a', p.q = some a → r.q = some a' → a.block < a'.block
  pf : pre.map Part.mono <+: L
  many : pre.length ≤ 12
  high : ∀ p ∈ pre, p.at_.length ≤ 4
  lo : w.heap.size + 4 ≤ A.heap.size
theorem TellP.mild {w A A' : World} {b : Nat} {es L : List Mono} {pre : List Part} {B : Nat} (h : TellP w b es L pre A) (hm : Mild B A A') (hB : w.heap.size ≤ B) (hb : b < w.heap.size) : TellP w b es L pre A' :=
  ⟨Mild.below h.bw ⟨hm.os, hm.tape, hm.output, hm.size, fun k hk hl => hm.low k (Nat.lt_of_lt_of_le hk hB) hl, hm.cells⟩ (Nat.le_refl _), Srt.boxed_mild h.r2 hm, Srt.boxed_mild h.r3 hm, let ⟨vq, vc, h1, h2⟩ := h.r4; ⟨vq, vc, Srt.boxed_mild h1 hm, Srt.owns_mild h2 hm⟩, Srt.boxed_mild h.bx hm, h.mp.mild hm (Nat.lt_of_lt_of_le hb hB), fun p hp => Srt.owns_mild (h.rows p hp) hm, h.apart, h.pf, h.many, h.high, Nat.le_trans h.lo hm.size⟩
/-- What holds of a part that was handed over. -/
structure HandP (w : World) (L : List Mono) (pre : List Part) (x : Part) (A : World) : Prop where
  pf : (pre ++ [x]).map Part.mono <+: L
  own : IntS.Own A (w.heap.size + 4) (.slice x.q x.m x.k) x.at_
  last : ∀ p ∈ pre, ∀ a a', p.q = some a → x.q = some a' → a.block < a'.block
theorem HandP.mild {w A A' : World} {L : List Mono} {pre : List Part} {x : Part} {B : Nat} (h : HandP w L pre x A) (hm : Mild B A A') : HandP w L pre x A' := ⟨h.pf, Srt.owns_mild h.own hm, h.last⟩
theorem hand_of {w A₀ A : World} {b : Nat} {es L : List Mono} {pre : List Part} {x : Part} (h : TellP w b es L pre A₀) (hb : Below A₀.heap.size A₀ A) (hf : (pre ++ [x]).map Part.mono <+: L ∧ IntS.Own A A₀.heap.size (.slice x.q x.m x.k) x.at_) : HandP w L pre x A := by
  refine ⟨hf.1, IntS.Own.mono hf.2 h.lo, fun p hp a a' ha ha' => ?_⟩
  have l1 : a.block < A₀.heap.size := by
    obtain ⟨_, h0 | ⟨g, cap, cur, hv, _, hh, _⟩⟩ := h.rows p hp
    · rw [ha] at h0; cases h0.1
    · rw [ha] at hv
      injection hv with e1 _ _
      injection e1 with e2
      rw [e2]
      exact lt_of_some hh
  have l2 : A₀.heap.size ≤ a'.block := by
    obtain ⟨_, h0 | ⟨g, cap, cur, hv, hl, _⟩⟩ := hf.2
    · rw [ha'] at h0; cases h0.1
    · rw [ha'] at hv
      injection hv with e1 _ _
      injection e1 with e2
      rw [e2]
      exact hl
  omega
theorem HandP.len {w A : World} {L : List Mono} {pre : List Part} {x : Part} (h : HandP w L pre x A) : x.m = x.at_.length := by
  obtain ⟨_, h0 | ⟨g, cap, cur, hv, _⟩⟩ := h.own
  · injection h0.1 with _ e _
    rw [e, h0.2]
  · injection hv with _ e _
theorem HandP.at_ {w A : World} {L : List Mono} {pre : List Part} {x : Part} (h : HandP w L pre x A) : L[pre.length]? = some x.mono ∧ pre.length + 1 ≤ L.length := by
  obtain ⟨r, hr⟩ := h.pf
  rw [← hr]
  constructor
  · rw [List.map_append, List.append_assoc, List.getElem?_append_right (by simp)]
    simp
  · simp
theorem TellP.next {w A A' : World} {b G cap : Nat} {es L : List Mono} {pre : List Part} {x : Part} (h : TellP w b es L pre A) (hx : HandP w L pre x A) (hb : b < w.heap.size) (h12 : pre.length < 12) (h4 : x.at_.length ≤ 4)
    (ho : OwnM A' (w.heap.size + 4) (.slice (some ⟨G, 0, none⟩) (pre.length + 1) cap) (pre.map Part.cell ++ [x.cell])) (hB : Below (w.heap.size + 4) A A')
    (hk : ∀ (k : Nat) (o : Obj), A.heap[k]? = some o → (∀ cs z, o ≠ Obj.cells cs 55 z) → A'.heap[k]? = some o) :
    TellP w b es L (pre ++ [x]) (A'.setCell ⟨w.heap.size + 2, 0, none⟩ (.slice (some ⟨G, 0, none⟩) (pre.length + 1) cap)) := by
  obtain ⟨vq, vc, k1, k2⟩ := h.r4
  have box : ∀ {B t v}, Boxed A B t v → t ≠ 55 → Boxed A' B t v := fun hb ht => hk _ _ hb (fun cs z e => ht (by injection e))
  have b4 := box k1 (by decide)
  have tn : Turn (w.heap.size + 2) A' (A'.setCell ⟨w.heap.size + 2, 0, none⟩ (.slice (some ⟨G, 0, none⟩) (pre.length + 1) cap)) := (Turn.refl _ A').setCell (p := ⟨w.heap.size + 2, 0, none⟩) rfl _
  have far : ∀ {B t v}, Boxed A' B t v → B ≠ w.heap.size + 2 → Boxed (A'.setCell ⟨w.heap.size + 2, 0, none⟩ (.slice (some ⟨G, 0, none⟩) (pre.length + 1) cap)) B t v := fun hb hne => (tn.block _ hb.lt hne).trans hb
  have row : ∀ {v xs}, IntS.Own A (w.heap.size + 4) v xs → IntS.Own (A'.setCell ⟨w.heap.size + 2, 0, none⟩ (.slice (some ⟨G, 0, none⟩) (pre.length + 1) cap)) (w.heap.size + 4) v xs := fun hr => by
    obtain ⟨hl, h0 | ⟨g, cp, cur, hv, hb, hh, rest⟩⟩ := hr
    · exact ⟨hl, Or.inl h0⟩
    · have h1 := hk g _ hh (fun cs z e => by injection e with _ e2 _; exact absurd e2 (by decide))
      exact ⟨hl, Or.inr ⟨g, cp, cur, hv, hb, (tn.block g (lt_of_some h1) (by omega)).trans h1, rest⟩⟩
  have lo' : w.heap.size + 4 ≤ A'.heap.size := Nat.le_trans h.lo hB.size
  have f2 := far (box h.r2 (by decide)) (by omega)
  have f3 := far (box h.r3 (by decide)) (by omega)
  have fx := far (box h.bx (by decide)) (by omega)
  have mp' : MapOf A' b es := h.mp.same (hB.block b (by omega))
  have bw' : Below w.heap.size w (A'.setCell ⟨w.heap.size + 2, 0, none⟩ (.slice (some ⟨G, 0, none⟩) (pre.length + 1) cap)) := (h.bw.trans (hB.mono (by omega))).setCell (p := ⟨w.heap.size + 2, 0, none⟩) (by show w.heap.size ≤ w.heap.size + 2; omega) _
  have lo'' : w.heap.size + 4 ≤ (A'.setCell ⟨w.heap.size + 2, 0, none⟩ (.slice (some ⟨G, 0, none⟩) (pre.length + 1) cap)).heap.size := Nat.le_trans lo' tn.size
  refine ⟨bw', f2, f3, ⟨some ⟨G, 0, none⟩, cap, ?_, ?_⟩, fx, mp'.turn tn (by omega), fun p hp => ?_, fun i j p r hij hi hj a a' ha ha' => ?_, hx.pf, by simp; omega, fun p hp => ?_, lo''⟩
  · rw [List.length_append]
    exact b4.set _
  · rw [List.length_append, List.map_append]
    refine OwnM.turn ?_ tn (fun G' n c e => ?_)
    · exact ho
    · injection e with e1 _ _
      injection e1 with e2
      injection e2 with e3 _ _
      have := ho.cells.2.2.2.1
      omega
  · rcases List.mem_append.1 hp with hp | hp
    · exact row (h.rows p hp)
    · rw [List.mem_singleton.1 hp]; exact row hx.own
  · have hjl : j < pre.length + 1 := by have := (List.getElem?_eq_some_iff.1 hj).1; simpa using this
    rw [List.getElem?_append_left (by omega)] at hi
    by_cases e : j < pre.length
    · rw [List.getElem?_append_left e] at hj
      exact h.apart i j p r hij hi hj a a' ha ha'
    · obtain rfl : j = pre.length := by omega
      have : r = x := by simpa using hj.symm
      subst this
      exact hx.last p (List.mem_of_getElem? hi) a a' ha ha'
  · rcases List.mem_append.1 hp with hp | hp
    · exact h.high p hp
    · rw [List.mem_singleton.1 hp]; exact h4
theorem frozen_mild {B : Nat} {A A' : World} (h : Mild B A A') {a : Addr} {v : Value} (hc : A.cell? a = some v) (hf : A.frozen? a = false) : A'.frozen? a = false := by
  unfold World.cell? at hc
  unfold World.frozen? at hf ⊢
  cases ho : A.heap[a.block]? with
  | none => simp [ho] at hc
  | some o =>
    cases o with
    | cells cs t z => rw [h.cells _ _ _ _ ho]; simpa [ho] using hf
    | _ => simp [ho] at hc
theorem wrow_mild {B b : Nat} {A A' : World} {v : Value} {xs : List Int} (h : WRow A b v xs) (hm : Mild B A A') : WRow A' b v xs := by
  obtain ⟨a, cap, off, h1, h2, h3, hz, h4⟩ := h
  refine ⟨a, cap, off, h1, h2, h3, hz, h4.imp id fun ⟨e1, e2, e3⟩ => ⟨e1, Nat.lt_of_lt_of_le e2 hm.size, fun i x hx => ?_⟩⟩
  obtain ⟨k1, k2⟩ := e3 i x hx
  exact ⟨hm.cell k1, frozen_mild hm k1 k2⟩
theorem WPoly.mild {B lo hi : Nat} {A A' : World} {v : Value} {ps : List Mono} (h : WPoly A lo hi v ps) (hm : Mild B A A') : WPoly A' lo hi v ps := by
  obtain ⟨a, G, cap, g, s, h1, h⟩ := h
  refine ⟨a, G, cap, g, s, h1, h.le, h.mx, h.nl, h.at_.imp id (fun ⟨e1, e2, e3, e4⟩ => ⟨e1, e2, e3, Nat.lt_of_lt_of_le e4 hm.size⟩), fun i x hx => ?_, h.apart⟩
  obtain ⟨k1, k2, k3, k4, k5⟩ := h.cells i x hx
  exact ⟨hm.cell k1, frozen_mild hm k1 k2, hm.cell k3, wrow_mild k4 hm, k5⟩
def Part.blk (p : Part) : Nat := match p.q with
  | some a => a.block
  | none => 0
theorem own_wrow {A : World} {lo : Nat} {p : Part} (h : IntS.Own A lo (.slice p.q p.m p.k) p.at_) : WRow A p.blk (.slice p.q p.m p.k) p.at_ ∧ (p.at_ = [] ∨ ∃ a, p.q = some a ∧ lo ≤ p.blk ∧ p.blk < A.heap.size ∧ IsT A p.blk 3) := by
  by_cases e : (Value.slice p.q p.m p.k) = .slice none 0 0
  · have e0 : p.at_ = [] := by
      obtain ⟨_, h0 | ⟨g, cap, cur, hv, _⟩⟩ := h
      · exact List.length_eq_zero_iff.1 h0.2
      · rw [e] at hv; injection hv with q _ _; cases q
    refine ⟨?_, Or.inl e0⟩
    rw [e, e0]
    exact ⟨none, 0, 0, rfl, Nat.le_refl _, Nat.zero_le _, fun _ => rfl, Or.inl rfl⟩
  · obtain ⟨g, cap, hv, k1, k2, k3⟩ := h.form e
    injection hv with q1 q2 q3
    have eb : p.blk = g := by unfold Part.blk; rw [q1]
    rw [eb]
    refine ⟨k3, Or.inr ⟨_, q1, k1, k2, ?_⟩⟩
    obtain ⟨_, h0 | ⟨g', cap', cur, hv', _, hh, _⟩⟩ := h
    · exact absurd h0.1 e
    · rw [q1] at hv'
      injection hv' with r1 _ _
      injection r1 with r2
      injection r2 with r3 _ _
      rw [r3]
      exact ⟨cur, _, hh⟩
theorem TellP.whole {w A : World} {b : Nat} {es L : List Mono} {xs : List Part} {vq : Option Addr} {vc : Nat} (h : TellP w b es L xs A) (hL : xs.map Part.mono = L) (ho : OwnM A (w.heap.size + 4) (.slice vq xs.length vc) (xs.map Part.cell)) : WPoly A (w.heap.size + 4) A.heap.size (.slice vq xs.length vc) L := by
  have ll : L.length = xs.length := by rw [← hL]; simp
  by_cases hn : (Value.slice vq xs.length vc) = .slice none 0 0
  · have hx : xs = [] := List.length_eq_zero_iff.1 (by injection hn)
    have hl : L = [] := by rw [← hL, hx]; rfl
    rw [hn, hl]
    exact ⟨none, 0, 0, fun _ => 0, fun _ => .slice none 0 0, rfl, Nat.le_refl _, Nat.zero_le _, fun _ => rfl, Or.inl rfl, fun i x hx => by simp at hx, fun i j x y _ hx => by simp at hx⟩
  · obtain ⟨G, cap, e⟩ := ho.form hn
    injection e with e1 e2 e3
    subst e1 e3
    obtain ⟨_, hc, hm, hb, hI, hcells, hsoft⟩ := ho.cells
    have mi : (55 : TypeId) ≠ 3 := by decide
    have part : ∀ (i : Nat) x, L[i]? = some x → ∃ p, xs[i]? = some p ∧ x = p.mono := fun i x hx => by
      rw [← hL, List.getElem?_map] at hx
      cases hp : xs[i]? with
      | none => rw [hp] at hx; cases hx
      | some p => rw [hp] at hx; exact ⟨p, rfl, (Option.some.inj hx).symm⟩
    refine ⟨some ⟨G, 0, none⟩, G, vc, fun i => (xs[i]?.map Part.blk).getD 0, fun i => (xs[i]?.map fun p => Value.slice p.q p.m p.k).getD (.slice none 0 0), by rw [ll], by omega, hm, (fun h => by cases h), Or.inr ⟨rfl, hb, hI.lt, hI.lt⟩, fun i x hx => ?_, fun i j x y hij hx hy => ?_⟩
    · obtain ⟨p, hp, rfl⟩ := part i x hx
      obtain ⟨c1, c2⟩ := hcells i p.cell (by rw [List.getElem?_map, hp]; rfl)
      obtain ⟨k1, k2⟩ := own_wrow (h.rows p (List.mem_of_getElem? hp))
      simp only [hp, Option.map_some, Option.getD_some]
      exact ⟨c1, hsoft _, c2, k1, k2.imp id fun ⟨a, _, q1, q2, q3⟩ => ⟨q1, q2, fun e => IsT.ne hI q3 mi e.symm⟩⟩
    · obtain ⟨p, hp, rfl⟩ := part i x hx
      obtain ⟨r, hr, rfl⟩ := part j y hy
      simp only [hp, hr, Option.map_some, Option.getD_some]
      rcases (own_wrow (h.rows p (List.mem_of_getElem? hp))).2 with q | ⟨a, q, _⟩
      · exact Or.inl q
      · rcases (own_wrow (h.rows r (List.mem_of_getElem? hr))).2 with q' | ⟨a', q', _⟩
        · exact Or.inr (Or.inl q')
        · have := h.apart i j p r hij hp hr a a' q q'
          refine Or.inr (Or.inr (fun e => ?_))
          unfold Part.blk at e
          rw [q, q'] at e
          simp only [] at e
          omega
end Go.Proofs.YtckhfpaicnjknaaGreat.Pol
namespace Go.Proofs.YtckhfpaicnjknaaGreat.Pol
set_option linter.unusedVariables false
open Go.ChangeShapes Go.WideShapes Go.ChangeAt Go.RowKit Go.Shelf IntS Rng
attribute [local go_sem] Oper.semAt_some
theorem enterO : ∀ args w, (callFunc 69 args).run Tryz.prog w = .ok (.enter 69 args) w := enters_of Tryz.func69 (by kernel_rfl) rfl
set_option maxHeartbeats 4000000 in
theorem inOrderOf (mb : Option Nat) (w : World) :
    Calls Tryz.prog 53 #[.map mb] w fun e w' => e = .returned (.func (.func 69) #[] #[.pointer (some ⟨w.heap.size, 0, none⟩)]) ∧ w' = w.alloc (.cells #[.map mb] 52) := by
  go_enter Tryz.func53, Tryz.ntmps53
  go_wp2
  go_ret
  exact ⟨rfl, rfl⟩
set_option maxRecDepth 100000 in
set_option maxHeartbeats 1000000 in
theorem told (es L : List Mono) (b : Nat) (w : World) (hm : MapOf w b es) (hT : Told es L) (hn : es.length ≤ 1000000) (he : ∀ m ∈ es, m.2.length < 256) :
    Calls Tryz.prog 32 #[.map (some b)] w fun e w' => ∃ a l c, e = .returned (.tuple #[.agg #[.slice a l c], .bool (fitB L)]) ∧ WPoly w' w.heap.size w'.heap.size (.slice a l c) (fitP L) ∧ Below w.heap.size w w' := by
  have hbl := hm.lt
  have T := inOrder es L b (w.heap.size + 3) hT hn he
  refine (callsIn_wide (n := 0)).1 ?_
  refine callsIn_of_wp_marks Tryz.func32 rfl trivial ?_ rfl
  simp only [Tryz.ntmps32, List.size_toArray, List.length_cons, List.length_nil, Nat.reduceAdd, Nat.reduceSub, Array.replicate_succ, Array.replicate_zero, List.push_toArray, List.append_toArray, List.nil_append, List.cons_append]
  gi_wp2_with fail
  refine ⟨trivial, rfl, (callsIn_wide.2 (inOrderOf _ _)).mono ?_⟩
  rintro e u ⟨rfl, rfl⟩
  simp only [World.size_alloc, Nat.add_assoc, Nat.reduceAdd]
  have TP : TellP w b es L [] ((((w.alloc (.cells #[.slice none 0 0] 25)).alloc (.cells #[.bool false] 4)).alloc (.cells #[.slice none 0 0] 25)).alloc (.cells #[.map (some b)] 52)) := by
    have b1 := (Below.refl _ w).alloc (Nat.le_refl _) (.cells #[.slice none 0 0] 25)
    have b2 := b1.alloc b1.size (.cells #[.bool false] 4)
    have b3 := b2.alloc b2.size (.cells #[.slice none 0 0] 25)
    have b4 := b3.alloc b3.size (.cells #[.map (some b)] 52)
    have x1 := Boxed.new w 25 (.slice none 0 0)
    have x2 := Boxed.new (w.alloc (.cells #[.slice none 0 0] 25)) 4 (.bool false)
    have x3 := Boxed.new ((w.alloc (.cells #[.slice none 0 0] 25)).alloc (.cells #[.bool false] 4)) 25 (.slice none 0 0)
    have x4 := Boxed.new (((w.alloc (.cells #[.slice none 0 0] 25)).alloc (.cells #[.bool false] 4)).alloc (.cells #[.slice none 0 0] 25)) 52 (.map (some b))
    simp only [World.size_alloc, Nat.add_assoc, Nat.reduceAdd] at x2 x3 x4
    exact ⟨b4, ((x1.alloc _).alloc _).alloc _, (x2.alloc _).alloc _, ⟨none, 0, x3.alloc _, ⟨rfl, Or.inl ⟨rfl, rfl⟩⟩⟩, x4, hm.below b4, (fun p hp => by cases hp), (fun i j p r _ hi => by simp at hi), List.nil_prefix, Nat.zero_le _, (fun p hp => by cases hp), by simp⟩
  have hsz : (((((w.alloc (.cells #[.slice none 0 0] 25)).alloc (.cells #[.bool false] 4)).alloc (.cells #[.slice none 0 0] 25)).alloc (.cells #[.map (some b)] 52)) : World).heap.size = w.heap.size + 4 := by simp
  generalize ((((w.alloc (.cells #[.slice none 0 0] 25)).alloc (.cells #[.bool false] 4)).alloc (.cells #[.slice none 0 0] 25)).alloc (.cells #[.map (some b)] 52)) = W0 at TP hsz ⊢
  have HSZ := hide hsz
  have TPH := hide TP
  clear hsz TP hm
  gi_wp2
  refine range (gf := 69) (lb := #[.pointer (some ⟨w.heap.size + 3, 0, none⟩)]) rfl enterO T (fun _ => rfl)
    (fun pre A => TellP w b es L pre A)
    (fun _ A => Boxed A w.heap.size 25 (.slice none 0 0) ∧ Boxed A (w.heap.size + 1) 4 (.bool false) ∧ fitB L = false ∧ Below w.heap.size w A)
    (fun pre x a₁ A => TellP w b es L pre A ∧ HandP w L pre x A ∧ ∃ X, w.heap.size + 4 ≤ X ∧ A.heap[X]? = some (.cells #[.int .i64 x.c, .slice x.q x.m x.k] 55 (0, 0)) ∧
      a₁ = { tmps := #[.map (some b), undef, .pointer (some ⟨w.heap.size, 0, none⟩), .pointer (some ⟨w.heap.size + 1, 0, none⟩), .pointer (some ⟨w.heap.size + 2, 0, none⟩), .pointer (some ⟨X, 0, none⟩), .agg #[.slice none 0 0], .map (some b), .func (.func 69) #[] #[.pointer (some ⟨w.heap.size + 3, 0, none⟩)], x.val, undef, undef, undef, undef, undef, undef, undef, undef, undef, undef, undef, undef, undef, undef, undef, undef, undef, undef], defers := [] })
    (fun pre A h => ⟨h.bx.cell, h.mp⟩)
    (fun pre A A' h hm => h.mild hm (by rw [HSZ.out]; omega) hbl)
    (fun pre A A' h hm => ⟨Srt.boxed_mild h.1 hm, Srt.boxed_mild h.2.1 hm, h.2.2.1, Mild.below h.2.2.2 ⟨hm.os, hm.tape, hm.output, hm.size, fun k hk hl => hm.low k (by rw [HSZ.out]; omega) hl, hm.cells⟩ (Nat.le_refl _)⟩)
    (fun pre x a₁ A A' h hm => ⟨h.1.mild hm (by rw [HSZ.out]; omega) hbl, h.2.1.mild hm, let ⟨X, h1, h2, h3⟩ := h.2.2; ⟨X, h1, hm.cells _ _ _ _ h2, h3⟩⟩)
    TPH.out ?_ ?_ ?_ ?_
  · intro l pre x A₀ A K hI hb hF hK
    have h1 := hI.mild (Mild.of_below (B := w.heap.size) hb) (Nat.le_refl _) hbl
    have h2 := hand_of hI hb hF
    have lo := h1.lo
    obtain ⟨c, q, m, k, at_⟩ := x
    simp [Part.val] at hK ⊢
    gi_wp2
    exact hK _ _ ((KeepsOthers.alloc _ _).from _) (Mild.alloc (B := 0) _ _).kept (h1.mild (Mild.alloc (B := w.heap.size) _ _) (Nat.le_refl _) hbl) (h2.mild (Mild.alloc (B := 0) _ _)) A.heap.size lo (World.alloc_heap_new A _) rfl
  · rintro l pre x a₁ A ⟨hI, hX, X, hXl, hXh, rfl⟩
    have ml := hX.len
    have HX := hide hX
    have HI := hide hI
    obtain ⟨c, q, m, k, at_⟩ := x
    simp only [Part.val] at ml hXh ⊢
    subst ml
    obtain ⟨vq, vc, b4, own⟩ := hI.r4
    have c2 := hI.r2.cell
    have f2 := hI.r2.frozen
    have c3 := hI.r3.cell
    have f3 := hI.r3.frozen
    have c4 := b4.cell
    have f4 := b4.frozen
    have x0 : A.cell? ⟨X, 0, none⟩ = some (.int .i64 c) := by unfold World.cell?; simp [hXh]
    have x1 : A.cell? ⟨X, 1, none⟩ = some (.slice q at_.length k) := by unfold World.cell?; simp [hXh]
    have p12 := hI.many
    obtain ⟨n, en⟩ : ∃ n, pre.length = n := ⟨_, rfl⟩
    obtain ⟨j, ej⟩ : ∃ j, at_.length = j := ⟨_, rfl⟩
    have EN := hide en
    have EJ := hide ej
    rw [en] at c4 p12
    rw [ej] at x1 ⊢
    have OW := hide own
    have B4 := hide b4
    rw [en] at B4
    have HXH := hide hXh
    have stop : Hid (fitB L = false → ∀ a, roundEnds W0.heap.size (fun t => t = 9) (fun pre A => TellP w b es L pre A) (fun _ A => Boxed A w.heap.size 25 (.slice none 0 0) ∧ Boxed A (w.heap.size + 1) 4 (.bool false) ∧ fitB L = false ∧ Below w.heap.size w A) (pre ++ [⟨c, q, j, k, at_⟩]) A .ret a ((A.setCell ⟨w.heap.size, 0, none⟩ (.slice none 0 0)).setCell ⟨w.heap.size + 1, 0, none⟩ (.bool false))) := fun hf a => by
      refine ⟨((KeepsOthers.setCell A _ _).trans (KeepsOthers.setCell _ _ _)).from _, ?_, ?_, hf, ?_⟩
      · exact (HI.out.r2.set _).kept (grownBy_setCell' _ _ _) (by simp)
      · exact (HI.out.r3.kept (grownBy_setCell' A w.heap.size (.slice none 0 0)) (by simp)).set _
      · exact (HI.out.bw.setCell (p := ⟨w.heap.size, 0, none⟩) (Nat.le_refl _) _).setCell (p := ⟨w.heap.size + 1, 0, none⟩) (by show w.heap.size ≤ w.heap.size + 1; omega) _
    by_cases h12 : n = 12
    · subst h12
      have hf : Hid (fitB L = false) := (fit_many (by have := HX.out.at_.2; rw [EN.out] at this; omega)).1
      clear own b4 hX hI en ej hXh
      gi_wp2
      exact stop.out hf.out _
    have e12 : ((n : Int) == 12) = false := by simp; omega
    by_cases h4 : 4 < j
    · have hf : Hid (fitB L = false) := (fit_high HX.out.at_.1 (by show 4 < at_.length; rw [EJ.out]; exact h4)).1
      have e4 : (4 : Int) < (j : Nat) := by omega
      clear own b4 hX hI en ej hXh
      gi_wp2
      exact stop.out hf.out _
    have e4 : ¬ (4 : Int) < (j : Nat) := by omega
    clear own b4 hX hI en ej hXh stop
    have bA := (Below.refl _ A).alloc (Nat.le_refl _) (.cells #[.int .i64 c, .slice q j k] 55)
    have OX := hide (OW.out.below bA)
    have LX : Hid ((pre.map Part.cell).length = n) := show _ = _ by rw [List.length_map]; exact EN.out
    have LY : Hid ((pre.map Part.cell).length ≤ 1000000) := show _ ≤ _ by rw [LX.out]; omega
    have LO := hide (Nat.le_trans HI.out.lo bA.size)
    have A1 : Hid ((A.alloc (.cells #[.int .i64 c, .slice q j k] 55)).cell? ((⟨A.heap.size, 0, none⟩ : Addr).add 0) = some (.int .i64 c)) := show _ = _ by
      rw [Go.WideShapes.add_plain, World.cell?_alloc_new]
      rfl
    have A2 : Hid ((A.alloc (.cells #[.int .i64 c, .slice q j k] 55)).cell? ((⟨A.heap.size, 0, none⟩ : Addr).add 1) = some (.slice q j k)) := show _ = _ by
      rw [Go.WideShapes.add_plain, World.cell?_alloc_new]
      rfl
    have BA := hide bA
    rw [EN.out] at OX
    clear bA c2 f2 c3 f3
    gi_wp2_with (gi_at_builtin; refine wpListIn_pushM rfl _ _ rfl (w.heap.size + 4) (.slice vq n vc) (pre.map Part.cell) rfl OX.out LO.out ⟨A.heap.size, 0, none⟩ c q j k rfl A1.out A2.out LY.out ?_; intro G cap V hO hB hk; rw [LX.out] at hO ⊢; have b4' : Boxed V (w.heap.size + 2) 25 (.slice vq n vc) := hk.out _ _ ((BA.out.block _ (by have := HI.out.lo; omega)).trans B4.out) (fun cs z e => by injection e with _ e2 _; exact absurd e2 (by decide)); have c4' := b4'.cell; have f4' := b4'.frozen)
    have T1 := HI.out.mild (Mild.alloc (B := w.heap.size) A (.cells #[.int .i64 c, .slice q j k] 55)) (Nat.le_refl _) hbl
    have X1 : HandP w L pre ⟨c, q, j, k, at_⟩ (A.alloc (.cells #[.int .i64 c, .slice q j k] 55)) := by
      have h := HX.out.mild (Mild.alloc (B := 0) A (.cells #[.int .i64 c, .slice q j k] 55))
      rw [EJ.out] at h
      exact h
    have NX := T1.next X1 hbl (by rw [EN.out]; omega) (by show at_.length ≤ 4; rw [EJ.out]; omega) (by rw [EN.out]; exact hO.out) hB.out hk.out
    rw [EN.out] at NX
    have tn : Turn (w.heap.size + 2) V (V.setCell ⟨w.heap.size + 2, 0, none⟩ (.slice (some ⟨G, 0, none⟩) (n + 1) cap)) := (Turn.refl _ V).setCell (p := ⟨w.heap.size + 2, 0, none⟩) rfl _
    have go_ : ∀ (k : Nat) (o : Obj), A.heap[k]? = some o → (∀ cs z, o ≠ Obj.cells cs 55 z) → (∀ cs z, o ≠ Obj.cells cs 25 z) → (V.setCell ⟨w.heap.size + 2, 0, none⟩ (.slice (some ⟨G, 0, none⟩) (n + 1) cap)).heap[k]? = some o := fun k o h1 h2 h3 => by
      have h4 := hk.out k o ((BA.out.block k (lt_of_some h1)).trans h1) h2
      refine (tn.block k (lt_of_some h4) (fun e => ?_)).trans h4
      rw [e] at h4
      exact h3 _ _ (Option.some.inj (h4.symm.trans b4'))
    refine ⟨⟨Nat.le_trans BA.out.size (Nat.le_trans hB.out.size tn.size), fun k o _ h1 ho => go_ k o h1 (fun cs z e => by rw [e] at ho; cases ho) (fun cs z e => by rw [e] at ho; cases ho)⟩, NX, fun k cs t z ht h1 => ?_⟩
    subst ht
    exact go_ k _ h1 (fun cs z e => by injection e with _ e2 _; exact absurd e2 (by decide)) (fun cs z e => by injection e with _ e2 _; exact absurd e2 (by decide))
  · rintro D xs A hD hS hI hK
    have HI := hide hI
    have HS := hide hS
    obtain ⟨vq, vc, b4, own⟩ := hI.r4
    have c2 := hI.r2.cell
    have f2 := hI.r2.frozen
    have c3 := hI.r3.cell
    have f3 := hI.r3.frozen
    have c4 := b4.cell
    have HK := hide hK
    have OW := hide own
    clear hI hS own b4
    have ft : Hid (fitB L = true ∧ fitP L = L) := fit_yes (by rw [← HS.out, List.length_map]; exact HI.out.many) (fun i x _ hx => by
      rw [← HS.out, List.getElem?_map] at hx
      cases hp : xs[i]? with
      | none => rw [hp] at hx; cases hx
      | some p => rw [hp] at hx; rw [← Option.some.inj hx]; exact HI.out.high p (List.mem_of_getElem? hp))
    have WP0 := HI.out.whole HS.out OW.out
    obtain ⟨n, en⟩ : ∃ n, xs.length = n := ⟨_, rfl⟩
    rw [en] at c4 WP0
    have t1 : Turn w.heap.size A (A.setCell ⟨w.heap.size, 0, none⟩ (.slice vq n vc)) := (Turn.refl _ A).setCell (p := ⟨w.heap.size, 0, none⟩) rfl _
    have t2 : Turn (w.heap.size + 1) (A.setCell ⟨w.heap.size, 0, none⟩ (.slice vq n vc)) ((A.setCell ⟨w.heap.size, 0, none⟩ (.slice vq n vc)).setCell ⟨w.heap.size + 1, 0, none⟩ (.bool true)) := (Turn.refl _ _).setCell (p := ⟨w.heap.size + 1, 0, none⟩) rfl _
    have W1 := WP0.keep (Keep.of_turn t1) (fun b h1 _ (h2 : b = _) => by omega)
    have W2 := W1.keep (Keep.of_turn t2) (fun b h1 _ (h2 : b = _) => by omega)
    have y2 : Boxed ((A.setCell ⟨w.heap.size, 0, none⟩ (.slice vq n vc)).setCell ⟨w.heap.size + 1, 0, none⟩ (.bool true)) w.heap.size 25 (.slice vq n vc) := (t2.block _ (HI.out.r2.set (.slice vq n vc)).lt (by omega)).trans (HI.out.r2.set _)
    have y3 : Boxed ((A.setCell ⟨w.heap.size, 0, none⟩ (.slice vq n vc)).setCell ⟨w.heap.size + 1, 0, none⟩ (.bool true)) (w.heap.size + 1) 4 (.bool true) := Boxed.set _ ((t1.block _ HI.out.r3.lt (by omega)).trans HI.out.r3)
    have yB : Below w.heap.size w ((A.setCell ⟨w.heap.size, 0, none⟩ (.slice vq n vc)).setCell ⟨w.heap.size + 1, 0, none⟩ (.bool true)) := (HI.out.bw.setCell (p := ⟨w.heap.size, 0, none⟩) (Nat.le_refl _) _).setCell (p := ⟨w.heap.size + 1, 0, none⟩) (by show w.heap.size ≤ w.heap.size + 1; omega) _
    have hD2 : w.heap.size + 4 ≤ D := by rw [HSZ.out] at hD; exact hD
    have yD : ((A.setCell ⟨w.heap.size, 0, none⟩ (.slice vq n vc)).setCell ⟨w.heap.size + 1, 0, none⟩ (.bool true)).heap[D]? = some (.deferred (some [])) := by
      have l1 := lt_of_some HK.out
      rw [t2.block D (Nat.lt_of_lt_of_le l1 t1.size) (by omega), t1.block D l1 (by omega)]
      exact HK.out
    have sz : A.heap.size ≤ ((A.setCell ⟨w.heap.size, 0, none⟩ (.slice vq n vc)).setCell ⟨w.heap.size + 1, 0, none⟩ (.bool true)).heap.size := Nat.le_trans t1.size t2.size
    have FIN : Hid (∀ V : World, V = ((A.setCell ⟨w.heap.size, 0, none⟩ (.slice vq n vc)).setCell ⟨w.heap.size + 1, 0, none⟩ (.bool true)) → V.heap[D]? = some (.deferred (some [])) ∧ (V.putObj D (.deferred none)).cell? ⟨w.heap.size, 0, none⟩ = some (.slice vq n vc) ∧ (V.putObj D (.deferred none)).cell? ⟨w.heap.size + 1, 0, none⟩ = some (.bool true) ∧ WPoly (V.putObj D (.deferred none)) w.heap.size (V.putObj D (.deferred none)).heap.size (.slice vq n vc) L ∧ Below w.heap.size w (V.putObj D (.deferred none))) := fun V eV => by
      subst eV
      have hm : Mild w.heap.size _ _ := Mild.put (.deferred none) (by omega) yD rfl
      exact ⟨yD, hm.cell y2.cell, hm.cell y3.cell, (W2.mild hm).wide (by omega) (by rw [World.putObj_size]; exact sz), Mild.below yB hm (Nat.le_refl _)⟩
    rw [← en] at FIN
    rw [← en] at c4
    clear en WP0 t1 t2 W1 W2 y2 y3 yB hD2 yD sz
    gi_wp2
    generalize hV : ((A.setCell ⟨w.heap.size, 0, none⟩ (.slice vq xs.length vc)).setCell ⟨w.heap.size + 1, 0, none⟩ (.bool true)) = V
    obtain ⟨z1, z2, z3, z4, z5⟩ := FIN.out V hV.symm
    refine ⟨by simp, .inl ⟨_, _, rfl, run_takeDeferred z1, ?_⟩⟩
    exact ⟨.tuple #[.agg #[.slice vq xs.length vc], .bool true], by simp [results, Tryz.results32, go_sem, z2, z3], _, _, _, by rw [ft.out.1], by rw [ft.out.2]; exact z4, z5⟩
  · rintro D pre A hD ⟨q2, q3, hf, hB⟩ hK
    have hm : Mild w.heap.size A (A.putObj D (.deferred none)) := Mild.put (.deferred none) (by rw [HSZ.out] at hD; omega) hK rfl
    have z2 := hm.cell q2.cell
    have z3 := hm.cell q3.cell
    have fp : fitP L = [] := by unfold fitP; rw [if_neg (by rw [hf]; decide)]
    refine ⟨by simp, .inl ⟨_, _, rfl, run_takeDeferred hK, ?_⟩⟩
    exact ⟨.tuple #[.agg #[.slice none 0 0], .bool false], by simp [results, Tryz.results32, go_sem, z2, z3], none, 0, 0, by rw [hf], by rw [fp]; exact WPoly.nil _ _ _, Mild.below hB hm (Nat.le_refl _)⟩
end Go.Proofs.YtckhfpaicnjknaaGreat.Pol
