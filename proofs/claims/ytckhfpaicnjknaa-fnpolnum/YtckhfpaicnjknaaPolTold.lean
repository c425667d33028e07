/-
  The sum of all parts: the program's told.
-/
import Derived.Test.YtckhfpaicnjknaaPolIt
namespace Go.Proofs.Ytckhfpaicnjknaa.Pol
set_option linter.unusedVariables false
open Go.ChangeShapes Go.WideShapes Go.ChangeAt Go.RowKit Go.Shelf IntS Rng
attribute [local go_sem] Oper.semAt_some
theorem wpListIn_pushM {F : Fence} {n : Nat} {w : World} {ops : Array Oper} {rest : List Oper} {o : Oper} {a : Act} {Q : Exit → Act → World → Prop} (hgd : o.guard = none) (s x : Operand)
    (ho : o.op = .call { callee := .builtin .append, args := #[s, x], argTypes := #[23, 23] })
    (lo : Nat) (v : Value) (cs : List (Int × Value)) (hs : a.eval s = v) (hown : OwnM w lo v cs) (hlo : lo ≤ w.heap.size)
    (ad : Addr) (c : Int) (q : Option Addr) (m k : Nat) (hx : a.eval x = .slice (some ad) 1 1) (hc : w.cell? (ad.add 0) = some (.int .i64 c)) (hc2 : w.cell? (ad.add 1) = some (.slice q m k)) (hl : cs.length ≤ 1000000)
    (h : ∀ (G cap : Nat) (w' : World), Hid (OwnM w' lo (.slice (some ⟨G, 0, none⟩) (cs.length + 1) cap) (cs ++ [(c, .slice q m k)])) → Hid (Below lo w w') → Hid (∀ (k : Nat) (o : Obj), w.heap[k]? = some o → (∀ cs z, o ≠ Obj.cells cs 59 z) → w'.heap[k]? = some o) → wpListIn F n Try.prog ops Q rest (a.put o.dst (.slice (some ⟨G, 0, none⟩) (cs.length + 1) cap)) w') : wpListIn F n Try.prog ops Q (o :: rest) a w := by
  obtain ⟨i, hi, hz, hsz, hby⟩ := infoMono
  have hlt := World.ownsRow.lt hown
  refine wpListIn_append_own w hgd s x 23 ho lo 59 i _ 2 32 Try.underlying23 hi hz hsz hby rfl (by decide) v cs.length (flat cs) hs hown ad 1 1 [.int .i64 c, .slice q m k] hx rfl (fun j u hu => ?_) (fun u hu => by simp at hu; rcases hu with rfl | rfl <;> rfl) (by unfold maxLen; omega) (by omega) hlo fun v' w' h1 h2 h3 => ?_
  · match j, hu with
    | 0, hu => cases hu; exact hc
    | 1, hu => cases hu; exact hc2
    | j + 2, hu => simp at hu
  · have e : flat cs ++ [.int .i64 c, .slice q m k] = flat (cs ++ [(c, .slice q m k)]) := by rw [flat_app]; rfl
    rw [e] at h1
    have g1 : OwnM w' lo v' (cs ++ [(c, .slice q m k)]) := by
      unfold OwnM
      rw [List.length_append]
      exact h1
    obtain ⟨G, cap, rfl⟩ := g1.form (fun e2 => by have := (h3.1 e2).2; omega)
    rw [List.length_append] at g1
    have hb : Below lo w w' := (Below.refl lo w).grown h2 hlo (fun k e => (hlt k e).1)
    have hkeep : ∀ (k : Nat) (o : Obj), w.heap[k]? = some o → (∀ cs z, o ≠ Obj.cells cs 59 z) → w'.heap[k]? = some o := fun k o hk ht => by
      rw [h2.block k (lt_of_some hk) ?_]
      · exact hk
      · intro e
        obtain ⟨_, h0 | ⟨g, cap, cur, hv, _, hh, _⟩⟩ := hown
        · rw [h0.1] at e; simp [Value.ownBlock] at e
        · rw [hv] at e
          obtain rfl : k = g := by simpa [Value.ownBlock] using e
          rw [hk] at hh
          cases hh
          exact ht _ _ rfl
    have := h G cap w' g1 hb hkeep
    simpa [List.length_append] using this
theorem MapOf.same {w w' : World} {b : Nat} {es : List Mono} (h : MapOf w b es) (hs : w'.heap[b]? = w.heap[b]?) : MapOf w' b es := by
  obtain ⟨nn, D, h1, h2⟩ := h
  refine ⟨nn, D, ?_, h2⟩
  obtain ⟨e, clock, hb, F, hs2, hD⟩ := h1
  exact ⟨e, clock, hs.trans hb, F, hs2, hD⟩
def Part.cell (p : Part) : Int × Value := (p.c, .slice p.q p.m p.k)
/-- What the call has told so far. N: the heap's size when it began. -/
structure TellP (w : World) (b : Nat) (es L : List Mono) (pre : List Part) (A : World) : Prop where
  bw : Below w.heap.size w A
  r2 : Boxed A w.heap.size 25 (.slice none 0 0)
  r3 : Boxed A (w.heap.size + 1) 4 (.bool false)
  r4 : ∃ vq vc, Boxed A (w.heap.size + 2) 25 (.slice vq pre.length vc) ∧ OwnM A (w.heap.size + 4) (.slice vq pre.length vc) (pre.map Part.cell)
  bx : Boxed A (w.heap.size + 3) 56 (.map (some b))
  mp : MapOf A b es
  rows : ∀ p ∈ pre, IntS.Own A (w.heap.size + 4) (.slice p.q p.m p.k) p.at_
  apart : ∀ (i j : Nat) p r, i < j → pre[i]? = some p → pre[j]? = some r → ∀ a a', p.q = some a → r.q = some a' → a.block < a'.block
  pf : pre.map Part.mono <+: L
  many : pre.length ≤ 12
  high : ∀ p ∈ pre, p.at_.length ≤ 4
  lo : w.heap.size + 4 ≤ A.heap.size
theorem TellP.mild {w A A' : World} {b : Nat} {es L : List Mono} {pre : List Part} {B : Nat} (h : TellP w b es L pre A) (hm : Mild B A A') (hB : w.heap.size ≤ B) (hb : b < w.heap.size) : TellP w b es L pre A' :=
  ⟨Mild.below h.bw ⟨hm.os, hm.tape, hm.output, hm.size, fun k hk hl => hm.low k (Nat.lt_of_lt_of_le hk hB) hl, hm.cells⟩ (Nat.le_refl _), Srt.boxed_mild h.r2 hm, Srt.boxed_mild h.r3 hm, let ⟨vq, vc, h1, h2⟩ := h.r4; ⟨vq, vc, Srt.boxed_mild h1 hm, Srt.owns_mild h2 hm⟩, Srt.boxed_mild h.bx hm, h.mp.mild hm (Nat.lt_of_lt_of_le hb hB), fun p hp => Srt.owns_mild (h.rows p hp) hm, h.apart, h.pf, h.many, h.high, Nat.le_trans h.lo hm.size⟩
/-- What holds of a part that was handed over. -/
structure HandP (w : World) (L : List Mono) (pre : List Part) (x : Part) (A : World) : Prop where
  pf : (pre ++ [x]).map Part.mono <+: L
  own : IntS.Own A (w.heap.size + 4) (.slice x.q x.m x.k) x.at_
  last : ∀ p ∈ pre, ∀ a a', p.q = some a → x.q = some a' → a.block < a'.block
theorem HandP.mild {w A A' : World} {L : List Mono} {pre : List Part} {x : Part} {B : Nat} (h : HandP w L pre x A) (hm : Mild B A A') : HandP w L pre x A' := ⟨h.pf, Srt.owns_mild h.own hm, h.last⟩
theorem hand_of {w A₀ A : World} {b : Nat} {es L : List Mono} {pre : List Part} {x : Part} (h : TellP w b es L pre A₀) (hb : Below A₀.heap.size A₀ A) (hf : (pre ++ [x]).map Part.mono <+: L ∧ IntS.Own A A₀.heap.size (.slice x.q x.m x.k) x.at_) : HandP w L pre x A := by
  refine ⟨hf.1, IntS.Own.mono hf.2 h.lo, fun p hp a a' ha ha' => ?_⟩
  have l1 : a.block < A₀.heap.size := by
    obtain ⟨_, h0 | ⟨g, cap, cur, hv, _, hh, _⟩⟩ := h.rows p hp
    · rw [ha] at h0; cases h0.1
    · rw [ha] at hv
      injection hv with e1 _ _
      injection e1 with e2
      rw [e2]
      exact lt_of_some hh
  have l2 : A₀.heap.size ≤ a'.block := by
    obtain ⟨_, h0 | ⟨g, cap, cur, hv, hl, _⟩⟩ := hf.2
    · rw [ha'] at h0; cases h0.1
    · rw [ha'] at hv
      injection hv with e1 _ _
      injection e1 with e2
      rw [e2]
      exact hl
  omega
theorem HandP.len {w A : World} {L : List Mono} {pre : List Part} {x : Part} (h : HandP w L pre x A) : x.m = x.at_.length := by
  obtain ⟨_, h0 | ⟨g, cap, cur, hv, _⟩⟩ := h.own
  · injection h0.1 with _ e _
    rw [e, h0.2]
  · injection hv with _ e _
theorem HandP.at_ {w A : World} {L : List Mono} {pre : List Part} {x : Part} (h : HandP w L pre x A) : L[pre.length]? = some x.mono ∧ pre.length + 1 ≤ L.length := by
  obtain ⟨r, hr⟩ := h.pf
  rw [← hr]
  constructor
  · rw [List.map_append, List.append_assoc, List.getElem?_append_right (by simp)]
    simp
  · simp
theorem TellP.next {w A A' : World} {b G cap : Nat} {es L : List Mono} {pre : List Part} {x : Part} (h : TellP w b es L pre A) (hx : HandP w L pre x A) (hb : b < w.heap.size) (h12 : pre.length < 12) (h4 : x.at_.length ≤ 4)
    (ho : OwnM A' (w.heap.size + 4) (.slice (some ⟨G, 0, none⟩) (pre.length + 1) cap) (pre.map Part.cell ++ [x.cell])) (hB : Below (w.heap.size + 4) A A')
    (hk : ∀ (k : Nat) (o : Obj), A.heap[k]? = some o → (∀ cs z, o ≠ Obj.cells cs 59 z) → A'.heap[k]? = some o) :
    TellP w b es L (pre ++ [x]) (A'.setCell ⟨w.heap.size + 2, 0, none⟩ (.slice (some ⟨G, 0, none⟩) (pre.length + 1) cap)) := by
  obtain ⟨vq, vc, k1, k2⟩ := h.r4
  have box : ∀ {B t v}, Boxed A B t v → t ≠ 59 → Boxed A' B t v := fun hb ht => hk _ _ hb (fun cs z e => ht (by injection e))
  have b4 := box k1 (by decide)
  have tn : Turn (w.heap.size + 2) A' (A'.setCell ⟨w.heap.size + 2, 0, none⟩ (.slice (some ⟨G, 0, none⟩) (pre.length + 1) cap)) := (Turn.refl _ A').setCell (p := ⟨w.heap.size + 2, 0, none⟩) rfl _
  have far : ∀ {B t v}, Boxed A' B t v → B ≠ w.heap.size + 2 → Boxed (A'.setCell ⟨w.heap.size + 2, 0, none⟩ (.slice (some ⟨G, 0, none⟩) (pre.length + 1) cap)) B t v := fun hb hne => (tn.block _ hb.lt hne).trans hb
  have row : ∀ {v xs}, IntS.Own A (w.heap.size + 4) v xs → IntS.Own (A'.setCell ⟨w.heap.size + 2, 0, none⟩ (.slice (some ⟨G, 0, none⟩) (pre.length + 1) cap)) (w.heap.size + 4) v xs := fun hr => by
    obtain ⟨hl, h0 | ⟨g, cp, cur, hv, hb, hh, rest⟩⟩ := hr
    · exact ⟨hl, Or.inl h0⟩
    · have h1 := hk g _ hh (fun cs z e => by injection e with _ e2 _; exact absurd e2 (by decide))
      exact ⟨hl, Or.inr ⟨g, cp, cur, hv, hb, (tn.block g (lt_of_some h1) (by omega)).trans h1, rest⟩⟩
  have lo' : w.heap.size + 4 ≤ A'.heap.size := Nat.le_trans h.lo hB.size
  have f2 := far (box h.r2 (by decide)) (by omega)
  have f3 := far (box h.r3 (by decide)) (by omega)
  have fx := far (box h.bx (by decide)) (by omega)
  have mp' : MapOf A' b es := h.mp.same (hB.block b (by omega))
  have bw' : Below w.heap.size w (A'.setCell ⟨w.heap.size + 2, 0, none⟩ (.slice (some ⟨G, 0, none⟩) (pre.length + 1) cap)) := (h.bw.trans (hB.mono (by omega))).setCell (p := ⟨w.heap.size + 2, 0, none⟩) (by show w.heap.size ≤ w.heap.size + 2; omega) _
  have lo'' : w.heap.size + 4 ≤ (A'.setCell ⟨w.heap.size + 2, 0, none⟩ (.slice (some ⟨G, 0, none⟩) (pre.length + 1) cap)).heap.size := Nat.le_trans lo' tn.size
  refine ⟨bw', f2, f3, ⟨some ⟨G, 0, none⟩, cap, ?_, ?_⟩, fx, mp'.turn tn (by omega), fun p hp => ?_, fun i j p r hij hi hj a a' ha ha' => ?_, hx.pf, by simp; omega, fun p hp => ?_, lo''⟩
  · rw [List.length_append]
    exact b4.set _
  · rw [List.length_append, List.map_append]
    refine OwnM.turn ?_ tn (fun G' n c e => ?_)
    · exact ho
    · injection e with e1 _ _
      injection e1 with e2
      injection e2 with e3 _ _
      have := ho.cells.2.2.2.1
      omega
  · rcases List.mem_append.1 hp with hp | hp
    · exact row (h.rows p hp)
    · rw [List.mem_singleton.1 hp]; exact row hx.own
  · have hjl : j < pre.length + 1 := by have := (List.getElem?_eq_some_iff.1 hj).1; simpa using this
    rw [List.getElem?_append_left (by omega)] at hi
    by_cases e : j < pre.length
    · rw [List.getElem?_append_left e] at hj
      exact h.apart i j p r hij hi hj a a' ha ha'
    · obtain rfl : j = pre.length := by omega
      have : r = x := by simpa using hj.symm
      subst this
      exact hx.last p (List.mem_of_getElem? hi) a a' ha ha'
  · rcases List.mem_append.1 hp with hp | hp
    · exact h.high p hp
    · rw [List.mem_singleton.1 hp]; exact h4
theorem frozen_mild {B : Nat} {A A' : World} (h : Mild B A A') {a : Addr} {v : Value} (hc : A.cell? a = some v) (hf : A.frozen? a = false) : A'.frozen? a = false := by
  unfold World.cell? at hc
  unfold World.frozen? at hf ⊢
  cases ho : A.heap[a.block]? with
  | none => simp [ho] at hc
  | some o =>
    cases o with
    | cells cs t z => rw [h.cells _ _ _ _ ho]; simpa [ho] using hf
    | _ => simp [ho] at hc
theorem wrow_mild {B b : Nat} {A A' : World} {v : Value} {xs : List Int} (h : WRow A b v xs) (hm : Mild B A A') : WRow A' b v xs := by
  obtain ⟨a, cap, off, h1, h2, h3, hz, h4⟩ := h
  refine ⟨a, cap, off, h1, h2, h3, hz, h4.imp id fun ⟨e1, e2, e3⟩ => ⟨e1, Nat.lt_of_lt_of_le e2 hm.size, fun i x hx => ?_⟩⟩
  obtain ⟨k1, k2⟩ := e3 i x hx
  exact ⟨hm.cell k1, frozen_mild hm k1 k2⟩
theorem WPoly.mild {B lo hi : Nat} {A A' : World} {v : Value} {ps : List Mono} (h : WPoly A lo hi v ps) (hm : Mild B A A') : WPoly A' lo hi v ps := by
  obtain ⟨a, G, cap, g, s, h1, h⟩ := h
  refine ⟨a, G, cap, g, s, h1, h.le, h.mx, h.nl, h.at_.imp id (fun ⟨e1, e2, e3, e4⟩ => ⟨e1, e2, e3, Nat.lt_of_lt_of_le e4 hm.size⟩), fun i x hx => ?_, h.apart⟩
  obtain ⟨k1, k2, k3, k4, k5⟩ := h.cells i x hx
  exact ⟨hm.cell k1, frozen_mild hm k1 k2, hm.cell k3, wrow_mild k4 hm, k5⟩
def Part.blk (p : Part) : Nat := match p.q with
  | some a => a.block
  | none => 0
theorem own_wrow {A : World} {lo : Nat} {p : Part} (h : IntS.Own A lo (.slice p.q p.m p.k) p.at_) : WRow A p.blk (.slice p.q p.m p.k) p.at_ ∧ (p.at_ = [] ∨ ∃ a, p.q = some a ∧ lo ≤ p.blk ∧ p.blk < A.heap.size ∧ IsT A p.blk 3) := by
  by_cases e : (Value.slice p.q p.m p.k) = .slice none 0 0
  · have e0 : p.at_ = [] := by
      obtain ⟨_, h0 | ⟨g, cap, cur, hv, _⟩⟩ := h
      · exact List.length_eq_zero_iff.1 h0.2
      · rw [e] at hv; injection hv with q _ _; cases q
    refine ⟨?_, Or.inl e0⟩
    rw [e, e0]
    exact ⟨none, 0, 0, rfl, Nat.le_refl _, Nat.zero_le _, fun _ => rfl, Or.inl rfl⟩
  · obtain ⟨g, cap, hv, k1, k2, k3⟩ := h.form e
    injection hv with q1 q2 q3
    have eb : p.blk = g := by unfold Part.blk; rw [q1]
    rw [eb]
    refine ⟨k3, Or.inr ⟨_, q1, k1, k2, ?_⟩⟩
    obtain ⟨_, h0 | ⟨g', cap', cur, hv', _, hh, _⟩⟩ := h
    · exact absurd h0.1 e
    · rw [q1] at hv'
      injection hv' with r1 _ _
      injection r1 with r2
      injection r2 with r3 _ _
      rw [r3]
      exact ⟨cur, _, hh⟩
theorem TellP.whole {w A : World} {b : Nat} {es L : List Mono} {xs : List Part} {vq : Option Addr} {vc : Nat} (h : TellP w b es L xs A) (hL : xs.map Part.mono = L) (ho : OwnM A (w.heap.size + 4) (.slice vq xs.length vc) (xs.map Part.cell)) : WPoly A (w.heap.size + 4) A.heap.size (.slice vq xs.length vc) L := by
  have ll : L.length = xs.length := by rw [← hL]; simp
  by_cases hn : (Value.slice vq xs.length vc) = .slice none 0 0
  · have hx : xs = [] := List.length_eq_zero_iff.1 (by injection hn)
    have hl : L = [] := by rw [← hL, hx]; rfl
    rw [hn, hl]
    exact ⟨none, 0, 0, fun _ => 0, fun _ => .slice none 0 0, rfl, Nat.le_refl _, Nat.zero_le _, fun _ => rfl, Or.inl rfl, fun i x hx => by simp at hx, fun i j x y _ hx => by simp at hx⟩
  · obtain ⟨G, cap, e⟩ := ho.form hn
    injection e with e1 e2 e3
    subst e1 e3
    obtain ⟨_, hc, hm, hb, hI, hcells, hsoft⟩ := ho.cells
    have mi : (59 : TypeId) ≠ 3 := by decide
    have part : ∀ (i : Nat) x, L[i]? = some x → ∃ p, xs[i]? = some p ∧ x = p.mono := fun i x hx => by
      rw [← hL, List.getElem?_map] at hx
      cases hp : xs[i]? with
      | none => rw [hp] at hx; cases hx
      | some p => rw [hp] at hx; exact ⟨p, rfl, (Option.some.inj hx).symm⟩
    refine ⟨some ⟨G, 0, none⟩, G, vc, fun i => (xs[i]?.map Part.blk).getD 0, fun i => (xs[i]?.map fun p => Value.slice p.q p.m p.k).getD (.slice none 0 0), by rw [ll], by omega, hm, (fun h => by cases h), Or.inr ⟨rfl, hb, hI.lt, hI.lt⟩, fun i x hx => ?_, fun i j x y hij hx hy => ?_⟩
    · obtain ⟨p, hp, rfl⟩ := part i x hx
      obtain ⟨c1, c2⟩ := hcells i p.cell (by rw [List.getElem?_map, hp]; rfl)
      obtain ⟨k1, k2⟩ := own_wrow (h.rows p (List.mem_of_getElem? hp))
      simp only [hp, Option.map_some, Option.getD_some]
      exact ⟨c1, hsoft _, c2, k1, k2.imp id fun ⟨a, _, q1, q2, q3⟩ => ⟨q1, q2, fun e => IsT.ne hI q3 mi e.symm⟩⟩
    · obtain ⟨p, hp, rfl⟩ := part i x hx
      obtain ⟨r, hr, rfl⟩ := part j y hy
      simp only [hp, hr, Option.map_some, Option.getD_some]
      rcases (own_wrow (h.rows p (List.mem_of_getElem? hp))).2 with q | ⟨a, q, _⟩
      · exact Or.inl q
      · rcases (own_wrow (h.rows r (List.mem_of_getElem? hr))).2 with q' | ⟨a', q', _⟩
        · exact Or.inr (Or.inl q')
        · have := h.apart i j p r hij hp hr a a' q q'
          refine Or.inr (Or.inr (fun e => ?_))
          unfold Part.blk at e
          rw [q, q'] at e
          simp only [] at e
          omega
end Go.Proofs.Ytckhfpaicnjknaa.Pol
