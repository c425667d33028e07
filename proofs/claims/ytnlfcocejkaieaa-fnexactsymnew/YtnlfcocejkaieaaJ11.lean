/-
  Slices of structs of ints, as one list of ints: one that holds a list, one that may be written, one that the call made.
  The registers at the beginning as atoms and as sums: what the specification's SymNew tells.
-/
import Derived.Test.YtnlfcocejkaieaaJ02
import Derived.Test.YtnlfcocejkaieaaJ08
import Derived.Test.YtnlfcocejkaieaaJ09
import Derived.Test.YtnlfcocejkaieaaJ10
namespace Go.Proofs.Ytnlfcocejkaieaa.Flat
set_option linter.unusedVariables false
open Go Go.ChangeShapes Go.WideShapes Go.ChangeAt Go.RowKit IntS Push
/-- A slice of n structs of c ints each that holds these, one behind the other, in block B. -/
structure FRow (c : Nat) (w : World) (B : Nat) (v : Value) (n : Nat) (fs : List Int) : Prop where
  ex : ∃ a cap off, v = .slice a n cap ∧ n ≤ cap ∧ cap ≤ maxLen ∧ (a = none → cap = 0) ∧ fs.length = n * c ∧ (n = 0 ∨ (a = some ⟨B, off, none⟩ ∧ ∀ (i : Nat) x, fs[i]? = some x → w.cell? ⟨B, off + i, none⟩ = some (.int .i64 x)))
theorem FRow.below {c : Nat} {w w' : World} {B : Nat} {v : Value} {n : Nat} {fs : List Int} (h : FRow c w B v n fs) (hb : Below w.heap.size w w') : FRow c w' B v n fs := by
  obtain ⟨a, cap, off, h1, h2, h3, hz, hl, h4⟩ := h
  exact ⟨a, cap, off, h1, h2, h3, hz, hl, h4.imp id fun ⟨e, q⟩ => ⟨e, fun i x hx => cell_below hb (q i x hx)⟩⟩
theorem FRow.drew {c : Nat} {w : World} {B : Nat} {v : Value} {n : Nat} {fs : List Int} (h : FRow c w B v n fs) : FRow c w.drew B v n fs := h.below (Below.refl _ _).drew
/-- One that may be written. -/
structure WFRow (c : Nat) (w : World) (B : Nat) (v : Value) (n : Nat) (fs : List Int) : Prop where
  ex : ∃ a cap off, v = .slice a n cap ∧ n ≤ cap ∧ cap ≤ maxLen ∧ (a = none → cap = 0) ∧ fs.length = n * c ∧ (n = 0 ∨ (a = some ⟨B, off, none⟩ ∧ B < w.heap.size ∧ ∀ (i : Nat) x, fs[i]? = some x → w.cell? ⟨B, off + i, none⟩ = some (.int .i64 x) ∧ w.frozen? ⟨B, off + i, none⟩ = false))
theorem WFRow.row {c : Nat} {w : World} {B : Nat} {v : Value} {n : Nat} {fs : List Int} (h : WFRow c w B v n fs) : FRow c w B v n fs := by
  obtain ⟨a, cap, off, h1, h2, h3, hz, hl, h4⟩ := h
  exact ⟨a, cap, off, h1, h2, h3, hz, hl, h4.imp id fun ⟨e, _, q⟩ => ⟨e, fun i x hx => (q i x hx).1⟩⟩
theorem WFRow.turn {c : Nat} {w w' : World} {B B' : Nat} {v : Value} {n : Nat} {fs : List Int} (h : WFRow c w B v n fs) (ht : Turn B' w w') (hB : B ≠ B') : WFRow c w' B v n fs := by
  obtain ⟨a, cap, off, h1, h2, h3, hz, hl, h4⟩ := h
  exact ⟨a, cap, off, h1, h2, h3, hz, hl, h4.imp id fun ⟨e, l, q⟩ => ⟨e, Nat.lt_of_lt_of_le l ht.size, fun i x hx => ⟨(ht.cell (p := ⟨B, off + i, none⟩) l hB).trans (q i x hx).1, (ht.frozen (p := ⟨B, off + i, none⟩) l hB).trans (q i x hx).2⟩⟩⟩
theorem WFRow.below {c : Nat} {w w' : World} {B : Nat} {v : Value} {n : Nat} {fs : List Int} (h : WFRow c w B v n fs) (hb : Below w.heap.size w w') : WFRow c w' B v n fs := h.turn (B' := B + 1) (Turn.of_below hb) (by omega)
/-- Marked up to its end. -/
theorem marked_whole {c : Nat} {w u : World} {B off n cap : Nat} {k : Int} (h : Marked w B off (n * c) k (n * c) u) (h2 : n ≤ cap) (h3 : cap ≤ maxLen) : WFRow c u B (.slice (some ⟨B, off, none⟩) n cap) n (marks k (n * c)) := by
  refine ⟨some ⟨B, off, none⟩, cap, off, rfl, h2, h3, (fun h => by cases h), marks_len _ _, Or.inr ⟨rfl, h.lt, fun i x hx => ?_⟩⟩
  have hi : i < n * c := by
    have := (List.getElem?_eq_some_iff.1 hx).1
    rwa [marks_len] at this
  rw [marks_at hi] at hx
  obtain rfl := Option.some.inj hx
  exact ⟨h.done i hi, h.soft i hi⟩
theorem marked_new {c : Nat} {w : World} {B off n : Nat} {k : Int} {fs : List Int} (hl : fs.length = n * c) (hB : B < w.heap.size) (h : ∀ (i : Nat) x, fs[i]? = some x → w.cell? ⟨B, off + i, none⟩ = some (.int .i64 x) ∧ w.frozen? ⟨B, off + i, none⟩ = false) : Marked w B off (n * c) k 0 w :=
  ⟨Turn.refl _ _, hB, fun i hi => by omega, fun i _ hi => ⟨_, (h i _ (List.getElem?_eq_getElem (by rw [hl]; exact hi))).1⟩, fun i hi => (h i _ (List.getElem?_eq_getElem (by rw [hl]; exact hi))).2⟩
/-- Filled up to its end. -/
theorem filled_whole {c : Nat} {w u : World} {n : Nat} {fs : List Int} (h : Filled w (n * c) fs (n * c) u) (hl : fs.length = n * c) (hm : n ≤ maxLen) : WFRow c u w.heap.size (.slice (some ⟨w.heap.size, 0, none⟩) n n) n fs := by
  refine ⟨some ⟨w.heap.size, 0, none⟩, n, 0, rfl, Nat.le_refl _, hm, (fun h => by cases h), hl, Or.inr ⟨rfl, h.lt, fun i x hx => ?_⟩⟩
  have hi : i < n * c := by rw [← hl]; exact (List.getElem?_eq_some_iff.1 hx).1
  rw [Nat.zero_add]
  exact ⟨h.done i x hi hx, h.soft i hi⟩
theorem Filled.grow {w u u' : World} {n j : Nat} {xs : List Int} (h : Filled w n xs j u) (hb : Below u.heap.size u u') : Filled w n xs j u' := by
  refine ⟨h.below.trans (hb.mono h.below.size), Nat.lt_of_lt_of_le h.lt hb.size, fun i x hi hx => cell_below hb (h.done i x hi hx), fun i hi => ?_, fun i hi => ?_⟩
  · obtain ⟨y, hy⟩ := h.left i hi
    exact ⟨y, cell_below hb hy⟩
  · rw [World.frozen?_of_block (w := u) (a := ⟨w.heap.size, i, none⟩) (hb.block w.heap.size h.lt)]
    exact h.soft i hi
/-- A slice that the call made, from block lo on. -/
def OwnF (t : TypeId) (c : Nat) (w : World) (lo : Nat) (v : Value) (n : Nat) (fs : List Int) : Prop := w.ownsRow lo t c v n (vals fs)
theorem OwnF.len {t : TypeId} {c : Nat} {w : World} {lo : Nat} {v : Value} {n : Nat} {fs : List Int} (h : OwnF t c w lo v n fs) : fs.length = n * c := by
  have := h.1
  rwa [vals_len] at this
theorem OwnF.nil (t : TypeId) (c : Nat) (w : World) (lo : Nat) : OwnF t c w lo (.slice none 0 0) 0 [] := ⟨by simp [vals], Or.inl ⟨rfl, rfl⟩⟩
theorem OwnF.form {t : TypeId} {c : Nat} {w : World} {lo : Nat} {v : Value} {n : Nat} {fs : List Int} (h : OwnF t c w lo v n fs) : (v = .slice none 0 0 ∧ n = 0 ∧ fs = []) ∨ ∃ g cap, v = .slice (some ⟨g, 0, none⟩) n cap ∧ lo ≤ g ∧ g < w.heap.size ∧ WFRow c w g v n fs := by
  have hlen := h.len
  obtain ⟨hl, h0 | ⟨g, cap, cur, hv, hb, hg, hle, hm, hc, ht⟩⟩ := h
  · obtain ⟨h1, rfl⟩ := h0
    exact Or.inl ⟨h1, rfl, List.length_eq_zero_iff.1 (by rw [hlen]; omega)⟩
  · have hlt : g < w.heap.size := by
      rcases Nat.lt_or_ge g w.heap.size with h' | h'
      · exact h'
      · rw [Array.getElem?_eq_none h'] at hg; cases hg
    refine Or.inr ⟨g, cap, hv, hb, hlt, ⟨some ⟨g, 0, none⟩, cap, 0, hv, hle, hm, (fun h => by cases h), hlen, Or.inr ⟨rfl, hlt, fun i x hx => ?_⟩⟩⟩
    have hi : i < n * c := by rw [← hlen]; exact (List.getElem?_eq_some_iff.1 hx).1
    have h1 : cur.toList[i]? = some (.int .i64 x) := by
      have e1 : (cur.toList.take (n * c))[i]? = cur.toList[i]? := by rw [List.getElem?_take_of_lt hi]
      rw [← e1, ht]
      simp [vals, List.getElem?_map, hx]
    have h2 : cur[i]? = some (.int .i64 x) := by rw [← Array.getElem?_toList]; exact h1
    rw [Nat.zero_add]
    constructor
    · unfold World.cell?
      simp [hg, h2]
    · unfold World.frozen?
      simp [hg]
/-- It may be read, and it may be written, in some block. -/
theorem OwnF.wrow {t : TypeId} {c : Nat} {w : World} {lo : Nat} {v : Value} {n : Nat} {fs : List Int} (h : OwnF t c w lo v n fs) (N : Nat) (hN : lo ≤ N) : ∃ B, WFRow c w B v n fs ∧ lo ≤ B ∧ (B = N ∨ B < w.heap.size) := by
  rcases h.form with ⟨rfl, rfl, rfl⟩ | ⟨g, cap, rfl, h1, h2, h3⟩
  · exact ⟨N, ⟨none, 0, 0, rfl, Nat.le_refl _, by unfold maxLen; omega, fun _ => rfl, by simp, Or.inl rfl⟩, hN, Or.inl rfl⟩
  · exact ⟨g, h3, h1, Or.inr h2⟩
theorem OwnF.frow {t : TypeId} {c : Nat} {w : World} {lo : Nat} {v : Value} {n : Nat} {fs : List Int} (h : OwnF t c w lo v n fs) : ∃ B, FRow c w B v n fs := by
  obtain ⟨B, h1, _⟩ := h.wrow lo (Nat.le_refl _)
  exact ⟨B, h1.row⟩
theorem OwnF.turn {t : TypeId} {c : Nat} {w w' : World} {lo : Nat} {v : Value} {n : Nat} {fs : List Int} {B : Nat} (h : OwnF t c w lo v n fs) (ht : Turn B w w') (hB : B < lo ∨ w.heap.size ≤ B) : OwnF t c w' lo v n fs := owns_turn h ht hB
theorem OwnF.below {t : TypeId} {c : Nat} {w w' : World} {lo : Nat} {v : Value} {n : Nat} {fs : List Int} (h : OwnF t c w lo v n fs) (hb : Below w.heap.size w w') : OwnF t c w' lo v n fs := h.turn (B := w.heap.size) (Turn.of_below hb) (Or.inr (Nat.le_refl _))
theorem OwnF.mono {t : TypeId} {c : Nat} {w : World} {lo lo' : Nat} {v : Value} {n : Nat} {fs : List Int} (h : OwnF t c w lo v n fs) (hl : lo' ≤ lo) : OwnF t c w lo' v n fs := owns_mono h hl
theorem OwnF.apart {t : TypeId} {c : Nat} {w w' : World} {lo : Nat} {q : Option Addr} {n cap : Nat} {fs : List Int} {B : Nat} (h : OwnF t c w lo (.slice q n cap) n fs) (ht : Turn B w w') (hB : ∀ G, q = some ⟨G, 0, none⟩ → G ≠ B) : OwnF t c w' lo (.slice q n cap) n fs := by
  obtain ⟨h1, h0 | ⟨g, cap', cur, hv, hb, hh, rest⟩⟩ := h
  · exact ⟨h1, Or.inl h0⟩
  · have hg : g < w.heap.size := by rcases Nat.lt_or_ge g w.heap.size with h' | h'; exact h'; rw [Array.getElem?_eq_none h'] at hh; cases hh
    cases hv
    exact ⟨h1, Or.inr ⟨g, cap, cur, rfl, hb, (ht.block g hg (hB g rfl)).trans hh, rest⟩⟩
theorem OwnF.q_lt {t : TypeId} {c : Nat} {w : World} {lo : Nat} {q : Option Addr} {n cap : Nat} {fs : List Int} (h : OwnF t c w lo (.slice q n cap) n fs) {G : Nat} (e : q = some ⟨G, 0, none⟩) : lo ≤ G ∧ G < w.heap.size := by
  subst e
  have := owns_lt h
  exact ⟨this.1, this.2.1⟩
theorem OwnF.q_form {t : TypeId} {c : Nat} {w : World} {lo : Nat} {q : Option Addr} {n cap : Nat} {fs : List Int} (h : OwnF t c w lo (.slice q n cap) n fs) : (q = none ∧ cap = 0 ∧ n = 0 ∧ fs = []) ∨ ∃ G, q = some ⟨G, 0, none⟩ := by
  rcases h.form with ⟨h1, h2, h3⟩ | ⟨g, cap', h1, _⟩
  · cases h1
    exact Or.inl ⟨rfl, rfl, rfl, h3⟩
  · cases h1
    exact Or.inr ⟨g, rfl⟩
/-- The block that an append onto it may turn. -/
theorem grown_turn {w w' : World} {q : Option Addr} {n cap : Nat} (gr : w.grownBy w' (Value.slice q n cap).ownBlock) (hq : q = none ∨ ∃ G, q = some ⟨G, 0, none⟩) : ∃ T, Turn T w w' ∧ (q = some ⟨T, 0, none⟩ ∨ T = w.heap.size) := by
  rcases hq with rfl | ⟨G, rfl⟩
  · exact ⟨w.heap.size, ⟨gr.os, gr.tape, gr.output, gr.size, fun k hk _ => gr.block k hk (by simp [Value.ownBlock])⟩, Or.inr rfl⟩
  · exact ⟨G, Turn.of_grown gr, Or.inl rfl⟩
/-- The append as an operation of a plain region. -/
theorem push_list {P : Program} {w w' : World} {ops : Array Oper} {rest : List Oper} {o : Oper} {a : Act} {Q : Exit → Act → World → Prop} {t : TypeId} (hgd : o.guard = none) (s x : Operand) (ho : o.op = .call { callee := .builtin .append, args := #[s, x], argTypes := #[t, t] }) {v v' y : Value} (hs : a.eval s = v) (hx : a.eval x = y)
    (hr : (Builtin.append_ #[t, t] o.type #[v, y]).run P w = .ok v' w') (h : wpList P ops Q rest (a.put o.dst v') w') : wpList P ops Q (o :: rest) a w := by
  refine wpList_plain hgd fun K hK => ?_
  have hh := hK _ _ h
  unfold Oper.wp
  simp [execOp, ho, resolve, invoke, builtin, hs, hx, hr, Result.andThen]
  simpa [Oper.upon] using hh
/-- One struct of ints more. -/
theorem run_flat {P : Program} {w : World} {lo cap : Nat} {q : Option Addr} {n : Nat} {fs : List Int} (t ty e : TypeId) (i : TypeInfo) (z : Value) (c bytes : Nat) (ht : P.underlying t = some (.slice e)) (hi : P.info? e = some i) (hz : i.zero = some z) (hsize : i.size = c) (hby : i.bytes = bytes) (hzs : z.cells.size = c) (hc : 0 < c) (hbm : bytes ≤ 40)
    (hown : OwnF e c w lo (.slice q n cap) n fs) (hn : n ≤ 1000000000000) (hlo : lo ≤ w.heap.size) (ad : Addr) (ys : List Int) (hl : ys.length = c) (hys : ∀ j x, ys[j]? = some x → w.cell? (ad.add j) = some (.int .i64 x)) :
    ∃ g' cap' w', (Builtin.append_ #[t, t] ty #[.slice q n cap, .slice (some ad) 1 1]).run P w = .ok (.slice (some ⟨g', 0, none⟩) (n + 1) cap') w' ∧ OwnF e c w' lo (.slice (some ⟨g', 0, none⟩) (n + 1) cap') (n + 1) (fs ++ ys) ∧ ((Value.slice q n cap).ownBlock = some g' ∨ w.heap.size ≤ g') ∧ g' < w'.heap.size ∧ w.grownBy w' (Value.slice q n cap).ownBlock := by
  obtain ⟨g', cap', w', h1, h2, h3, h4, h5⟩ := run_push (P := P) (w := w) lo t ty e i z c bytes ht hi hz hsize hby hzs hc _ n (vals fs) hown ad (vals ys) (by rw [vals_len, hl]) (fun j u hu => by
    simp only [vals, List.getElem?_map, Option.map_eq_some_iff] at hu
    obtain ⟨y, hy, rfl⟩ := hu
    exact hys j y hy) (fun u hu => by
    obtain ⟨y, _, rfl⟩ := List.mem_map.1 hu
    rfl) (by unfold maxLen; omega) (by
    have := Nat.mul_le_mul_left (n + 1) hbm
    omega) hlo
  refine ⟨g', cap', w', h1, ?_, h3, h4, h5⟩
  unfold OwnF
  rw [show vals (fs ++ ys) = vals fs ++ vals ys by simp [vals]]
  exact h2
end Go.Proofs.Ytnlfcocejkaieaa.Flat
namespace Go.Proofs.Ytnlfcocejkaieaa.Sym
set_option linter.unusedVariables false
set_option linter.unusedSimpArgs false
open Go.ChangeShapes Go.WideShapes Go.ChangeAt Go.RowKit IntS Pol Tab
theorem owns_keep {w w' : World} {base n len : Nat} {t : TypeId} {v : Value} {vs : List Value} (h : w.ownsRow base t n v len vs) (hk : ∀ g k c, v = .slice (some ⟨g, 0, none⟩) k c → w'.heap[g]? = w.heap[g]?) : w'.ownsRow base t n v len vs := by
  obtain ⟨hl, h0 | ⟨g', cap', cur, hv, hb, hh, rest⟩⟩ := h
  · exact ⟨hl, Or.inl h0⟩
  · exact ⟨hl, Or.inr ⟨g', cap', cur, hv, hb, (hk g' _ _ hv).trans hh, rest⟩⟩
/-- The registers' atoms, so many of them. -/
def regA (i : Nat) : At := ⟨1, (i : Int), [], []⟩
def regsA (k : Nat) : List At := (List.range k).map regA
def regC (k : Nat) : List C4 := (List.range k).map fun i : Nat => ⟨1, (i : Int), .slice none 0 0, .slice none 0 0⟩
def regsS (k : Nat) : List (List Mono) := (List.range k).map fun i : Nat => atomP (i : Int)
theorem regC_len (k : Nat) : (regC k).length = k := by simp [regC]
theorem regsS_len (k : Nat) : (regsS k).length = k := by simp [regsS]
theorem regC_next (k : Nat) : regC k ++ [⟨1, (k : Int), .slice none 0 0, .slice none 0 0⟩] = regC (k + 1) := by simp [regC, List.range_succ]
theorem regsS_next (k : Nat) : regsS k ++ [atomP (k : Int)] = regsS (k + 1) := by simp [regsS, List.range_succ]
theorem OSums.apart {w w' : World} {lo cap T : Nat} {q : Option Addr} {ss : List Value} {l h : Nat → Nat} {qs : List (List Mono)} (H : OSums w lo q cap ss l h qs) (ht : Turn T w w') (h1 : ∀ G, q = some ⟨G, 0, none⟩ → G ≠ T) (h2 : ∀ i, i < qs.length → T < l i ∨ h i ≤ T) : OSums w' lo q cap ss l h qs := by
  refine ⟨owns_keep H.own (fun g k c e => ?_), H.len, fun i p hi => ?_, H.inc⟩
  · cases e
    exact ht.block g (H.q_lt rfl).2 (h1 g rfl)
  · obtain ⟨s, k1, k2, k4, k5, k7, k8⟩ := H.rows i p hi
    have := h2 i (List.getElem?_eq_some_iff.1 hi).1
    exact ⟨s, k1, k2.keep (Keep.of_turn ht) (fun b b1 b2 (b3 : b = _) => by omega), k4, k5, Nat.le_trans k7 ht.size, k8⟩
/-- The registers as atoms (so many) and as sums (so many), in slices that the call made. -/
structure Regs (w : World) (lo : Nat) (q : Option Addr) (cap : Nat) (q2 : Option Addr) (cap2 : Nat) (ss : List Value) (l h : Nat → Nat) (k ks : Nat) : Prop where
  a : OwnT w lo (.slice q k cap) (regC k)
  s : OSums w lo q2 cap2 ss l h (regsS ks)
  ne : ∀ G G', q = some ⟨G, 0, none⟩ → q2 = some ⟨G', 0, none⟩ → G ≠ G'
  far : ∀ G, q = some ⟨G, 0, none⟩ → ∀ i, i < ks → G < l i ∨ h i ≤ G
section
variable {w w' u u' : World} {lo cap cap2 k ks : Nat} {q q2 : Option Addr} {ss : List Value} {l h : Nat → Nat}
theorem Regs.q_form (H : Regs w lo q cap q2 cap2 ss l h k ks) : q = none ∨ ∃ G, q = some ⟨G, 0, none⟩ ∧ lo ≤ G ∧ G < w.heap.size := by
  obtain ⟨_, h0 | ⟨g, cap', cur, hv, hb, hh, _⟩⟩ := H.a
  · injection h0.1 with e1
    exact Or.inl e1
  · injection hv with e1
    refine Or.inr ⟨g, e1, hb, ?_⟩
    rcases Nat.lt_or_ge g w.heap.size with hl | hl
    · exact hl
    · rw [Array.getElem?_eq_none hl] at hh
      cases hh
theorem Regs.turn {T : Nat} (H : Regs w lo q cap q2 cap2 ss l h k ks) (ht : Turn T w w') (hT : T < lo ∨ w.heap.size ≤ T) : Regs w' lo q cap q2 cap2 ss l h k ks := by
  refine ⟨owns_keep H.a (fun g k c e => ?_), H.s.turn ht hT, H.ne, H.far⟩
  cases e
  rcases H.q_form with e | ⟨G, e, g1, g2⟩
  · cases e
  · cases e
    exact ht.block g g2 (by omega)
theorem Regs.below (H : Regs w lo q cap q2 cap2 ss l h k ks) (hb : Below w.heap.size w w') : Regs w' lo q cap q2 cap2 ss l h k ks := H.turn (T := w.heap.size) (Turn.of_below hb) (Or.inr (Nat.le_refl _))
theorem block_of {q : Option Addr} {n cap G' : Nat} (hq : q = none ∨ ∃ G, q = some ⟨G, 0, none⟩) (hg : (Value.slice q n cap).ownBlock = some G') : q = some ⟨G', 0, none⟩ := by
  rcases hq with rfl | ⟨G, rfl⟩
  · simp [Value.ownBlock] at hg
  · simp [Value.ownBlock] at hg
    rw [hg]
/-- One more atom. -/
theorem Regs.addA (H : Regs u lo q cap q2 cap2 ss l h k ks) {G' cap' : Nat} (ho : OwnT u' lo (.slice (some ⟨G', 0, none⟩) (k + 1) cap') (regC k ++ [⟨1, (k : Int), .slice none 0 0, .slice none 0 0⟩])) (hg : (Value.slice q k cap).ownBlock = some G' ∨ u.heap.size ≤ G') (gr : u.grownBy u' (Value.slice q k cap).ownBlock) :
    Regs u' lo (some ⟨G', 0, none⟩) cap' q2 cap2 ss l h (k + 1) ks := by
  have hq : q = none ∨ ∃ G, q = some ⟨G, 0, none⟩ := H.q_form.imp id (fun ⟨G, e, _⟩ => ⟨G, e⟩)
  obtain ⟨T, ht, hT⟩ := Flat.grown_turn gr hq
  have gq : q = some ⟨G', 0, none⟩ ∨ u.heap.size ≤ G' := hg.imp (block_of hq) id
  have hh : ∀ i, i < ks → h i ≤ u.heap.size := fun i hi => by
    obtain ⟨p, hp⟩ : ∃ p, (regsS ks)[i]? = some p := ⟨_, List.getElem?_eq_getElem (by rw [regsS_len]; exact hi)⟩
    obtain ⟨_, _, _, _, _, k7, _⟩ := H.s.rows i p hp
    exact k7
  refine ⟨by rw [← regC_next]; exact ho, OSums.apart H.s ht (fun G e e2 => ?_) (fun i hi => ?_), fun G G2 e e2 e3 => ?_, fun G e i hi => ?_⟩
  · rcases hT with hT | hT
    · exact H.ne T G hT e e2.symm
    · have := (H.s.q_lt e).2
      omega
  · rw [regsS_len] at hi
    rcases hT with hT | hT
    · exact H.far T hT i hi
    · exact Or.inr (by rw [hT]; exact hh i hi)
  · obtain rfl : G' = G := by injection e with e1; injection e1
    rcases gq with gq | gq
    · exact H.ne _ G2 gq e2 e3
    · have := (H.s.q_lt e2).2
      omega
  · obtain rfl : G' = G := by injection e with e1; injection e1
    rcases gq with gq | gq
    · exact H.far _ gq i hi
    · exact Or.inr (Nat.le_trans (hh i hi) gq)
/-- One more sum. -/
theorem Regs.addS (H : Regs u lo q cap q2 cap2 ss l h k ks) {s : Value} {lx hx : Nat} (wx : WPoly u lx hx s (atomP (ks : Int))) (h1 : lo ≤ lx) (h2 : lx ≤ hx) (h4 : hx ≤ u.heap.size) (hl : ∀ i, i < ks → h i ≤ lx) (hq : ∀ G, q2 = some ⟨G, 0, none⟩ → G < lx) (hq1 : ∀ G, q = some ⟨G, 0, none⟩ → G < lx)
    {G' cap' : Nat} (ho : OwnS u' lo (.slice (some ⟨G', 0, none⟩) (ks + 1) cap') (ss ++ [s])) (hg : (Value.slice q2 ks cap2).ownBlock = some G' ∨ u.heap.size ≤ G') (gr : u.grownBy u' (Value.slice q2 ks cap2).ownBlock) :
    Regs u' lo q cap (some ⟨G', 0, none⟩) cap' (ss ++ [s]) (fun i => if i < ks then l i else lx) (fun i => if i < ks then h i else hx) k (ks + 1) := by
  have el := regsS_len ks
  have hf : q2 = none ∨ ∃ G, q2 = some ⟨G, 0, none⟩ := H.s.q_form.imp (fun e => e.1) id
  obtain ⟨T, ht, hT⟩ := Flat.grown_turn gr hf
  have gq : q2 = some ⟨G', 0, none⟩ ∨ u.heap.size ≤ G' := hg.imp (block_of hf) id
  have NX := H.s.next wx h1 h2 h4 (by rw [el]; exact hl) hq (by rw [el]; exact ho) (by rw [el]; exact hg) (by rw [el]; exact gr)
  rw [regsS_next, el] at NX
  refine ⟨owns_keep H.a (fun g k c e => ?_), NX, fun G G2 e e2 e3 => ?_, fun G e i hi => ?_⟩
  · cases e
    rcases H.q_form with e | ⟨G, e, g1, g2⟩
    · cases e
    · cases e
      refine ht.block g g2 (fun e3 => ?_)
      rcases hT with hT | hT
      · exact H.ne g T rfl hT e3
      · omega
  · obtain rfl : G' = G2 := by injection e2 with e1; injection e1
    rcases gq with gq | gq
    · exact H.ne G _ e gq e3
    · rcases H.q_form with e4 | ⟨G4, e4, _, g4⟩
      · rw [e] at e4; cases e4
      · rw [e] at e4
        injection e4 with e5
        injection e5 with e6
        omega
  · by_cases e4 : i < ks
    · simp only [if_pos e4]
      exact H.far G e i e4
    · simp only [if_neg e4]
      exact Or.inl (hq1 G e)
end
end Go.Proofs.Ytnlfcocejkaieaa.Sym
