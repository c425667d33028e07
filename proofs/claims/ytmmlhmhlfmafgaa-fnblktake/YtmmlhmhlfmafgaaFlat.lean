/-
  Slices of structs of ints, as one list of ints: one that holds a list, one that may be written, one that the call made.
-/
import Derived.Test.YtmmlhmhlfmafgaaPush
namespace Go.Proofs.Ytmmlhmhlfmafgaa.Flat
set_option linter.unusedVariables false
open Go Go.ChangeShapes Go.WideShapes Go.ChangeAt Go.RowKit IntS Push
/-- A slice of n structs of c ints each that holds these, one behind the other, in block B. -/
structure FRow (c : Nat) (w : World) (B : Nat) (v : Value) (n : Nat) (fs : List Int) : Prop where
  ex : ∃ a cap off, v = .slice a n cap ∧ n ≤ cap ∧ cap ≤ maxLen ∧ (a = none → cap = 0) ∧ fs.length = n * c ∧ (n = 0 ∨ (a = some ⟨B, off, none⟩ ∧ ∀ (i : Nat) x, fs[i]? = some x → w.cell? ⟨B, off + i, none⟩ = some (.int .i64 x)))
theorem FRow.below {c : Nat} {w w' : World} {B : Nat} {v : Value} {n : Nat} {fs : List Int} (h : FRow c w B v n fs) (hb : Below w.heap.size w w') : FRow c w' B v n fs := by
  obtain ⟨a, cap, off, h1, h2, h3, hz, hl, h4⟩ := h
  exact ⟨a, cap, off, h1, h2, h3, hz, hl, h4.imp id fun ⟨e, q⟩ => ⟨e, fun i x hx => cell_below hb (q i x hx)⟩⟩
theorem FRow.drew {c : Nat} {w : World} {B : Nat} {v : Value} {n : Nat} {fs : List Int} (h : FRow c w B v n fs) : FRow c w.drew B v n fs := h.below (Below.refl _ _).drew
/-- One that may be written. -/
structure WFRow (c : Nat) (w : World) (B : Nat) (v : Value) (n : Nat) (fs : List Int) : Prop where
  ex : ∃ a cap off, v = .slice a n cap ∧ n ≤ cap ∧ cap ≤ maxLen ∧ (a = none → cap = 0) ∧ fs.length = n * c ∧ (n = 0 ∨ (a = some ⟨B, off, none⟩ ∧ B < w.heap.size ∧ ∀ (i : Nat) x, fs[i]? = some x → w.cell? ⟨B, off + i, none⟩ = some (.int .i64 x) ∧ w.frozen? ⟨B, off + i, none⟩ = false))
theorem WFRow.row {c : Nat} {w : World} {B : Nat} {v : Value} {n : Nat} {fs : List Int} (h : WFRow c w B v n fs) : FRow c w B v n fs := by
  obtain ⟨a, cap, off, h1, h2, h3, hz, hl, h4⟩ := h
  exact ⟨a, cap, off, h1, h2, h3, hz, hl, h4.imp id fun ⟨e, _, q⟩ => ⟨e, fun i x hx => (q i x hx).1⟩⟩
theorem WFRow.turn {c : Nat} {w w' : World} {B B' : Nat} {v : Value} {n : Nat} {fs : List Int} (h : WFRow c w B v n fs) (ht : Turn B' w w') (hB : B ≠ B') : WFRow c w' B v n fs := by
  obtain ⟨a, cap, off, h1, h2, h3, hz, hl, h4⟩ := h
  exact ⟨a, cap, off, h1, h2, h3, hz, hl, h4.imp id fun ⟨e, l, q⟩ => ⟨e, Nat.lt_of_lt_of_le l ht.size, fun i x hx => ⟨(ht.cell (p := ⟨B, off + i, none⟩) l hB).trans (q i x hx).1, (ht.frozen (p := ⟨B, off + i, none⟩) l hB).trans (q i x hx).2⟩⟩⟩
theorem WFRow.below {c : Nat} {w w' : World} {B : Nat} {v : Value} {n : Nat} {fs : List Int} (h : WFRow c w B v n fs) (hb : Below w.heap.size w w') : WFRow c w' B v n fs := h.turn (B' := B + 1) (Turn.of_below hb) (by omega)
/-- Marked up to its end. -/
theorem marked_whole {c : Nat} {w u : World} {B off n cap : Nat} {k : Int} (h : Marked w B off (n * c) k (n * c) u) (h2 : n ≤ cap) (h3 : cap ≤ maxLen) : WFRow c u B (.slice (some ⟨B, off, none⟩) n cap) n (marks k (n * c)) := by
  refine ⟨some ⟨B, off, none⟩, cap, off, rfl, h2, h3, (fun h => by cases h), marks_len _ _, Or.inr ⟨rfl, h.lt, fun i x hx => ?_⟩⟩
  have hi : i < n * c := by
    have := (List.getElem?_eq_some_iff.1 hx).1
    rwa [marks_len] at this
  rw [marks_at hi] at hx
  obtain rfl := Option.some.inj hx
  exact ⟨h.done i hi, h.soft i hi⟩
theorem marked_new {c : Nat} {w : World} {B off n : Nat} {k : Int} {fs : List Int} (hl : fs.length = n * c) (hB : B < w.heap.size) (h : ∀ (i : Nat) x, fs[i]? = some x → w.cell? ⟨B, off + i, none⟩ = some (.int .i64 x) ∧ w.frozen? ⟨B, off + i, none⟩ = false) : Marked w B off (n * c) k 0 w :=
  ⟨Turn.refl _ _, hB, fun i hi => by omega, fun i _ hi => ⟨_, (h i _ (List.getElem?_eq_getElem (by rw [hl]; exact hi))).1⟩, fun i hi => (h i _ (List.getElem?_eq_getElem (by rw [hl]; exact hi))).2⟩
/-- Filled up to its end. -/
theorem filled_whole {c : Nat} {w u : World} {n : Nat} {fs : List Int} (h : Filled w (n * c) fs (n * c) u) (hl : fs.length = n * c) (hm : n ≤ maxLen) : WFRow c u w.heap.size (.slice (some ⟨w.heap.size, 0, none⟩) n n) n fs := by
  refine ⟨some ⟨w.heap.size, 0, none⟩, n, 0, rfl, Nat.le_refl _, hm, (fun h => by cases h), hl, Or.inr ⟨rfl, h.lt, fun i x hx => ?_⟩⟩
  have hi : i < n * c := by rw [← hl]; exact (List.getElem?_eq_some_iff.1 hx).1
  rw [Nat.zero_add]
  exact ⟨h.done i x hi hx, h.soft i hi⟩
theorem Filled.grow {w u u' : World} {n j : Nat} {xs : List Int} (h : Filled w n xs j u) (hb : Below u.heap.size u u') : Filled w n xs j u' := by
  refine ⟨h.below.trans (hb.mono h.below.size), Nat.lt_of_lt_of_le h.lt hb.size, fun i x hi hx => cell_below hb (h.done i x hi hx), fun i hi => ?_, fun i hi => ?_⟩
  · obtain ⟨y, hy⟩ := h.left i hi
    exact ⟨y, cell_below hb hy⟩
  · rw [World.frozen?_of_block (w := u) (a := ⟨w.heap.size, i, none⟩) (hb.block w.heap.size h.lt)]
    exact h.soft i hi
/-- A slice that the call made, from block lo on. -/
def OwnF (t : TypeId) (c : Nat) (w : World) (lo : Nat) (v : Value) (n : Nat) (fs : List Int) : Prop := w.ownsRow lo t c v n (vals fs)
theorem OwnF.len {t : TypeId} {c : Nat} {w : World} {lo : Nat} {v : Value} {n : Nat} {fs : List Int} (h : OwnF t c w lo v n fs) : fs.length = n * c := by
  have := h.1
  rwa [vals_len] at this
theorem OwnF.nil (t : TypeId) (c : Nat) (w : World) (lo : Nat) : OwnF t c w lo (.slice none 0 0) 0 [] := ⟨by simp [vals], Or.inl ⟨rfl, rfl⟩⟩
theorem OwnF.form {t : TypeId} {c : Nat} {w : World} {lo : Nat} {v : Value} {n : Nat} {fs : List Int} (h : OwnF t c w lo v n fs) : (v = .slice none 0 0 ∧ n = 0 ∧ fs = []) ∨ ∃ g cap, v = .slice (some ⟨g, 0, none⟩) n cap ∧ lo ≤ g ∧ g < w.heap.size ∧ WFRow c w g v n fs := by
  have hlen := h.len
  obtain ⟨hl, h0 | ⟨g, cap, cur, hv, hb, hg, hle, hm, hc, ht⟩⟩ := h
  · obtain ⟨h1, rfl⟩ := h0
    exact Or.inl ⟨h1, rfl, List.length_eq_zero_iff.1 (by rw [hlen]; omega)⟩
  · have hlt : g < w.heap.size := by
      rcases Nat.lt_or_ge g w.heap.size with h' | h'
      · exact h'
      · rw [Array.getElem?_eq_none h'] at hg; cases hg
    refine Or.inr ⟨g, cap, hv, hb, hlt, ⟨some ⟨g, 0, none⟩, cap, 0, hv, hle, hm, (fun h => by cases h), hlen, Or.inr ⟨rfl, hlt, fun i x hx => ?_⟩⟩⟩
    have hi : i < n * c := by rw [← hlen]; exact (List.getElem?_eq_some_iff.1 hx).1
    have h1 : cur.toList[i]? = some (.int .i64 x) := by
      have e1 : (cur.toList.take (n * c))[i]? = cur.toList[i]? := by rw [List.getElem?_take_of_lt hi]
      rw [← e1, ht]
      simp [vals, List.getElem?_map, hx]
    have h2 : cur[i]? = some (.int .i64 x) := by rw [← Array.getElem?_toList]; exact h1
    rw [Nat.zero_add]
    constructor
    · unfold World.cell?
      simp [hg, h2]
    · unfold World.frozen?
      simp [hg]
/-- It may be read, and it may be written, in some block. -/
theorem OwnF.wrow {t : TypeId} {c : Nat} {w : World} {lo : Nat} {v : Value} {n : Nat} {fs : List Int} (h : OwnF t c w lo v n fs) (N : Nat) (hN : lo ≤ N) : ∃ B, WFRow c w B v n fs ∧ lo ≤ B ∧ (B = N ∨ B < w.heap.size) := by
  rcases h.form with ⟨rfl, rfl, rfl⟩ | ⟨g, cap, rfl, h1, h2, h3⟩
  · exact ⟨N, ⟨none, 0, 0, rfl, Nat.le_refl _, by unfold maxLen; omega, fun _ => rfl, by simp, Or.inl rfl⟩, hN, Or.inl rfl⟩
  · exact ⟨g, h3, h1, Or.inr h2⟩
theorem OwnF.frow {t : TypeId} {c : Nat} {w : World} {lo : Nat} {v : Value} {n : Nat} {fs : List Int} (h : OwnF t c w lo v n fs) : ∃ B, FRow c w B v n fs := by
  obtain ⟨B, h1, _⟩ := h.wrow lo (Nat.le_refl _)
  exact ⟨B, h1.row⟩
theorem OwnF.turn {t : TypeId} {c : Nat} {w w' : World} {lo : Nat} {v : Value} {n : Nat} {fs : List Int} {B : Nat} (h : OwnF t c w lo v n fs) (ht : Turn B w w') (hB : B < lo ∨ w.heap.size ≤ B) : OwnF t c w' lo v n fs := owns_turn h ht hB
theorem OwnF.below {t : TypeId} {c : Nat} {w w' : World} {lo : Nat} {v : Value} {n : Nat} {fs : List Int} (h : OwnF t c w lo v n fs) (hb : Below w.heap.size w w') : OwnF t c w' lo v n fs := h.turn (B := w.heap.size) (Turn.of_below hb) (Or.inr (Nat.le_refl _))
theorem OwnF.mono {t : TypeId} {c : Nat} {w : World} {lo lo' : Nat} {v : Value} {n : Nat} {fs : List Int} (h : OwnF t c w lo v n fs) (hl : lo' ≤ lo) : OwnF t c w lo' v n fs := owns_mono h hl
theorem OwnF.apart {t : TypeId} {c : Nat} {w w' : World} {lo : Nat} {q : Option Addr} {n cap : Nat} {fs : List Int} {B : Nat} (h : OwnF t c w lo (.slice q n cap) n fs) (ht : Turn B w w') (hB : ∀ G, q = some ⟨G, 0, none⟩ → G ≠ B) : OwnF t c w' lo (.slice q n cap) n fs := by
  obtain ⟨h1, h0 | ⟨g, cap', cur, hv, hb, hh, rest⟩⟩ := h
  · exact ⟨h1, Or.inl h0⟩
  · have hg : g < w.heap.size := by rcases Nat.lt_or_ge g w.heap.size with h' | h'; exact h'; rw [Array.getElem?_eq_none h'] at hh; cases hh
    cases hv
    exact ⟨h1, Or.inr ⟨g, cap, cur, rfl, hb, (ht.block g hg (hB g rfl)).trans hh, rest⟩⟩
theorem OwnF.q_lt {t : TypeId} {c : Nat} {w : World} {lo : Nat} {q : Option Addr} {n cap : Nat} {fs : List Int} (h : OwnF t c w lo (.slice q n cap) n fs) {G : Nat} (e : q = some ⟨G, 0, none⟩) : lo ≤ G ∧ G < w.heap.size := by
  subst e
  have := owns_lt h
  exact ⟨this.1, this.2.1⟩
theorem OwnF.q_form {t : TypeId} {c : Nat} {w : World} {lo : Nat} {q : Option Addr} {n cap : Nat} {fs : List Int} (h : OwnF t c w lo (.slice q n cap) n fs) : (q = none ∧ cap = 0 ∧ n = 0 ∧ fs = []) ∨ ∃ G, q = some ⟨G, 0, none⟩ := by
  rcases h.form with ⟨h1, h2, h3⟩ | ⟨g, cap', h1, _⟩
  · cases h1
    exact Or.inl ⟨rfl, rfl, rfl, h3⟩
  · cases h1
    exact Or.inr ⟨g, rfl⟩
/-- The block that an append onto it may turn. -/
theorem grown_turn {w w' : World} {q : Option Addr} {n cap : Nat} (gr : w.grownBy w' (Value.slice q n cap).ownBlock) (hq : q = none ∨ ∃ G, q = some ⟨G, 0, none⟩) : ∃ T, Turn T w w' ∧ (q = some ⟨T, 0, none⟩ ∨ T = w.heap.size) := by
  rcases hq with rfl | ⟨G, rfl⟩
  · exact ⟨w.heap.size, ⟨gr.os, gr.tape, gr.output, gr.size, fun k hk _ => gr.block k hk (by simp [Value.ownBlock])⟩, Or.inr rfl⟩
  · exact ⟨G, Turn.of_grown gr, Or.inl rfl⟩
/-- The append as an operation of a plain region. -/
theorem push_list {P : Program} {w w' : World} {ops : Array Oper} {rest : List Oper} {o : Oper} {a : Act} {Q : Exit → Act → World → Prop} {t : TypeId} (hgd : o.guard = none) (s x : Operand) (ho : o.op = .call { callee := .builtin .append, args := #[s, x], argTypes := #[t, t] }) {v v' y : Value} (hs : a.eval s = v) (hx : a.eval x = y)
    (hr : (Builtin.append_ #[t, t] o.type #[v, y]).run P w = .ok v' w') (h : wpList P ops Q rest (a.put o.dst v') w') : wpList P ops Q (o :: rest) a w := by
  refine wpList_plain hgd fun K hK => ?_
  have hh := hK _ _ h
  unfold Oper.wp
  simp [execOp, ho, resolve, invoke, builtin, hs, hx, hr, Result.andThen]
  simpa [Oper.upon] using hh
/-- One struct of ints more. -/
theorem run_flat {P : Program} {w : World} {lo cap : Nat} {q : Option Addr} {n : Nat} {fs : List Int} (t ty e : TypeId) (i : TypeInfo) (z : Value) (c bytes : Nat) (ht : P.underlying t = some (.slice e)) (hi : P.info? e = some i) (hz : i.zero = some z) (hsize : i.size = c) (hby : i.bytes = bytes) (hzs : z.cells.size = c) (hc : 0 < c) (hbm : bytes ≤ 40)
    (hown : OwnF e c w lo (.slice q n cap) n fs) (hn : n ≤ 1000000000000) (hlo : lo ≤ w.heap.size) (ad : Addr) (ys : List Int) (hl : ys.length = c) (hys : ∀ j x, ys[j]? = some x → w.cell? (ad.add j) = some (.int .i64 x)) :
    ∃ g' cap' w', (Builtin.append_ #[t, t] ty #[.slice q n cap, .slice (some ad) 1 1]).run P w = .ok (.slice (some ⟨g', 0, none⟩) (n + 1) cap') w' ∧ OwnF e c w' lo (.slice (some ⟨g', 0, none⟩) (n + 1) cap') (n + 1) (fs ++ ys) ∧ ((Value.slice q n cap).ownBlock = some g' ∨ w.heap.size ≤ g') ∧ g' < w'.heap.size ∧ w.grownBy w' (Value.slice q n cap).ownBlock := by
  obtain ⟨g', cap', w', h1, h2, h3, h4, h5⟩ := run_push (P := P) (w := w) lo t ty e i z c bytes ht hi hz hsize hby hzs hc _ n (vals fs) hown ad (vals ys) (by rw [vals_len, hl]) (fun j u hu => by
    simp only [vals, List.getElem?_map, Option.map_eq_some_iff] at hu
    obtain ⟨y, hy, rfl⟩ := hu
    exact hys j y hy) (fun u hu => by
    obtain ⟨y, _, rfl⟩ := List.mem_map.1 hu
    rfl) (by unfold maxLen; omega) (by
    have := Nat.mul_le_mul_left (n + 1) hbm
    omega) hlo
  refine ⟨g', cap', w', h1, ?_, h3, h4, h5⟩
  unfold OwnF
  rw [show vals (fs ++ ys) = vals fs ++ vals ys by simp [vals]]
  exact h2
end Go.Proofs.Ytmmlhmhlfmafgaa.Flat
