/-
  Appending a part to a slice of parts that the call has made.
-/
import Derived.Test.YtckhfpaicnjknaaGreatJoE
import Derived.Test.YtckhfpaicnjknaaGreatIntA
namespace Go.Proofs.YtckhfpaicnjknaaGreat.Pol
open Go.ChangeShapes Go.WideShapes Go.ChangeAt Go.RowKit IntS
theorem infoMono : ∃ i, Tryz.prog.info? 55 = some i ∧ i.zero = some (.agg #[.int .i64 0, .slice none 0 0]) ∧ i.size = 2 ∧ i.bytes = 32 := by
  have hinfo : (Tryz.prog.info? 55).map (fun i => (i.zero, i.size, i.bytes)) = some (some (.agg #[.int .i64 0, .slice none 0 0]), 2, 32) := by kernel_rfl
  obtain ⟨i, hi, h⟩ := Option.map_eq_some_iff.1 hinfo
  simp only [Prod.mk.injEq] at h
  exact ⟨i, hi, h.1, h.2.1, h.2.2⟩
/-- The cells of parts: each a word, and a slice. -/
def flat : List (Int × Value) → List Value
  | [] => []
  | c :: r => .int .i64 c.1 :: c.2 :: flat r
theorem flat_len : ∀ cs : List (Int × Value), (flat cs).length = cs.length * 2
  | [] => rfl
  | c :: r => by simp [flat, flat_len r]; omega
theorem flat_app : ∀ a b : List (Int × Value), flat (a ++ b) = flat a ++ flat b
  | [], b => rfl
  | c :: a, b => by simp [flat, flat_app a b]
theorem flat_at : ∀ (cs : List (Int × Value)) (i : Nat) (c : Int × Value), cs[i]? = some c → (flat cs)[i * 2]? = some (.int .i64 c.1) ∧ (flat cs)[i * 2 + 1]? = some c.2
  | [], i, c, h => by simp at h
  | d :: r, 0, c, h => by
    obtain rfl := Option.some.inj h
    exact ⟨rfl, rfl⟩
  | d :: r, i + 1, c, h => by
    have := flat_at r i c h
    rw [show (i + 1) * 2 = i * 2 + 1 + 1 by omega]
    exact this
/-- A slice of parts that the call made, from its array's first place on. -/
def OwnM (w : World) (base : Nat) (v : Value) (cs : List (Int × Value)) : Prop := w.ownsRow base 55 2 v cs.length (flat cs)
theorem OwnM.cells {w : World} {base G n cap : Nat} {cs : List (Int × Value)} (h : OwnM w base (.slice (some ⟨G, 0, none⟩) n cap) cs) : n = cs.length ∧ n ≤ cap ∧ cap ≤ maxLen ∧ base ≤ G ∧ IsT w G 55 ∧ (∀ (i : Nat) c, cs[i]? = some c → w.cell? ⟨G, i * 2, none⟩ = some (.int .i64 c.1) ∧ w.cell? ⟨G, i * 2 + 1, none⟩ = some c.2) ∧ ∀ i, w.frozen? ⟨G, i, none⟩ = false := by
  obtain ⟨hl, h0 | ⟨g', cap', cur, hv, hb, hh, hle, hm, hc, ht⟩⟩ := h
  · exact absurd h0.1 (by simp)
  · cases hv
    have hat (j : Nat) (u : Value) (hu : (flat cs)[j]? = some u) : w.cell? ⟨G, j, none⟩ = some u := by
      have hj : j < cs.length * 2 := by rw [← flat_len]; exact (List.getElem?_eq_some_iff.1 hu).1
      rw [← ht, List.getElem?_take, if_pos hj] at hu
      unfold World.cell?
      simp only [hh]
      simpa using hu
    refine ⟨rfl, hle, hm, hb, ⟨cur, _, hh⟩, fun i c hc2 => ⟨hat _ _ (flat_at cs i c hc2).1, hat _ _ (flat_at cs i c hc2).2⟩, fun i => ?_⟩
    unfold World.frozen?
    simp [hh]
theorem OwnM.form {w : World} {base : Nat} {v : Value} {cs : List (Int × Value)} (h : OwnM w base v cs) (hn : ¬ v = .slice none 0 0) : ∃ G cap, v = .slice (some ⟨G, 0, none⟩) cs.length cap := by
  obtain ⟨hl, h0 | ⟨g', cap', cur, hv, _⟩⟩ := h
  · exact absurd h0.1 hn
  · exact ⟨g', cap', hv⟩
theorem OwnM.turn {w w' : World} {base B : Nat} {v : Value} {cs : List (Int × Value)} (h : OwnM w base v cs) (ht : Turn B w w') (hB : ∀ G n cap, v = .slice (some ⟨G, 0, none⟩) n cap → G ≠ B) : OwnM w' base v cs := by
  obtain ⟨hl, h0 | ⟨g', cap', cur, hv, hb, hh, rest⟩⟩ := h
  · exact ⟨hl, Or.inl h0⟩
  · refine ⟨hl, Or.inr ⟨g', cap', cur, hv, hb, ?_, rest⟩⟩
    rw [ht.block g' (by rcases Nat.lt_or_ge g' w.heap.size with h' | h'; exact h'; rw [Array.getElem?_eq_none h'] at hh; cases hh) (hB _ _ _ hv)]
    exact hh
theorem OwnM.below {w w' : World} {base : Nat} {v : Value} {cs : List (Int × Value)} (h : OwnM w base v cs) (hb : Below w.heap.size w w') : OwnM w' base v cs := by
  obtain ⟨hl, h0 | ⟨g', cap', cur, hv, hb2, hh, rest⟩⟩ := h
  · exact ⟨hl, Or.inl h0⟩
  · refine ⟨hl, Or.inr ⟨g', cap', cur, hv, hb2, ?_, rest⟩⟩
    rw [hb.block g' (by rcases Nat.lt_or_ge g' w.heap.size with h' | h'; exact h'; rw [Array.getElem?_eq_none h'] at hh; cases hh)]
    exact hh
theorem wpList_pushM {w : World} {ops : Array Oper} {rest : List Oper} {o : Oper} {a : Act} {Q : Exit → Act → World → Prop} (hgd : o.guard = none) (s x : Operand)
    (ho : o.op = .call { callee := .builtin .append, args := #[s, x], argTypes := #[23, 23] })
    (lo : Nat) (v : Value) (cs : List (Int × Value)) (hs : a.eval s = v) (hown : OwnM w lo v cs) (hlo : lo ≤ w.heap.size)
    (ad : Addr) (c : Int) (q : Option Addr) (m k : Nat) (hx : a.eval x = .slice (some ad) 1 1) (hc : w.cell? (ad.add 0) = some (.int .i64 c)) (hc2 : w.cell? (ad.add 1) = some (.slice q m k)) (hl : cs.length ≤ 1000000)
    (h : ∀ (G cap : Nat) (w' : World), Hid (OwnM w' lo (.slice (some ⟨G, 0, none⟩) (cs.length + 1) cap) (cs ++ [(c, .slice q m k)])) → Hid (w.grownBy w' v.ownBlock) → wpList Tryz.prog ops Q rest (a.put o.dst (.slice (some ⟨G, 0, none⟩) (cs.length + 1) cap)) w') : wpList Tryz.prog ops Q (o :: rest) a w := by
  obtain ⟨i, hi, hz, hsz, hby⟩ := infoMono
  refine wpList_append_own w hgd s x 23 ho lo 55 i _ 2 32 Tryz.underlying23 hi hz hsz hby rfl (by decide) v cs.length (flat cs) hs hown ad 1 1 [.int .i64 c, .slice q m k] hx rfl (fun j u hu => ?_) (fun u hu => by simp at hu; rcases hu with rfl | rfl <;> rfl) (by unfold maxLen; omega) (by omega) hlo fun v' w' h1 h2 h3 => ?_
  · match j, hu with
    | 0, hu => cases hu; exact hc
    | 1, hu => cases hu; exact hc2
    | j + 2, hu => simp at hu
  · have e : flat cs ++ [.int .i64 c, .slice q m k] = flat (cs ++ [(c, .slice q m k)]) := by rw [flat_app]; rfl
    rw [e] at h1
    have g1 : OwnM w' lo v' (cs ++ [(c, .slice q m k)]) := by
      unfold OwnM
      rw [List.length_append]
      exact h1
    obtain ⟨G, cap, rfl⟩ := g1.form (fun e2 => by have := (h3.1 e2).2; omega)
    rw [List.length_append] at g1
    have := h G cap w' g1 h2
    simpa using this
end Go.Proofs.YtckhfpaicnjknaaGreat.Pol
