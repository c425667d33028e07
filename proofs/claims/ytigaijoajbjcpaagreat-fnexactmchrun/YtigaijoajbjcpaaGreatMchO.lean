/-
  The specification's MchNew.
-/
import Derived.Test.YtigaijoajbjcpaaGreatMchN
import Derived.Test.YtigaijoajbjcpaaGreatMchG
namespace Go.Proofs.YtigaijoajbjcpaaGreat.Mch
open Go.ChangeShapes Go.WideShapes Go.ChangeAt Go.RowKit IntS
theorem wpList_push_any {w : World} {ops : Array Oper} {rest : List Oper} {o : Oper} {a : Act} {Q : Exit → Act → World → Prop} (hgd : o.guard = none) (s x : Operand)
    (ho : o.op = .call { callee := .builtin .append, args := #[s, x], argTypes := #[22, 22] })
    (base : Nat) (v : Value) (xs : List Int) (hs : a.eval s = v) (hown : Own w base v xs) (hb : base ≤ w.heap.size)
    (ad : Addr) (y : Int) (hx : a.eval x = .slice (some ad) 1 1) (hc : w.cell? (ad.add 0) = some (.int .i64 y)) (n : Nat) (hn : xs.length = n) (hl : n ≤ 1000000000000)
    (h : ∀ (g' cap' : Nat) (w' : World), Own w' base (.slice (some ⟨g', 0, none⟩) (n + 1) cap') (xs ++ [y]) → base ≤ g' → w.grownBy w' v.ownBlock →
      wpList Tryz.prog ops Q rest (a.put o.dst (.slice (some ⟨g', 0, none⟩) (n + 1) cap')) w') : wpList Tryz.prog ops Q (o :: rest) a w := by
  subst hn
  obtain ⟨i0, hi, hz, hsz, hby⟩ := info_int
  have hnews : ∀ j u, ([.int .i64 y] : List Value)[j]? = some u → w.cell? (ad.add j) = some u := fun j u hu => by
    match j, hu with
    | 0, hu => cases hu; exact hc
    | j + 1, hu => simp at hu
  have hone : ∀ u ∈ ([.int .i64 y] : List Value), u.oneCell' = true := fun u hu => by simp at hu; subst hu; rfl
  have e2 : vals xs ++ [.int .i64 y] = vals (xs ++ [y]) := by simp [vals]
  have e3 : xs.length + 1 = (xs ++ [y]).length := by simp
  refine wpList_append_own w hgd s x 22 ho base 3 i0 (.int .i64 0) 1 8 Tryz.underlying22 hi hz hsz hby rfl (by decide) v xs.length (vals xs) hs hown ad 1 1 [.int .i64 y] hx rfl hnews hone (by unfold maxLen; omega) (by omega) hb (fun v' w' h1 h2 h3 => ?_)
  rw [e2] at h1
  have h1' : Own w' base v' (xs ++ [y]) := by
    unfold Own
    rw [← e3]
    exact h1
  obtain ⟨g', cap', rfl, k1, k2, k3⟩ := h1'.form (fun e => by have := (h3.1 e).2; omega)
  rw [← e3] at h1'
  rw [← e3]
  exact h g' cap' w' h1' k1 h2
theorem Own.any {w w' : World} {base : Nat} {v : Value} {xs : List Int} (h : Own w base v xs) (hk : ∀ k, base ≤ k → k < w.heap.size → w'.heap[k]? = w.heap[k]?) : Own w' base v xs := by
  obtain ⟨hl, h0 | ⟨g, cap, cur, hv, hb, hh, rest⟩⟩ := h
  · exact ⟨hl, Or.inl h0⟩
  · have hlt : g < w.heap.size := by
      rcases Nat.lt_or_ge g w.heap.size with h' | h'
      · exact h'
      · rw [Array.getElem?_eq_none h'] at hh; cases hh
    exact ⟨hl, Or.inr ⟨g, cap, cur, hv, hb, by rw [hk g hb hlt]; exact hh, rest⟩⟩
/-- Where a new machine's words have been laid up to a place. -/
structure NewAt (u : World) (X : Nat) (r i : Value) (L : List Int) (k : Nat) (u' : World) : Prop where
  ex : ∃ q cap, Rec X [r, .int .i64 0, .slice q k cap, .int .i64 0, .bool false, .bool false, .int .i64 0, i, .slice none 0 0, .int .i64 0] u' ∧ Own u' (X + 1) (.slice q k cap) (L.take k)
  turn : Turn X u u'
theorem ownBlock_ge {w : World} {base : Nat} {v : Value} {xs : List Int} (h : Own w base v xs) {b : Nat} (hb : v.ownBlock = some b) : base ≤ b := by
  obtain ⟨hl, h0 | ⟨g, cap, cur, rfl, hb', _⟩⟩ := h
  · rw [h0.1] at hb; cases hb
  · cases hb; exact hb'
theorem Rec.grown {X : Nat} {cs : List Value} {wr w2 : World} {o : Obj} {v : Value} {xs : List Int} (hR : Rec X cs wr) (hO : Own wr (X + 1) v xs) (hg : (wr.alloc o).grownBy w2 v.ownBlock) : Rec X cs w2 := by
  have ha := hR.alloc o
  have e := hg.block X ha.lt (fun e => by have := ownBlock_ge hO e.symm; omega)
  exact ⟨Nat.lt_of_lt_of_le ha.lt hg.size, fun j v hv => (World.cell?_of_block (w := wr.alloc o) (a := ⟨X, j, none⟩) e).trans (ha.cell j v hv), fun j => (World.frozen?_of_block (w := wr.alloc o) (a := ⟨X, j, none⟩) e).trans (ha.soft j)⟩
theorem Own.alloc {w : World} {base : Nat} {v : Value} {xs : List Int} (h : Own w base v xs) (o : Obj) : Own (w.alloc o) base v xs := Own.any h fun k _ hk => (MapKept.heap_alloc w o).2 k hk
theorem new_fin3 {w V : World} {gr gm gi ci cm : Nat} {ws is : List Int} (h1 : WRow V gr (.slice (some ⟨gr, 0, none⟩) 4 4) [0, 0, 0, 0]) (h2 : WRow V gm (.slice (some ⟨gm, 0, none⟩) 64 cm) (ws ++ List.replicate (64 - ws.length) 0)) (h3 : WRow V gi (.slice (some ⟨gi, 0, none⟩) is.length ci) is)
    (l1 : w.heap.size ≤ gr) (l2 : w.heap.size ≤ gm) (l3 : w.heap.size ≤ gi) (d1 : gr ≠ gm) (d2 : gr ≠ gi) (d3 : gm ≠ gi) : WMach V w.heap.size [.slice (some ⟨gr, 0, none⟩) 4 4, .int .i64 0, .slice (some ⟨gm, 0, none⟩) 64 cm, .int .i64 0, .bool false, .bool false, .int .i64 0, .slice (some ⟨gi, 0, none⟩) is.length ci, .slice none 0 0, .int .i64 0] (newM ws is) :=
  ⟨_, _, _, _, gr, gm, gi, w.heap.size + gr + gm + gi + 1, rfl, h1, h2, h3, row_nil _ _, l1, l2, l3, by omega, d1, d2, by omega, d3, by omega, by omega⟩
theorem NewAt.next {u wr w2 : World} {X k : Nat} {r i : Value} {L : List Int} {y : Int} {g' cap' : Nat} {q : Option Addr} {cap : Nat} (hX : u.heap.size = X + 1) (ht : Turn X u wr) (hy : L[k]? = some y) {o : Obj}
    (hR : Rec X [r, .int .i64 0, .slice q k cap, .int .i64 0, .bool false, .bool false, .int .i64 0, i, .slice none 0 0, .int .i64 0] wr) (hO : Own wr (X + 1) (.slice q k cap) (L.take k))
    (h1 : Own w2 (X + 1) (.slice (some ⟨g', 0, none⟩) (k + 1) cap') (L.take k ++ [y])) (hg : (wr.alloc o).grownBy w2 (Value.slice q k cap).ownBlock) :
    NewAt u X r i L (k + 1) (w2.setCell ⟨X, 2, none⟩ (.slice (some ⟨g', 0, none⟩) (k + 1) cap')) := by
  have e1 : L.take k ++ [y] = L.take (k + 1) := by
    rw [List.take_add_one, hy]; rfl
  have hne : ∀ b, (Value.slice q k cap).ownBlock = some b → X + 1 ≤ b := fun b hb => ownBlock_ge hO hb
  have ht1 : Turn X u (wr.alloc o) := ht.trans (Turn.of_below ((Below.refl _ _).alloc (Nat.le_refl _) o))
  have hs1 : wr.heap.size ≤ (wr.alloc o).heap.size := by simp
  have ht2 : Turn X u w2 := ⟨hg.os.trans ht1.os, hg.tape.trans ht1.tape, hg.output.trans ht1.output, Nat.le_trans ht1.size hg.size, fun j hj hB => (hg.block j (Nat.lt_of_lt_of_le hj ht1.size) (fun e => by have := hne j e.symm; omega)).trans (ht1.block j hj hB)⟩
  have hR2 : Rec X [r, .int .i64 0, .slice q k cap, .int .i64 0, .bool false, .bool false, .int .i64 0, i, .slice none 0 0, .int .i64 0] w2 := by
    have ha := hR.alloc o
    have e := hg.block X ha.lt (fun e => by have := hne X e.symm; omega)
    exact ⟨Nat.lt_of_lt_of_le ha.lt hg.size, fun j v hv => (World.cell?_of_block (w := wr.alloc o) (a := ⟨X, j, none⟩) e).trans (ha.cell j v hv), fun j => (World.frozen?_of_block (w := wr.alloc o) (a := ⟨X, j, none⟩) e).trans (ha.soft j)⟩
  refine ⟨⟨some ⟨g', 0, none⟩, cap', hR2.set 2 _ (by simp) rfl, ?_⟩, ht2.setCell rfl _⟩
  rw [e1] at h1
  exact Own.any h1 fun j hj hl => Below.heap_setCell w2 _ _ j (by show j ≠ X; omega)
theorem mem_len {ws : List Int} (h : ws.length ≤ 64) : (ws ++ List.replicate (64 - ws.length) (0 : Int)).length = 64 := by simp; omega
theorem mem_lt {ws : List Int} {k : Nat} (h : ws.length ≤ 64) (hk : k < 64) : k < (ws ++ List.replicate (64 - ws.length) (0 : Int)).length := by rw [mem_len h]; exact hk
theorem take_len {L : List Int} {k : Nat} (h : k < L.length) : (L.take k).length = k := by rw [List.length_take]; omega
theorem mem_at {ws : List Int} {k : Nat} {x : Int} (h : ws[k]? = some x) : (ws ++ List.replicate (64 - ws.length) 0)[k]? = some x := by
  rw [List.getElem?_append_left (List.getElem?_eq_some_iff.1 h).1]; exact h
theorem mem_zero {ws : List Int} {k : Nat} (h : ws.length ≤ k) (hk : k < 64) : (ws ++ List.replicate (64 - ws.length) (0 : Int))[k]? = some 0 := by
  rw [List.getElem?_append_right h, List.getElem?_replicate]
  simp; omega
end Go.Proofs.YtigaijoajbjcpaaGreat.Mch
