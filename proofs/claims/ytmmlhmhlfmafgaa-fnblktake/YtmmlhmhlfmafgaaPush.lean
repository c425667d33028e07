/-
  One element appended to a slice that the call made, over any program and any type of elements: where the new row lies is told.
-/
import Derived.Test.YtmmlhmhlfmafgaaIntA
import Derived.ArgAppend
import Derived.OrdersIn
namespace Go.Proofs.Ytmmlhmhlfmafgaa.Push
set_option linter.unusedVariables false
open Go Go.ChangeShapes Go.WideShapes Go.ChangeAt Go.RowKit IntS
theorem owns_mono {w : World} {lo lo' : Nat} {e : TypeId} {size : Nat} {v : Value} {n : Nat} {xs : List Value} (h : w.ownsRow lo e size v n xs) (hl : lo' ≤ lo) : w.ownsRow lo' e size v n xs := by
  obtain ⟨h1, h0 | ⟨g, cap, cur, hv, hb, rest⟩⟩ := h
  · exact ⟨h1, Or.inl h0⟩
  · exact ⟨h1, Or.inr ⟨g, cap, cur, hv, Nat.le_trans hl hb, rest⟩⟩
theorem owns_turn {w w' : World} {lo : Nat} {e : TypeId} {size : Nat} {v : Value} {n : Nat} {xs : List Value} {B : Nat} (h : w.ownsRow lo e size v n xs) (ht : Turn B w w') (hB : B < lo ∨ w.heap.size ≤ B) : w'.ownsRow lo e size v n xs := by
  obtain ⟨h1, h0 | ⟨g, cap, cur, hv, hb, hh, rest⟩⟩ := h
  · exact ⟨h1, Or.inl h0⟩
  · have hg : g < w.heap.size := by rcases Nat.lt_or_ge g w.heap.size with h' | h'; exact h'; rw [Array.getElem?_eq_none h'] at hh; cases hh
    exact ⟨h1, Or.inr ⟨g, cap, cur, hv, hb, (ht.block g hg (by omega)).trans hh, rest⟩⟩
theorem owns_lt {w : World} {lo : Nat} {e : TypeId} {size : Nat} {G n cap n' : Nat} {xs : List Value} (h : w.ownsRow lo e size (.slice (some ⟨G, 0, none⟩) n cap) n' xs) : lo ≤ G ∧ G < w.heap.size ∧ n ≤ cap ∧ cap ≤ maxLen := by
  obtain ⟨h1, h0 | ⟨g, cap', cur, hv, hb, hh, h3, h4, _⟩⟩ := h
  · cases h0.1
  · cases hv
    refine ⟨hb, ?_, h3, h4⟩
    rcases Nat.lt_or_ge G w.heap.size with h' | h'
    · exact h'
    · rw [Array.getElem?_eq_none h'] at hh; cases hh
theorem run_push {P : Program} {w : World} (lo : Nat) (t ty e : TypeId) (i : TypeInfo) (z : Value) (size bytes : Nat) (ht : P.underlying t = some (.slice e)) (hi : P.info? e = some i) (hz : i.zero = some z) (hsize : i.size = size) (hby : i.bytes = bytes) (hzs : z.cells.size = size) (hsz : 0 < size)
    (v : Value) (n : Nat) (xs : List Value) (hown : w.ownsRow lo e size v n xs) (a : Addr) (news : List Value) (hl : news.length = size) (hnews : ∀ j u, news[j]? = some u → w.cell? (a.add j) = some u) (h1 : ∀ u ∈ news, u.oneCell' = true)
    (h63 : n + 1 ≤ maxLen) (hbytes : (n + 1) * bytes ≤ 140737488355328) (hlo : lo ≤ w.heap.size) :
    ∃ g' cap' w', (Builtin.append_ #[t, t] ty #[v, .slice (some a) 1 1]).run P w = .ok (.slice (some ⟨g', 0, none⟩) (n + 1) cap') w' ∧ w'.ownsRow lo e size (.slice (some ⟨g', 0, none⟩) (n + 1) cap') (n + 1) (xs ++ news) ∧ (v.ownBlock = some g' ∨ w.heap.size ≤ g') ∧ g' < w'.heap.size ∧ w.grownBy w' v.ownBlock := by
  have hl1 : news.length = 1 * size := by omega
  have form {lo' : Nat} {v' : Value} {w' : World} (h : w'.ownsRow lo' e size v' (n + 1) (xs ++ news)) : ∃ g' cap', v' = .slice (some ⟨g', 0, none⟩) (n + 1) cap' ∧ lo' ≤ g' ∧ g' < w'.heap.size := by
    obtain ⟨_, h0 | ⟨g', cap', cur, hv, hb, hh, _⟩⟩ := h
    · exact absurd h0.2 (by omega)
    · exact ⟨g', cap', hv, hb, by rcases Nat.lt_or_ge g' w'.heap.size with h' | h'; exact h'; rw [Array.getElem?_eq_none h'] at hh; cases hh⟩
  have hown' := hown
  obtain ⟨hx, ⟨rfl, rfl⟩ | ⟨g, cap, cur, rfl, hb, hh, hle, hm, hc, htk⟩⟩ := hown
  · obtain ⟨v', w', hr, g1, g2, _⟩ := run_append_own (P := P) w w.heap.size t ty e i z size bytes ht hi hz hsize hby hzs hsz (.slice none 0 0) 0 xs ⟨hx, Or.inl ⟨rfl, rfl⟩⟩ a 1 1 news hl1 hnews h1 h63 hbytes (Nat.le_refl _)
    obtain ⟨g', cap', rfl, q1, q2⟩ := form g1
    exact ⟨g', cap', w', hr, owns_mono g1 hlo, Or.inr q1, q2, g2⟩
  · by_cases hr : n + 1 ≤ cap
    · have cells (j : Nat) (hj : j < cap * size) : (w.cell? ⟨g, j, none⟩).isSome = true ∧ w.frozen? ⟨g, j, none⟩ = false := by
        refine ⟨?_, ?_⟩
        · unfold World.cell?
          simp [hh, hc, hj]
        · unfold World.frozen?
          simp [hh]
      have bnd : n * size + size ≤ cap * size := by
        have := Nat.mul_le_mul_right size hr
        rw [Nat.add_mul] at this
        omega
      have hrun := run_append_room_cells (P := P) w t ty e i ht hi g 0 n cap a 1 1 news (by rw [hsize]; exact hl1) hnews h1 hr (fun j hj => by
        rw [hsize, Nat.zero_add]
        exact (cells _ (by omega)).1) (fun j hj => by
        rw [hsize, Nat.zero_add]
        exact (cells _ (by omega)).2)
      obtain ⟨v', w', hr2, g1, g2, _⟩ := run_append_own (P := P) w lo t ty e i z size bytes ht hi hz hsize hby hzs hsz _ n xs hown' a 1 1 news hl1 hnews h1 h63 hbytes hlo
      rw [hrun] at hr2
      obtain ⟨rfl, rfl⟩ : .slice (some ⟨g, 0, none⟩) (n + 1) cap = v' ∧ w.setCells g (0 + n * i.size) news = w' := by cases hr2; exact ⟨rfl, rfl⟩
      obtain ⟨_, _, e, _, q2⟩ := form g1
      cases e
      exact ⟨g, cap, _, hrun, g1, Or.inl rfl, q2, g2⟩
    · have hcells (j : Nat) (u : Value) (hu : xs[j]? = some u) : w.cell? ((⟨g, 0, none⟩ : Addr).add j) = some u := by
        rw [Addr.add_lit, Nat.zero_add]
        have hj : j < n * size := by rw [← hx]; exact (List.getElem?_eq_some_iff.1 hu).1
        rw [← htk, List.getElem?_take, if_pos hj] at hu
        unfold World.cell?
        simp only [hh]
        simpa using hu
      obtain ⟨v', w', hrun, g1, g2⟩ := run_append_arg_grows (P := P) w t ty e i z size bytes ht hi hz hsize hby hzs hsz ⟨g, 0, none⟩ n cap xs hx hcells a 1 1 news hl1 hnews (by omega) h63 hbytes
      obtain ⟨g', cap', rfl, q1, q2⟩ := form g1
      exact ⟨g', cap', w', hrun, owns_mono g1 hlo, Or.inr q1, q2, ⟨g2.os, g2.tape, g2.output, g2.size, fun k hk _ => g2.block k hk (by simp)⟩⟩
/-- The append as an operation of a drawn region. -/
theorem push_in {P : Program} {w w' : World} {o : Oper} {a : Act} {K : Act → World → Prop} {Q : Exit → Act → World → Prop} {t : TypeId} (s x : Operand) (ho : o.op = .call { callee := .builtin .append, args := #[s, x], argTypes := #[t, t] }) {v v' y : Value} (hs : a.eval s = v) (hx : a.eval x = y)
    (hr : (Builtin.append_ #[t, t] o.type #[v, y]).run P w = .ok v' w') (h : K (a.put o.dst v') w') : Oper.wpIn Fence.wide 0 P o a w K Q := by
  unfold Oper.wpIn
  refine ⟨fun _ _ => trivial, ?_⟩
  rw [show Fence.wide.round = none from rfl, Oper.semAt_none]
  unfold execOp
  simp only [ho, resolve, invoke, builtin, Sem.run_bind, Sem.run_pure, Result.andThen_ok, List.map_toArray, List.map_cons, List.map_nil, hs, hx, hr]
  exact h
end Go.Proofs.Ytmmlhmhlfmafgaa.Push
