/-
  Slices of ints that the call itself makes: laws for 'append([]int{}, xs...)' whatever xs is.
  Appending a part to a slice of parts that the call has made.
  A region that draws its order, in two phases: what reads yields in every world that meets S, as long as nothing of the second phase has come up; behind operations of the second phase (number n on), each of which waits for all of the first, S is asked no more. (The library's wpAnyH asks it behind every operation; the proof of the taking goes after its own.)
  The specification's l4Copy: the same parts in new memory.
-/
import Derived.Test.YtggilenddbobnaaGreatAl
import Derived.Test.YtggilenddbobnaaGreatJ01
import Derived.Laws.AppendOwn
import Derived.Laws.AppendOwnNone
import Derived.ArgAppend
import Derived.Deep.RegionLaw
import Derived.Test.YtggilenddbobnaaGreatJ04
import Derived.Deep.RegionHeld
namespace Go.Proofs.YtggilenddbobnaaGreat.IntS
open Go.ChangeShapes Go.WideShapes Go.ChangeAt Go.RowKit
theorem infoInt : (Tryz.prog.info? 3).map (fun i => (i.zero, i.size, i.bytes)) = some (some (.int .i64 0), 1, 8) := by kernel_rfl
theorem info_int : ∃ i, Tryz.prog.info? 3 = some i ∧ i.zero = some (.int .i64 0) ∧ i.size = 1 ∧ i.bytes = 8 := by
 obtain ⟨i, hi, h⟩ := Option.map_eq_some_iff.1 infoInt
 simp only [Prod.mk.injEq] at h
 exact ⟨i, hi, h.1, h.2.1, h.2.2⟩
def vals (xs : List Int) : List Value := xs.map (Value.int .i64)
theorem vals_len (xs : List Int) : (vals xs).length = xs.length := by simp [vals]
/-- A slice that the call made, from its array's first place on. -/
def Own (w : World) (base : Nat) (v : Value) (xs : List Int) : Prop := w.ownsRow base 3 1 v xs.length (vals xs)
theorem Own.form {w : World} {base : Nat} {v : Value} {xs : List Int} (h : Own w base v xs) (hn : ¬ v = .slice none 0 0) : ∃ g cap, v = .slice (some ⟨g, 0, none⟩) xs.length cap ∧ base ≤ g ∧ g < w.heap.size ∧ WRow w g v xs := by
 obtain ⟨hl, h0 | ⟨g, cap, cur, hv, hb, hg, hle, hm, hc, ht⟩⟩ := h
 · exact absurd h0.1 hn
 · have hlt : g < w.heap.size := by
    rcases Nat.lt_or_ge g w.heap.size with h' | h'
    · exact h'
    · rw [Array.getElem?_eq_none h'] at hg; cases hg
   refine ⟨g, cap, hv, hb, hlt, ⟨some ⟨g, 0, none⟩, cap, 0, hv, hle, hm, (fun h => by cases h), Or.inr ⟨rfl, hlt, fun i x hx => ?_⟩⟩⟩
   have hi : i < xs.length := (List.getElem?_eq_some_iff.1 hx).1
   have h1 : cur.toList[i]? = some (.int .i64 x) := by
    have e1 : (cur.toList.take (xs.length * 1))[i]? = cur.toList[i]? := by rw [List.getElem?_take_of_lt (by omega)]
    rw [← e1, ht]
    simp [vals, List.getElem?_map, hx]
   have h2 : cur[i]? = some (.int .i64 x) := by rw [← Array.getElem?_toList]; exact h1
   rw [Nat.zero_add]
   constructor
   · unfold World.cell?
     simp [hg, h2]
   · unfold World.frozen?
     simp [hg]
theorem Turn.of_grown {w w' : World} {g : Nat} (h : w.grownBy w' (some g)) : Turn g w w' := ⟨h.os, h.tape, h.output, h.size, fun k hk hB => h.block k hk (fun e => hB (Option.some.inj e))⟩
theorem own_empty {w : World} {g : Nat} (hg : w.heap[g]? = some (.cells #[] 3 (0, 0))) : Own w g (.slice (some ⟨g, 0, none⟩) 0 0) [] :=
 ⟨rfl, Or.inr ⟨g, 0, #[], rfl, Nat.le_refl _, hg, Nat.le_refl _, by unfold maxLen; omega, rfl, rfl⟩⟩
theorem Own.turn {w w' : World} {base B g n cap : Nat} {xs : List Int} (h : Own w base (.slice (some ⟨g, 0, none⟩) n cap) xs) (ht : Turn B w w') (hB : g ≠ B) (hg : g < w.heap.size) : Own w' base (.slice (some ⟨g, 0, none⟩) n cap) xs := by
 obtain ⟨hl, h0 | ⟨g', cap', cur, hv, hb, hh, rest⟩⟩ := h
 · exact absurd h0.1 (by simp)
 · cases hv
   exact ⟨hl, Or.inr ⟨g, cap, cur, rfl, hb, by rw [ht.block g hg hB]; exact hh, rest⟩⟩
theorem Own.mono {w : World} {base base' : Nat} {v : Value} {xs : List Int} (h : Own w base v xs) (hb : base' ≤ base) : Own w base' v xs :=
 ⟨h.1, h.2.imp id fun ⟨g, cap, cur, h1, h2, r⟩ => ⟨g, cap, cur, h1, Nat.le_trans hb h2, r⟩⟩
/-- A block of cells of a type. -/
def IsT (w : World) (b : Nat) (t : TypeId) : Prop := ∃ cur fz, w.heap[b]? = some (.cells cur t fz)
theorem IsT.lt {w : World} {b : Nat} {t : TypeId} (h : IsT w b t) : b < w.heap.size := by
 obtain ⟨cur, fz, h⟩ := h
 rcases Nat.lt_or_ge b w.heap.size with h' | h'
 · exact h'
 · rw [Array.getElem?_eq_none h'] at h; cases h
theorem IsT.ne {w : World} {b b' : Nat} {t t' : TypeId} (h : IsT w b t) (h' : IsT w b' t') (ht : t ≠ t') : b ≠ b' := fun e => by
 subst e
 obtain ⟨cur, fz, h⟩ := h
 obtain ⟨cur', fz', h'⟩ := h'
 rw [h] at h'
 cases h'
 exact ht rfl
theorem IsT.turn {w w' : World} {b B : Nat} {t : TypeId} (h : IsT w b t) (ht : Turn B w w') (hB : b ≠ B) : IsT w' b t := by
 have hl := h.lt
 obtain ⟨cur, fz, h⟩ := h
 exact ⟨cur, fz, (ht.block b hl hB).trans h⟩
theorem IsT.below {w w' : World} {b : Nat} {t : TypeId} (h : IsT w b t) (hb : Below w.heap.size w w') : IsT w' b t := h.turn (B := b + 1) (Turn.of_below hb) (by omega)
theorem IsT.set {w : World} {b : Nat} {t : TypeId} (h : IsT w b t) (p : Addr) (v : Value) : IsT (w.setCell p v) b t := by
 by_cases e : b = p.block
 · subst e
   obtain ⟨cur, fz, h⟩ := h
   unfold IsT World.setCell
   simp [Array.getElem?_modify, h]
 · obtain ⟨cur, fz, h⟩ := h
   exact ⟨cur, fz, (Below.heap_setCell w p v b e).trans h⟩
theorem Own.isT {w : World} {base g n cap : Nat} {xs : List Int} (h : Own w base (.slice (some ⟨g, 0, none⟩) n cap) xs) : IsT w g 3 := by
 obtain ⟨hl, h0 | ⟨g', cap', cur, hv, hb, hh, rest⟩⟩ := h
 · exact absurd h0.1 (by simp)
 · cases hv
   exact ⟨cur, _, hh⟩
theorem Own.cells {w : World} {base g n cap : Nat} {xs : List Int} (h : Own w base (.slice (some ⟨g, 0, none⟩) n cap) xs) : n = xs.length ∧ cap ≤ maxLen ∧ (∀ (j : Nat) u, (vals xs)[j]? = some u → w.cell? ⟨g, 0 + j, none⟩ = some u) ∧ (∀ j, j < cap → (w.cell? ⟨g, j, none⟩).isSome = true ∧ w.frozen? ⟨g, j, none⟩ = false) := by
 obtain ⟨hl, h0 | ⟨g', cap', cur, hv, hb, hh, hle, hm, hc, ht⟩⟩ := h
 · exact absurd h0.1 (by simp)
 · cases hv
   refine ⟨rfl, hm, fun j u hu => ?_, fun j hj => ⟨?_, ?_⟩⟩
   · have hj : j < xs.length := by have := (List.getElem?_eq_some_iff.1 hu).1; rwa [vals_len] at this
     have e1 : (cur.toList.take (xs.length * 1))[j]? = cur.toList[j]? := by rw [List.getElem?_take_of_lt (by omega)]
     have h2 : cur[j]? = some u := by rw [← Array.getElem?_toList, ← e1, ht]; exact hu
     rw [Nat.zero_add]
     unfold World.cell?
     simp [hh, h2]
   · unfold World.cell?
     simp [hh, hc, hj]
   · unfold World.frozen?
     simp [hh]
theorem wp_push {w : World} {o : Oper} {a : Act} {K : Act → World → Prop} {Q : Exit → Act → World → Prop} (s x : Operand)
 (ho : o.op = .call { callee := .builtin .append, args := #[s, x], argTypes := #[73, 73] })
 (lo b cap : Nat) (xs : List Int) (hs : a.eval s = .slice (some ⟨b, 0, none⟩) xs.length cap) (hown : Own w lo (.slice (some ⟨b, 0, none⟩) xs.length cap) xs) (hlo : lo ≤ w.heap.size)
 (ad : Addr) (y : Int) (hx : a.eval x = .slice (some ad) 1 1) (hc : w.cell? (ad.add 0) = some (.int .i64 y)) (hl : xs.length ≤ 1000000000000)
 (h : ∀ (g' cap' : Nat) (w' : World), Own w' lo (.slice (some ⟨g', 0, none⟩) (xs ++ [y]).length cap') (xs ++ [y]) → (g' = b ∨ w.heap.size ≤ g') → g' < w'.heap.size → Turn b w w' →
  K (a.put o.dst (.slice (some ⟨g', 0, none⟩) (xs ++ [y]).length cap')) w') : o.wp Tryz.prog a w K Q := by
 obtain ⟨i0, hi, hz, hsz, hby⟩ := info_int
 obtain ⟨_, hcap, hcells, hspare⟩ := hown.cells
 have hnews : ∀ j u, ([.int .i64 y] : List Value)[j]? = some u → w.cell? (ad.add j) = some u := fun j u hu => by
  match j, hu with
  | 0, hu => cases hu; exact hc
  | j + 1, hu => simp at hu
 have hone : ∀ u ∈ ([.int .i64 y] : List Value), u.oneCell' = true := fun u hu => by simp at hu; subst hu; rfl
 have e2 : vals xs ++ [.int .i64 y] = vals (xs ++ [y]) := by simp [vals]
 have e3 : xs.length + 1 = (xs ++ [y]).length := by simp
 by_cases hr : xs.length + 1 ≤ cap
 · have hrun := run_append_room_cells (P := Tryz.prog) w 73 o.type 3 i0 Tryz.underlying73 hi b 0 xs.length cap ad 1 1 [.int .i64 y] (by rw [hsz]; rfl) hnews hone hr (fun j hj => by
    have hj0 : j = 0 := by simpa using hj
    subst hj0
    have := (hspare xs.length (by omega)).1
    rw [hsz]
    simpa using this) (fun j hj => by
    have hj0 : j = 0 := by simpa using hj
    subst hj0
    have := (hspare xs.length (by omega)).2
    rw [hsz]
    simpa using this)
   obtain ⟨v', w', hr2, g1, g2, _⟩ := run_append_own (P := Tryz.prog) w lo 73 o.type 3 i0 (.int .i64 0) 1 8 Tryz.underlying73 hi hz hsz hby rfl (by decide) (.slice (some ⟨b, 0, none⟩) xs.length cap) xs.length (vals xs) hown ad 1 1 [.int .i64 y] rfl hnews hone (by unfold maxLen; omega) (by omega) hlo
   rw [hrun] at hr2
   obtain ⟨rfl, rfl⟩ : .slice (some ⟨b, 0, none⟩) (xs.length + 1) cap = v' ∧ w.setCells b (0 + xs.length * i0.size) [.int .i64 y] = w' := by cases hr2; exact ⟨rfl, rfl⟩
   unfold Oper.wp
   simp [execOp, ho, resolve, invoke, builtin, hs, hx, hrun, Result.andThen]
   rw [e2] at g1
   have g1' : Own (w.setCells b (0 + xs.length * i0.size) [.int .i64 y]) lo (.slice (some ⟨b, 0, none⟩) (xs ++ [y]).length cap) (xs ++ [y]) := by
    unfold Own
    rw [← e3]
    exact g1
   have hh := h b cap _ g1' (Or.inl rfl) g1'.isT.lt (Turn.of_grown g2)
   simpa [Oper.upon] using hh
 · obtain ⟨v', w', hrun, g1, g2⟩ := run_append_arg_grows (P := Tryz.prog) w 73 o.type 3 i0 (.int .i64 0) 1 8 Tryz.underlying73 hi hz hsz hby rfl (by decide) ⟨b, 0, none⟩ xs.length cap (vals xs) (by rw [vals_len]; omega) (fun j u hj => by rw [Addr.add_lit]; exact hcells j u hj) ad 1 1 [.int .i64 y] rfl hnews (by omega) (by unfold maxLen; omega) (by omega)
   rw [e2] at g1
   have g1' : Own w' w.heap.size v' (xs ++ [y]) := by
    unfold Own
    rw [← e3]
    exact g1
   have hne : ¬ v' = .slice none 0 0 := fun e => by
    obtain ⟨hl0, h0 | ⟨g, c, _, hv, _⟩⟩ := g1
    · exact absurd h0.2 (by omega)
    · rw [hv] at e; cases e
   obtain ⟨g', cap', rfl, k1, k2, k3⟩ := g1'.form hne
   unfold Oper.wp
   simp [execOp, ho, resolve, invoke, builtin, hs, hx, hrun, Result.andThen]
   have hb : Below w.heap.size w w' := ⟨g2.os, g2.tape, g2.output, g2.size, fun k hk => g2.block k hk (by simp)⟩
   have hh := h g' cap' w' (g1'.mono hlo) (Or.inr k1) k2 (Turn.of_below hb)
   simpa [Oper.upon] using hh
theorem wpList_push {w : World} {ops : Array Oper} {rest : List Oper} {o : Oper} {a : Act} {Q : Exit → Act → World → Prop} (hgd : o.guard = none) (s x : Operand)
 (ho : o.op = .call { callee := .builtin .append, args := #[s, x], argTypes := #[73, 73] })
 (lo b cap : Nat) (xs : List Int) (hs : a.eval s = .slice (some ⟨b, 0, none⟩) xs.length cap) (hown : Own w lo (.slice (some ⟨b, 0, none⟩) xs.length cap) xs) (hlo : lo ≤ w.heap.size)
 (ad : Addr) (y : Int) (hx : a.eval x = .slice (some ad) 1 1) (hc : w.cell? (ad.add 0) = some (.int .i64 y)) (hl : xs.length ≤ 1000000000000)
 (h : ∀ (g' cap' : Nat) (w' : World), Own w' lo (.slice (some ⟨g', 0, none⟩) (xs ++ [y]).length cap') (xs ++ [y]) → (g' = b ∨ w.heap.size ≤ g') → g' < w'.heap.size → Turn b w w' →
  wpList Tryz.prog ops Q rest (a.put o.dst (.slice (some ⟨g', 0, none⟩) (xs ++ [y]).length cap')) w') : wpList Tryz.prog ops Q (o :: rest) a w := by
 exact wpList_plain hgd fun K hK => wp_push s x ho lo b cap xs hs hown hlo ad y hx hc hl fun g' cap' w' h1 h2 h3 h4 => hK _ _ (h g' cap' w' h1 h2 h3 h4)
end Go.Proofs.YtggilenddbobnaaGreat.IntS
namespace Go.Proofs.YtggilenddbobnaaGreat.Pol
open Go.ChangeShapes Go.WideShapes Go.ChangeAt Go.RowKit IntS
theorem infoMono : ∃ i, Tryz.prog.info? 82 = some i ∧ i.zero = some (.agg #[.int .i64 0, .slice none 0 0]) ∧ i.size = 2 ∧ i.bytes = 32 := by
 have hinfo : (Tryz.prog.info? 82).map (fun i => (i.zero, i.size, i.bytes)) = some (some (.agg #[.int .i64 0, .slice none 0 0]), 2, 32) := by kernel_rfl
 obtain ⟨i, hi, h⟩ := Option.map_eq_some_iff.1 hinfo
 simp only [Prod.mk.injEq] at h
 exact ⟨i, hi, h.1, h.2.1, h.2.2⟩
/-- The cells of parts: each a word, and a slice. -/
def flat : List (Int × Value) → List Value
 | [] => []
 | c :: r => .int .i64 c.1 :: c.2 :: flat r
theorem flat_len : ∀ cs : List (Int × Value), (flat cs).length = cs.length * 2
 | [] => rfl
 | c :: r => by simp [flat, flat_len r]; omega
theorem flat_app : ∀ a b : List (Int × Value), flat (a ++ b) = flat a ++ flat b
 | [], b => rfl
 | c :: a, b => by simp [flat, flat_app a b]
theorem flat_at : ∀ (cs : List (Int × Value)) (i : Nat) (c : Int × Value), cs[i]? = some c → (flat cs)[i * 2]? = some (.int .i64 c.1) ∧ (flat cs)[i * 2 + 1]? = some c.2
 | [], i, c, h => by simp at h
 | d :: r, 0, c, h => by
  obtain rfl := Option.some.inj h
  exact ⟨rfl, rfl⟩
 | d :: r, i + 1, c, h => by
  have := flat_at r i c h
  rw [show (i + 1) * 2 = i * 2 + 1 + 1 by omega]
  exact this
/-- A slice of parts that the call made, from its array's first place on. -/
def OwnM (w : World) (base : Nat) (v : Value) (cs : List (Int × Value)) : Prop := w.ownsRow base 82 2 v cs.length (flat cs)
theorem OwnM.cells {w : World} {base G n cap : Nat} {cs : List (Int × Value)} (h : OwnM w base (.slice (some ⟨G, 0, none⟩) n cap) cs) : n = cs.length ∧ n ≤ cap ∧ cap ≤ maxLen ∧ base ≤ G ∧ IsT w G 82 ∧ (∀ (i : Nat) c, cs[i]? = some c → w.cell? ⟨G, i * 2, none⟩ = some (.int .i64 c.1) ∧ w.cell? ⟨G, i * 2 + 1, none⟩ = some c.2) ∧ ∀ i, w.frozen? ⟨G, i, none⟩ = false := by
 obtain ⟨hl, h0 | ⟨g', cap', cur, hv, hb, hh, hle, hm, hc, ht⟩⟩ := h
 · exact absurd h0.1 (by simp)
 · cases hv
   have hat (j : Nat) (u : Value) (hu : (flat cs)[j]? = some u) : w.cell? ⟨G, j, none⟩ = some u := by
    have hj : j < cs.length * 2 := by rw [← flat_len]; exact (List.getElem?_eq_some_iff.1 hu).1
    rw [← ht, List.getElem?_take, if_pos hj] at hu
    unfold World.cell?
    simp only [hh]
    simpa using hu
   refine ⟨rfl, hle, hm, hb, ⟨cur, _, hh⟩, fun i c hc2 => ⟨hat _ _ (flat_at cs i c hc2).1, hat _ _ (flat_at cs i c hc2).2⟩, fun i => ?_⟩
   unfold World.frozen?
   simp [hh]
theorem OwnM.form {w : World} {base : Nat} {v : Value} {cs : List (Int × Value)} (h : OwnM w base v cs) (hn : ¬ v = .slice none 0 0) : ∃ G cap, v = .slice (some ⟨G, 0, none⟩) cs.length cap := by
 obtain ⟨hl, h0 | ⟨g', cap', cur, hv, _⟩⟩ := h
 · exact absurd h0.1 hn
 · exact ⟨g', cap', hv⟩
theorem OwnM.turn {w w' : World} {base B : Nat} {v : Value} {cs : List (Int × Value)} (h : OwnM w base v cs) (ht : Turn B w w') (hB : ∀ G n cap, v = .slice (some ⟨G, 0, none⟩) n cap → G ≠ B) : OwnM w' base v cs := by
 obtain ⟨hl, h0 | ⟨g', cap', cur, hv, hb, hh, rest⟩⟩ := h
 · exact ⟨hl, Or.inl h0⟩
 · refine ⟨hl, Or.inr ⟨g', cap', cur, hv, hb, ?_, rest⟩⟩
   rw [ht.block g' (by rcases Nat.lt_or_ge g' w.heap.size with h' | h'; exact h'; rw [Array.getElem?_eq_none h'] at hh; cases hh) (hB _ _ _ hv)]
   exact hh
theorem OwnM.below {w w' : World} {base : Nat} {v : Value} {cs : List (Int × Value)} (h : OwnM w base v cs) (hb : Below w.heap.size w w') : OwnM w' base v cs := by
 obtain ⟨hl, h0 | ⟨g', cap', cur, hv, hb2, hh, rest⟩⟩ := h
 · exact ⟨hl, Or.inl h0⟩
 · refine ⟨hl, Or.inr ⟨g', cap', cur, hv, hb2, ?_, rest⟩⟩
   rw [hb.block g' (by rcases Nat.lt_or_ge g' w.heap.size with h' | h'; exact h'; rw [Array.getElem?_eq_none h'] at hh; cases hh)]
   exact hh
theorem wpList_pushM {w : World} {ops : Array Oper} {rest : List Oper} {o : Oper} {a : Act} {Q : Exit → Act → World → Prop} (hgd : o.guard = none) (s x : Operand)
 (ho : o.op = .call { callee := .builtin .append, args := #[s, x], argTypes := #[33, 33] })
 (lo : Nat) (v : Value) (cs : List (Int × Value)) (hs : a.eval s = v) (hown : OwnM w lo v cs) (hlo : lo ≤ w.heap.size)
 (ad : Addr) (c : Int) (q : Option Addr) (m k : Nat) (hx : a.eval x = .slice (some ad) 1 1) (hc : w.cell? (ad.add 0) = some (.int .i64 c)) (hc2 : w.cell? (ad.add 1) = some (.slice q m k)) (hl : cs.length ≤ 1000000)
 (h : ∀ (G cap : Nat) (w' : World), Hid (OwnM w' lo (.slice (some ⟨G, 0, none⟩) (cs.length + 1) cap) (cs ++ [(c, .slice q m k)])) → Hid (w.grownBy w' v.ownBlock) → wpList Tryz.prog ops Q rest (a.put o.dst (.slice (some ⟨G, 0, none⟩) (cs.length + 1) cap)) w') : wpList Tryz.prog ops Q (o :: rest) a w := by
 obtain ⟨i, hi, hz, hsz, hby⟩ := infoMono
 refine wpList_append_own w hgd s x 33 ho lo 82 i _ 2 32 Tryz.underlying33 hi hz hsz hby rfl (by decide) v cs.length (flat cs) hs hown ad 1 1 [.int .i64 c, .slice q m k] hx rfl (fun j u hu => ?_) (fun u hu => by simp at hu; rcases hu with rfl | rfl <;> rfl) (by unfold maxLen; omega) (by omega) hlo fun v' w' h1 h2 h3 => ?_
 · match j, hu with
   | 0, hu => cases hu; exact hc
   | 1, hu => cases hu; exact hc2
   | j + 2, hu => simp at hu
 · have e : flat cs ++ [.int .i64 c, .slice q m k] = flat (cs ++ [(c, .slice q m k)]) := by rw [flat_app]; rfl
   rw [e] at h1
   have g1 : OwnM w' lo v' (cs ++ [(c, .slice q m k)]) := by
    unfold OwnM
    rw [List.length_append]
    exact h1
   obtain ⟨G, cap, rfl⟩ := g1.form (fun e2 => by have := (h3.1 e2).2; omega)
   rw [List.length_append] at g1
   have := h G cap w' g1 h2
   simpa using this
end Go.Proofs.YtggilenddbobnaaGreat.Pol
namespace Go.Proofs.YtggilenddbobnaaGreat.Phase
open Go
section
variable {P : Program} {ops : Array Oper} {Q : Exit → Act → World → Prop} {md : Region.Mode} {S : World → Prop} {n : Nat}
/-- Whatever order is picked from here on, and S holds behind every operation of the first phase. -/
def wpAnyQ (P : Program) (md : Region.Mode) (ops : Array Oper) (Q : Exit → Act → World → Prop) (S : World → Prop) (n : Nat) : Nat → Array Bool → Act → World → Prop
 | 0, listed, a, w => Region.ready md ops listed = [] ∧ Q .normal a w
 | fuel + 1, listed, a, w =>
  (Region.ready md ops listed = [] → Q .normal a w) ∧
  ∀ i ∈ Region.ready md ops listed, wpOp P ops Q i (fun a' w' => (i < n → S w') ∧ wpAnyQ P md ops Q S n fuel (listed.setIfInBounds i true) a' w') a w
theorem any_of_Q : ∀ (fuel : Nat) (listed : Array Bool) (a : Act) (w : World), wpAnyQ P md ops Q S n fuel listed a w → wpAny P md ops Q fuel listed a w
 | 0, _, _, _, h => h
 | fuel + 1, _, _, _, h => ⟨h.1, fun i hi => wpOp_mono (fun a' w' h' => any_of_Q fuel _ a' w' h'.2) (h.2 i hi)⟩
/-- Every operation of the second phase waits for number i. -/
def Waits (md : Region.Mode) (ops : Array Oper) (n i : Nat) : Prop := ∀ (k : Nat) (ok : Oper), n ≤ k → ops[k]? = some ok → ∃ e ∈ ok.after, Region.binds md e = true ∧ e.on = i
def waitsB (md : Region.Mode) (ops : Array Oper) (n i : Nat) : Bool := (ops.toList.drop n).all fun ok => ok.after.any fun e => Region.binds md e && e.on == i
theorem waits_of {i : Nat} (h : waitsB md ops n i = true) : Waits md ops n i := by
 intro k ok hk hok
 unfold waitsB at h
 rw [List.all_eq_true] at h
 have hm : ok ∈ ops.toList.drop n := by
  rw [List.mem_iff_getElem?]
  exact ⟨k - n, by rw [List.getElem?_drop, show n + (k - n) = k by omega, Array.getElem?_toList]; exact hok⟩
 have h2 := h ok hm
 rw [Array.any_eq_true] at h2
 obtain ⟨j, hj, h3⟩ := h2
 simp only [Bool.and_eq_true, beq_iff_eq] at h3
 exact ⟨ok.after[j], Array.getElem_mem hj, h3.1, h3.2⟩
theorem unlisted {i : Nat} {listed : Array Bool} (h : i ∈ Region.ready md ops listed) : ¬ listed.getD i false = true := fun h1 => by
 have h0 := (mem_ready.1 h).1
 rcases Nat.lt_or_ge i listed.size with h' | h'
 · simp [h'] at h0 h1; rw [h0] at h1; cases h1
 · simp [Array.getElem?_eq_none h'] at h1
theorem first {i : Nat} {oi : Oper} {v : Value} (hi : ops[i]? = some oi) (hw : Waits md ops n i) (hin : i < n) (hsel : ∀ (j : Nat) (o : Oper) cs b, ops[j]? = some o → o.op ≠ .select cs b)
 (hQ : ∀ c a w, Q (.panic c) (a.put oi.dst v) w → Q (.panic c) a w) :
 ∀ (fuel : Nat) (listed : Array Bool) (a : Act) (w : World),
  (∀ j oj, ops[j]? = some oj → j ≠ i → listed.getD j true = false → (∀ e ∈ oj.after, Region.binds md e = true → e.on ≠ i) → oi.apart ops oj = true) →
  i ∈ Region.ready md ops listed → YieldsIf P ops S oi v a → S w →
  wpAnyQ P md ops Q S n fuel (listed.setIfInBounds i true) (a.put oi.dst v) w → wpAnyQ P md ops Q S n (fuel + 1) listed a w := by
 intro fuel
 induction fuel with
 | zero =>
  intro listed a w _ hr hy hS H
  refine ⟨fun h => (by rw [h] at hr; cases hr), fun j hj => ?_⟩
  by_cases hji : j = i
  · subst hji; exact hy.wpOp hi hS ⟨fun _ => hS, H⟩
  · have := ready_mono hj hji
    rw [H.1] at this
    cases this
 | succ fuel ih =>
  intro listed a w hfree hr hy hS H
  refine ⟨fun h => (by rw [h] at hr; cases hr), fun j hj => ?_⟩
  by_cases hji : j = i
  · subst hji; exact hy.wpOp hi hS ⟨fun _ => hS, H⟩
  · have h1 := H.2 j (ready_mono hj hji)
    obtain ⟨hjun, oj, hoj, hall⟩ := mem_ready.1 hj
    have hnot : ∀ e ∈ oj.after, Region.binds md e = true → e.on ≠ i := fun e he hb heq => by
     have h1 := hall e he hb
     rw [heq] at h1
     exact unlisted hr h1
    have hjn : j < n := by
     rcases Nat.lt_or_ge j n with h | h
     · exact h
     · obtain ⟨e, he, hb, heq⟩ := hw j oj h hoj
       exact absurd heq (hnot e he hb)
    have h2 := wpOp_putIf hoj (hfree j oj hoj hji hjun hnot) (fun cs b => hsel i oi cs b hi) (fun cs b => hsel j oj cs b hoj) hQ hy h1
    have hfree' : ∀ k ok, ops[k]? = some ok → k ≠ i → (listed.setIfInBounds j true).getD k true = false →
     (∀ e ∈ ok.after, Region.binds md e = true → e.on ≠ i) → oi.apart ops ok = true := fun k ok hk hki hun hno => by
     refine hfree k ok hk hki ?_ hno
     by_cases hjk : j = k
     · subst hjk; exact hjun
     · rw [getD_set_ne true hjk] at hun; exact hun
    refine wpOp_mono (fun a' w' h3 => ⟨h3.2.1, ih (listed.setIfInBounds j true) a' w' hfree' (ready_mono hr (Ne.symm hji)) h3.1 (h3.2.1 hjn) ?_⟩) h2
    rw [Array.setIfInBounds_comm _ _ hji]
    exact h3.2.2
/-- Take number i first. -/
theorem take {i : Nat} {oi : Oper} {v : Value} {fuel : Nat} {listed : Array Bool} {a : Act} {w : World} (hi : ops[i]? = some oi) (hw : waitsB md ops n i = true) (hin : i < n)
 (hs : Region.noSelect ops = true) (hf : Region.free md ops listed i = true) (hr : (Region.ready md ops listed).contains i = true)
 (hQ : ∀ c a w, Q (.panic c) (a.put oi.dst v) w → Q (.panic c) a w) (hy : YieldsIf P ops S oi v a) (hS : S w)
 (h : wpAnyQ P md ops Q S n fuel (listed.setIfInBounds i true) (a.put oi.dst v) w) : wpAnyQ P md ops Q S n (fuel + 1) listed a w :=
 first hi (waits_of hw) hin (Region.noSelect_spec hs) hQ fuel listed a w (Region.free_spec hi hf) (by simpa using hr) hy hS h
theorem firstW {i : Nat} {oi : Oper} {v : Value} (hi : ops[i]? = some oi) (hin : n ≤ i) (hsel : ∀ (j : Nat) (o : Oper) cs b, ops[j]? = some o → o.op ≠ .select cs b)
 (hQ : ∀ c a w, Q (.panic c) (a.put oi.dst v) w → Q (.panic c) a w) :
 ∀ (fuel : Nat) (listed : Array Bool) (a : Act) (w : World),
  (∀ j oj, ops[j]? = some oj → j ≠ i → listed.getD j true = false → (∀ e ∈ oj.after, Region.binds md e = true → e.on ≠ i) → oi.apart ops oj = true) →
  i ∈ Region.ready md ops listed → YieldsIf P ops (fun _ => True) oi v a →
  wpAnyQ P md ops Q S n fuel (listed.setIfInBounds i true) (a.put oi.dst v) w → wpAnyQ P md ops Q S n (fuel + 1) listed a w := by
 intro fuel
 induction fuel with
 | zero =>
  intro listed a w _ hr hy H
  refine ⟨fun h => (by rw [h] at hr; cases hr), fun j hj => ?_⟩
  by_cases hji : j = i
  · subst hji; exact hy.wpOp hi trivial ⟨fun h => absurd h (by omega), H⟩
  · have := ready_mono hj hji
    rw [H.1] at this
    cases this
 | succ fuel ih =>
  intro listed a w hfree hr hy H
  refine ⟨fun h => (by rw [h] at hr; cases hr), fun j hj => ?_⟩
  by_cases hji : j = i
  · subst hji; exact hy.wpOp hi trivial ⟨fun h => absurd h (by omega), H⟩
  · have h1 := H.2 j (ready_mono hj hji)
    obtain ⟨hjun, oj, hoj, hall⟩ := mem_ready.1 hj
    have hnot : ∀ e ∈ oj.after, Region.binds md e = true → e.on ≠ i := fun e he hb heq => by
     have h1 := hall e he hb
     rw [heq] at h1
     exact unlisted hr h1
    have h2 := wpOp_putIf hoj (hfree j oj hoj hji hjun hnot) (fun cs b => hsel i oi cs b hi) (fun cs b => hsel j oj cs b hoj) hQ hy h1
    have hfree' : ∀ k ok, ops[k]? = some ok → k ≠ i → (listed.setIfInBounds j true).getD k true = false →
     (∀ e ∈ ok.after, Region.binds md e = true → e.on ≠ i) → oi.apart ops ok = true := fun k ok hk hki hun hno => by
     refine hfree k ok hk hki ?_ hno
     by_cases hjk : j = k
     · subst hjk; exact hjun
     · rw [getD_set_ne true hjk] at hun; exact hun
    refine wpOp_mono (fun a' w' h3 => ⟨h3.2.1, ih (listed.setIfInBounds j true) a' w' hfree' (ready_mono hr (Ne.symm hji)) h3.1 ?_⟩) h2
    rw [Array.setIfInBounds_comm _ _ hji]
    exact h3.2.2
/-- Take number i of the second phase first: it yields in whatever world. -/
theorem takeW {i : Nat} {oi : Oper} {v : Value} {fuel : Nat} {listed : Array Bool} {a : Act} {w : World} (hi : ops[i]? = some oi) (hin : n ≤ i)
 (hs : Region.noSelect ops = true) (hf : Region.free md ops listed i = true) (hr : (Region.ready md ops listed).contains i = true)
 (hQ : ∀ c a w, Q (.panic c) (a.put oi.dst v) w → Q (.panic c) a w) (hy : YieldsIf P ops (fun _ => True) oi v a)
 (h : wpAnyQ P md ops Q S n fuel (listed.setIfInBounds i true) (a.put oi.dst v) w) : wpAnyQ P md ops Q S n (fuel + 1) listed a w :=
 firstW hi hin (Region.noSelect_spec hs) hQ fuel listed a w (Region.free_spec hi hf) (by simpa using hr) hy h
def AllQ (P : Program) (md : Region.Mode) (ops : Array Oper) (Q : Exit → Act → World → Prop) (S : World → Prop) (n fuel : Nat) (listed : Array Bool) (a : Act) (w : World) (rs : List Nat) : Prop :=
 ∀ i ∈ rs, wpOp P ops Q i (fun a' w' => (i < n → S w') ∧ wpAnyQ P md ops Q S n fuel (listed.setIfInBounds i true) a' w') a w
theorem AllQ.nil {fuel : Nat} {listed : Array Bool} {a : Act} {w : World} : AllQ P md ops Q S n fuel listed a w [] := fun _ h => by cases h
theorem AllQ.cons {fuel : Nat} {listed : Array Bool} {a : Act} {w : World} {i : Nat} {o : Oper} {rs : List Nat} (ho : ops[i]? = some o)
 (h : ∀ K' : Act → World → Prop, Shut (∀ a w, (i < n → S w) → wpAnyQ P md ops Q S n fuel (listed.setIfInBounds i true) a w → K' a w) → if Region.wanted o (yielded ops a.tmps) = true then Oper.wp P o a w K' Q else K' (a.put o.dst undef) w)
 (hs : AllQ P md ops Q S n fuel listed a w rs) : AllQ P md ops Q S n fuel listed a w (i :: rs) := fun j hj => by
 rcases List.mem_cons.1 hj with rfl | hj
 · exact wpOp_step ho (fun K' hK => h K' (fun a w hS hW => hK a w ⟨hS, hW⟩))
 · exact hs j hj
theorem ready {rs : List Nat} {fuel : Nat} {listed : Array Bool} {a : Act} {w : World} (hr : Region.ready md ops listed = rs) (hne : rs ≠ [])
 (h : AllQ P md ops Q S n fuel listed a w rs) : wpAnyQ P md ops Q S n (fuel + 1) listed a w := ⟨fun h0 => absurd (hr ▸ h0) hne, hr ▸ h⟩
theorem done {listed : Array Bool} {a : Act} {w : World} (hr : Region.ready md ops listed = []) (h : Q .normal a w) : ∀ fuel, wpAnyQ P md ops Q S n fuel listed a w
 | 0 => ⟨hr, h⟩
 | _ + 1 => ⟨fun _ => h, by rw [hr]; simp⟩
/-- The beginning. -/
theorem region {id : Nat} {a : Act} {w : World} (n : Nat) (hm : P.follows .mixedOrders = true) (h : wpAnyQ P .any ops Q S n ops.size (Array.replicate ops.size false) a w.drew) : (Code.region id ops true).wp P Q a w :=
 wp_region_any hm (any_of_Q _ _ _ _ h)
end
end Go.Proofs.YtggilenddbobnaaGreat.Phase
namespace Go.Proofs.YtggilenddbobnaaGreat.Pol
set_option linter.unusedSimpArgs false
set_option linter.unusedVariables false
open Go.ChangeShapes Go.WideShapes Go.ChangeAt Go.RowKit IntS
theorem wp_copyA {w : World} {o : Oper} {a : Act} {K : Act → World → Prop} {Q : Exit → Act → World → Prop} (s x : Operand)
 (ho : o.op = .call { callee := .builtin .append, args := #[s, x], argTypes := #[73, 73] })
 (g : Nat) (hg : w.heap[g]? = some (.cells #[] 3 (0, 0))) (hs : a.eval s = .slice (some ⟨g, 0, none⟩) 0 0)
 (v : Value) (B : Nat) (xs : List Int) (hx : a.eval x = v) (hr : Row w B v xs) (hl : xs.length ≤ 1000000000000)
 (h : ∀ (g' cap' : Nat) (w' : World), IntS.Own w' g (.slice (some ⟨g', 0, none⟩) xs.length cap') xs → WRow w' g' (.slice (some ⟨g', 0, none⟩) xs.length cap') xs → g ≤ g' → g' < w'.heap.size → Turn g w w' →
  K (a.put o.dst (.slice (some ⟨g', 0, none⟩) xs.length cap')) w') : o.wp Tryz.prog a w K Q := by
 obtain ⟨i0, hi, hz, hsz, hby⟩ := info_int
 have hown := own_empty hg
 have hlt : g < w.heap.size := by
  rcases Nat.lt_or_ge g w.heap.size with h' | h'
  · exact h'
  · rw [Array.getElem?_eq_none h'] at hg; cases hg
 have key (ad : Addr) (m c : Nat) (hv : v = .slice (some ad) m c) (hm : xs.length = m) (hc : ∀ j u, (vals xs)[j]? = some u → w.cell? (ad.add j) = some u) : o.wp Tryz.prog a w K Q := by
  subst hm
  refine wp_append_own w s x 73 ho g 3 i0 (.int .i64 0) 1 8 Tryz.underlying73 hi hz hsz hby rfl (by decide) (.slice (some ⟨g, 0, none⟩) 0 0) 0 [] hs hown ad xs.length c (vals xs) (hx.trans hv) (by rw [vals_len]; omega) hc (fun u hu => ?_) (by unfold maxLen; omega) (by omega) (Nat.le_of_lt hlt) (fun v' w' h1 h2 h3 => ?_)
  · obtain ⟨y, _, rfl⟩ := List.mem_map.1 hu
    rfl
  · have hne : ¬ v' = .slice none 0 0 := fun e => by cases (h3.1 e).1
    have h1' : IntS.Own w' g v' xs := by
     unfold IntS.Own
     rw [Nat.zero_add, List.nil_append] at h1
     exact h1
    obtain ⟨g', cap', rfl, k1, k2, k3⟩ := h1'.form hne
    exact h g' cap' w' h1' k3 k1 k2 (Turn.of_grown h2)
 obtain ⟨a0, cap, off, hv, h2, h3, hz0, h4⟩ := hr
 cases a0 with
 | none =>
  have hc0 := hz0 rfl
  subst hc0
  have hx0 : xs = [] := List.length_eq_zero_iff.1 (by omega)
  subst hx0
  have hrun := run_append_owned_none (P := Tryz.prog) (w := w) g 73 o.type 3 i0 1 Tryz.underlying73 hi (.slice (some ⟨g, 0, none⟩) 0 0) 0 [] hown
  obtain ⟨g', cap', e, k1, k2, k3⟩ := hown.form (fun e => by cases e)
  cases e
  have hh := h g 0 w hown k3 k1 k2 (Turn.refl _ _)
  unfold Oper.wp
  simp [execOp, ho, resolve, invoke, builtin, hs, hx.trans hv, hrun, Result.andThen]
  simpa [Oper.upon] using hh
 | some ad =>
  rcases h4 with h4 | ⟨h4, h5⟩
  · subst h4
    exact key ad 0 cap hv rfl (fun j u hu => by simp [vals] at hu)
  · refine key ad xs.length cap hv rfl (fun j u hu => ?_)
    cases h4
    rw [Go.WideShapes.add_plain]
    simp only [vals, List.getElem?_map, Option.map_eq_some_iff] at hu
    obtain ⟨y, hy, rfl⟩ := hu
    exact h5 j y hy
theorem wp_pushM {w : World} {o : Oper} {a : Act} {K : Act → World → Prop} {Q : Exit → Act → World → Prop} (s x : Operand)
 (ho : o.op = .call { callee := .builtin .append, args := #[s, x], argTypes := #[33, 33] })
 (lo : Nat) (v : Value) (cs : List (Int × Value)) (hs : a.eval s = v) (hown : OwnM w lo v cs) (hlo : lo ≤ w.heap.size)
 (ad : Addr) (c : Int) (q : Option Addr) (m k : Nat) (hx : a.eval x = .slice (some ad) 1 1) (hc : w.cell? (ad.add 0) = some (.int .i64 c)) (hc2 : w.cell? (ad.add 1) = some (.slice q m k)) (hl : cs.length ≤ 1000000)
 (h : ∀ (G cap : Nat) (w' : World), OwnM w' lo (.slice (some ⟨G, 0, none⟩) (cs.length + 1) cap) (cs ++ [(c, .slice q m k)]) → w.grownBy w' v.ownBlock → K (a.put o.dst (.slice (some ⟨G, 0, none⟩) (cs.length + 1) cap)) w') : o.wp Tryz.prog a w K Q := by
 obtain ⟨i, hi, hz, hsz, hby⟩ := infoMono
 refine wp_append_own w s x 33 ho lo 82 i _ 2 32 Tryz.underlying33 hi hz hsz hby rfl (by decide) v cs.length (flat cs) hs hown ad 1 1 [.int .i64 c, .slice q m k] hx rfl (fun j u hu => ?_) (fun u hu => by simp at hu; rcases hu with rfl | rfl <;> rfl) (by unfold maxLen; omega) (by omega) hlo fun v' w' h1 h2 h3 => ?_
 · match j, hu with
   | 0, hu => cases hu; exact hc
   | 1, hu => cases hu; exact hc2
   | j + 2, hu => simp at hu
 · have e : flat cs ++ [.int .i64 c, .slice q m k] = flat (cs ++ [(c, .slice q m k)]) := by rw [flat_app]; rfl
   rw [e] at h1
   have g1 : OwnM w' lo v' (cs ++ [(c, .slice q m k)]) := by
    unfold OwnM
    rw [List.length_append]
    exact h1
   obtain ⟨G, cap, rfl⟩ := g1.form (fun e2 => by have := (h3.1 e2).2; omega)
   rw [List.length_append] at g1
   have := h G cap w' g1 h2
   simpa using this
theorem ownBlock_turn {w w' : World} {vq : Option Addr} {vn vc base : Nat} {cs : List (Int × Value)} (h : OwnM w base (.slice vq vn vc) cs) (hg : w.grownBy w' (Value.slice vq vn vc).ownBlock) : ∃ T, Turn T w w' ∧ base ≤ T ∧ (∀ b, IsT w b 3 → b ≠ T) ∧ (T < w.heap.size → IsT w T 82) := by
 have mi : (82 : TypeId) ≠ 3 := by decide
 obtain ⟨hl, h0 | ⟨G, cap, cur, hv, hb, hh, rest⟩⟩ := h
 · cases h0.1
   refine ⟨w.heap.size + base, ⟨hg.os, hg.tape, hg.output, hg.size, fun k hk _ => hg.block k hk (by simp [Value.ownBlock])⟩, by omega, fun b hb e => by have := hb.lt; omega, fun h => by omega⟩
 · cases hv
   refine ⟨G, Turn.of_grown hg, hb, fun b hb2 e => ?_, fun _ => ⟨cur, _, hh⟩⟩
   exact (IsT.ne (⟨cur, _, hh⟩ : IsT w G 82) hb2 mi) e.symm
/-- Where a copy is: so many parts are there. -/
structure CopyP (w : World) (ps : List Mono) (k : Nat) (vq : Option Addr) (vc : Nat) (cs : List (Int × Value)) (g cp : Nat → Nat) (u : World) : Prop where
 res : Rec w.heap.size [.slice none 0 0] u
 p : Rec (w.heap.size + 1) [.slice vq k vc] u
 own : OwnM u (w.heap.size + 2) (.slice vq k vc) cs
 len : cs.length = k
 rows : ∀ (i : Nat) x, i < k → ps[i]? = some x → cs[i]? = some (x.1, .slice (some ⟨g i, 0, none⟩) x.2.length (cp i)) ∧ WRow u (g i) (.slice (some ⟨g i, 0, none⟩) x.2.length (cp i)) x.2 ∧ IsT u (g i) 3 ∧ w.heap.size + 2 ≤ g i
 inc : ∀ i j, i < j → j < k → g i < g j
 bw : Below w.heap.size w u
theorem OwnM.lt {w : World} {base G n cap : Nat} {cs : List (Int × Value)} (h : OwnM w base (.slice (some ⟨G, 0, none⟩) n cap) cs) : G < w.heap.size := h.cells.2.2.2.2.1.lt
theorem CopyP.turn {w u u' : World} {ps : List Mono} {k vc T : Nat} {vq : Option Addr} {cs : List (Int × Value)} {g cp : Nat → Nat} (h : CopyP w ps k vq vc cs g cp u) (ht : Turn T u u') (hT : u.heap.size ≤ T) : CopyP w ps k vq vc cs g cp u' := by
 have a := h.res.lt
 have b := h.p.lt
 refine ⟨h.res.turn ht (by omega), h.p.turn ht (by omega), h.own.turn ht (fun G n cap e => by have := h.own; rw [e] at this; have := this.lt; omega), h.len, fun i x hi hx => ?_, h.inc, h.bw.trans (ht.below (by omega) h.bw.size)⟩
 obtain ⟨k1, k2, k3, k4⟩ := h.rows i x hi hx
 have := k3.lt
 exact ⟨k1, k2.turn ht (by omega), k3.turn ht (by omega), k4⟩
theorem CopyP.below {w u u' : World} {ps : List Mono} {k vc : Nat} {vq : Option Addr} {cs : List (Int × Value)} {g cp : Nat → Nat} (h : CopyP w ps k vq vc cs g cp u) (hb : Below u.heap.size u u') : CopyP w ps k vq vc cs g cp u' := h.turn (T := u.heap.size) (Turn.of_below hb) (Nat.le_refl _)
theorem CopyP.next {w u u' : World} {ps : List Mono} {k vc G cap g' cp' : Nat} {vq : Option Addr} {cs : List (Int × Value)} {g cp : Nat → Nat} {x : Mono} (h : CopyP w ps k vq vc cs g cp u) (hx : ps[k]? = some x) (hg : ∀ i, i < k → g i < g') (hR : WRow u g' (.slice (some ⟨g', 0, none⟩) x.2.length cp') x.2) (hI : IsT u g' 3) (hlo : w.heap.size + 2 ≤ g')
 (ho : OwnM u' (w.heap.size + 2) (.slice (some ⟨G, 0, none⟩) (k + 1) cap) (cs ++ [(x.1, .slice (some ⟨g', 0, none⟩) x.2.length cp')])) (hgr : u.grownBy u' (Value.slice vq k vc).ownBlock) :
 CopyP w ps (k + 1) (some ⟨G, 0, none⟩) cap (cs ++ [(x.1, .slice (some ⟨g', 0, none⟩) x.2.length cp')]) (fun i => if i < k then g i else g') (fun i => if i < k then cp i else cp') (u'.setCell ⟨w.heap.size + 1, 0, none⟩ (.slice (some ⟨G, 0, none⟩) (k + 1) cap)) := by
 obtain ⟨T, ht, hT, hTi, _⟩ := ownBlock_turn h.own hgr
 have hG := ho.cells.2.2.2.1
 refine ⟨(h.res.turn ht (by omega)).other _ _ (by show w.heap.size + 1 ≠ w.heap.size; omega), (h.p.turn ht (by omega)).set 0 _ (by simp) rfl, ho.turn ((Turn.refl (w.heap.size + 1) u').setCell (p := ⟨w.heap.size + 1, 0, none⟩) rfl _) (fun G' n c e => by cases e; omega), by simp [h.len], fun i z hi hz => ?_, fun i j hij hj => ?_, (h.bw.trans (ht.below (by omega) h.bw.size)).setCell (by show w.heap.size ≤ w.heap.size + 1; omega) _⟩
 · by_cases e : i < k
   · simp only [if_pos e]
     obtain ⟨k1, k2, k3, k4⟩ := h.rows i z e hz
     exact ⟨by rw [List.getElem?_append_left (by rw [h.len]; exact e)]; exact k1, other_row (k2.turn ht (hTi _ k3)) _ _ (by show w.heap.size + 1 ≠ g i; omega), (k3.turn ht (hTi _ k3)).set _ _, k4⟩
   · obtain rfl : i = k := by omega
     rw [hx] at hz
     obtain rfl := Option.some.inj hz
     simp only [if_neg e]
     exact ⟨by rw [List.getElem?_append_right (by rw [h.len]; omega), h.len, Nat.sub_self]; rfl, other_row (hR.turn ht (hTi _ hI)) _ _ (by show w.heap.size + 1 ≠ g'; omega), (hI.turn ht (hTi _ hI)).set _ _, hlo⟩
 · by_cases e : j < k
   · simp only [if_pos e, if_pos (show i < k by omega)]
     exact h.inc i j hij e
   · simp only [if_neg e, if_pos (show i < k by omega)]
     exact hg i (by omega)
theorem CopyP.whole {w u : World} {ps : List Mono} {vc : Nat} {vq : Option Addr} {cs : List (Int × Value)} {g cp : Nat → Nat} (h : CopyP w ps ps.length vq vc cs g cp u) (hne : ps ≠ []) : WPoly u (w.heap.size + 2) u.heap.size (.slice vq ps.length vc) ps := by
 have hn : ¬ (Value.slice vq ps.length vc) = .slice none 0 0 := fun e => by
  have : ps.length = 0 := by injection e
  exact hne (List.length_eq_zero_iff.1 this)
 obtain ⟨G, cap, e⟩ := h.own.form hn
 rw [h.len] at e
 injection e with e1 _ e3
 subst e1 e3
 obtain ⟨_, hc, hm, hb, hI, hcells, hsoft⟩ := h.own.cells
 have mi : (82 : TypeId) ≠ 3 := by decide
 refine ⟨_, G, vc, g, fun i => .slice (some ⟨g i, 0, none⟩) (ps.getD i (0, [])).2.length (cp i), rfl, hc, hm, (fun h => by cases h), Or.inr ⟨rfl, by omega, hI.lt, hI.lt⟩, fun i x hx => ?_, fun i j x y hij hx hy => ?_⟩
 · have hi := (List.getElem?_eq_some_iff.1 hx).1
   obtain ⟨k1, k2, k3, k4⟩ := h.rows i x hi hx
   obtain ⟨c1, c2⟩ := hcells i _ k1
   simp only [getD_part hx]
   exact ⟨c1, hsoft _, c2, k2, Or.inr ⟨by omega, k3.lt, fun e => (IsT.ne hI k3 mi) e.symm⟩⟩
 · have := h.inc i j hij (List.getElem?_eq_some_iff.1 hy).1
   exact Or.inr (Or.inr (by omega))
end Go.Proofs.YtggilenddbobnaaGreat.Pol
