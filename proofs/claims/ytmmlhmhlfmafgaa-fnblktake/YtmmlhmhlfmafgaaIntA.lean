/-
  Slices of ints that the call itself makes: laws for 'append([]int{}, xs...)' whatever xs is.
-/
import Derived.Test.YtmmlhmhlfmafgaaIntS
import Derived.Laws.AppendOwn
import Derived.Laws.AppendOwnNone
import Derived.ArgAppend
import Derived.Deep.RegionLaw
namespace Go.Proofs.Ytmmlhmhlfmafgaa.IntS
open Go.ChangeShapes Go.WideShapes Go.ChangeAt Go.RowKit
theorem infoInt : (Try.prog.info? 3).map (fun i => (i.zero, i.size, i.bytes)) = some (some (.int .i64 0), 1, 8) := by kernel_rfl
theorem info_int : ∃ i, Try.prog.info? 3 = some i ∧ i.zero = some (.int .i64 0) ∧ i.size = 1 ∧ i.bytes = 8 := by
  obtain ⟨i, hi, h⟩ := Option.map_eq_some_iff.1 infoInt
  simp only [Prod.mk.injEq] at h
  exact ⟨i, hi, h.1, h.2.1, h.2.2⟩
def vals (xs : List Int) : List Value := xs.map (Value.int .i64)
theorem vals_len (xs : List Int) : (vals xs).length = xs.length := by simp [vals]
/-- A slice that the call made, from its array's first place on. -/
def Own (w : World) (base : Nat) (v : Value) (xs : List Int) : Prop := w.ownsRow base 3 1 v xs.length (vals xs)
theorem Own.form {w : World} {base : Nat} {v : Value} {xs : List Int} (h : Own w base v xs) (hn : ¬ v = .slice none 0 0) : ∃ g cap, v = .slice (some ⟨g, 0, none⟩) xs.length cap ∧ base ≤ g ∧ g < w.heap.size ∧ WRow w g v xs := by
  obtain ⟨hl, h0 | ⟨g, cap, cur, hv, hb, hg, hle, hm, hc, ht⟩⟩ := h
  · exact absurd h0.1 hn
  · have hlt : g < w.heap.size := by
      rcases Nat.lt_or_ge g w.heap.size with h' | h'
      · exact h'
      · rw [Array.getElem?_eq_none h'] at hg; cases hg
    refine ⟨g, cap, hv, hb, hlt, ⟨some ⟨g, 0, none⟩, cap, 0, hv, hle, hm, (fun h => by cases h), Or.inr ⟨rfl, hlt, fun i x hx => ?_⟩⟩⟩
    have hi : i < xs.length := (List.getElem?_eq_some_iff.1 hx).1
    have h1 : cur.toList[i]? = some (.int .i64 x) := by
      have e1 : (cur.toList.take (xs.length * 1))[i]? = cur.toList[i]? := by rw [List.getElem?_take_of_lt (by omega)]
      rw [← e1, ht]
      simp [vals, List.getElem?_map, hx]
    have h2 : cur[i]? = some (.int .i64 x) := by rw [← Array.getElem?_toList]; exact h1
    rw [Nat.zero_add]
    constructor
    · unfold World.cell?
      simp [hg, h2]
    · unfold World.frozen?
      simp [hg]
theorem Turn.of_grown {w w' : World} {g : Nat} (h : w.grownBy w' (some g)) : Turn g w w' := ⟨h.os, h.tape, h.output, h.size, fun k hk hB => h.block k hk (fun e => hB (Option.some.inj e))⟩
theorem own_empty {w : World} {g : Nat} (hg : w.heap[g]? = some (.cells #[] 3 (0, 0))) : Own w g (.slice (some ⟨g, 0, none⟩) 0 0) [] :=
  ⟨rfl, Or.inr ⟨g, 0, #[], rfl, Nat.le_refl _, hg, Nat.le_refl _, by unfold maxLen; omega, rfl, rfl⟩⟩
theorem wpList_copy {w : World} {ops : Array Oper} {rest : List Oper} {o : Oper} {a : Act} {Q : Exit → Act → World → Prop} (hgd : o.guard = none) (s x : Operand)
    (ho : o.op = .call { callee := .builtin .append, args := #[s, x], argTypes := #[25, 25] })
    (g : Nat) (hg : w.heap[g]? = some (.cells #[] 3 (0, 0))) (hs : a.eval s = .slice (some ⟨g, 0, none⟩) 0 0)
    (v : Value) (B : Nat) (xs : List Int) (hx : a.eval x = v) (hr : Row w B v xs) (hl : xs.length ≤ 1000000000000)
    (h : ∀ (g' cap' : Nat) (w' : World), Own w' g (.slice (some ⟨g', 0, none⟩) xs.length cap') xs → WRow w' g' (.slice (some ⟨g', 0, none⟩) xs.length cap') xs → g ≤ g' → g' < w'.heap.size → Turn g w w' →
      wpList Try.prog ops Q rest (a.put o.dst (.slice (some ⟨g', 0, none⟩) xs.length cap')) w') : wpList Try.prog ops Q (o :: rest) a w := by
  obtain ⟨i0, hi, hz, hsz, hby⟩ := info_int
  have hown := own_empty hg
  have hlt : g < w.heap.size := by
    rcases Nat.lt_or_ge g w.heap.size with h' | h'
    · exact h'
    · rw [Array.getElem?_eq_none h'] at hg; cases hg
  have key (ad : Addr) (m c : Nat) (hv : v = .slice (some ad) m c) (hm : xs.length = m) (hc : ∀ j u, (vals xs)[j]? = some u → w.cell? (ad.add j) = some u) : wpList Try.prog ops Q (o :: rest) a w := by
    subst hm
    refine wpList_append_own w hgd s x 25 ho g 3 i0 (.int .i64 0) 1 8 Try.underlying25 hi hz hsz hby rfl (by decide) (.slice (some ⟨g, 0, none⟩) 0 0) 0 [] hs hown ad xs.length c (vals xs) (hx.trans hv) (by rw [vals_len]; omega) hc (fun u hu => ?_) (by unfold maxLen; omega) (by omega) (Nat.le_of_lt hlt) (fun v' w' h1 h2 h3 => ?_)
    · obtain ⟨y, _, rfl⟩ := List.mem_map.1 hu
      rfl
    · have hne : ¬ v' = .slice none 0 0 := fun e => by cases (h3.1 e).1
      have h1' : Own w' g v' xs := by
        unfold Own
        rw [Nat.zero_add, List.nil_append] at h1
        exact h1
      obtain ⟨g', cap', rfl, k1, k2, k3⟩ := h1'.form hne
      exact h g' cap' w' h1' k3 k1 k2 (Turn.of_grown h2)
  obtain ⟨a0, cap, off, hv, h2, h3, hz0, h4⟩ := hr
  cases a0 with
  | none =>
    have hc0 := hz0 rfl
    subst hc0
    have hx0 : xs = [] := List.length_eq_zero_iff.1 (by omega)
    subst hx0
    refine wpList_append_own_none hgd s x 25 ho g 3 i0 1 Try.underlying25 hi (.slice (some ⟨g, 0, none⟩) 0 0) 0 [] hs hown (hx.trans hv) ?_
    obtain ⟨g', cap', e, k1, k2, k3⟩ := hown.form (fun e => by cases e)
    cases e
    exact h g 0 w hown k3 k1 k2 (Turn.refl _ _)
  | some ad =>
    rcases h4 with h4 | ⟨h4, h5⟩
    · subst h4
      exact key ad 0 cap hv rfl (fun j u hu => by simp [vals] at hu)
    · refine key ad xs.length cap hv rfl (fun j u hu => ?_)
      cases h4
      rw [Go.WideShapes.add_plain]
      simp only [vals, List.getElem?_map, Option.map_eq_some_iff] at hu
      obtain ⟨y, hy, rfl⟩ := hu
      exact h5 j y hy
theorem Own.turn {w w' : World} {base B g n cap : Nat} {xs : List Int} (h : Own w base (.slice (some ⟨g, 0, none⟩) n cap) xs) (ht : Turn B w w') (hB : g ≠ B) (hg : g < w.heap.size) : Own w' base (.slice (some ⟨g, 0, none⟩) n cap) xs := by
  obtain ⟨hl, h0 | ⟨g', cap', cur, hv, hb, hh, rest⟩⟩ := h
  · exact absurd h0.1 (by simp)
  · cases hv
    exact ⟨hl, Or.inr ⟨g, cap, cur, rfl, hb, by rw [ht.block g hg hB]; exact hh, rest⟩⟩
theorem Own.mono {w : World} {base base' : Nat} {v : Value} {xs : List Int} (h : Own w base v xs) (hb : base' ≤ base) : Own w base' v xs :=
  ⟨h.1, h.2.imp id fun ⟨g, cap, cur, h1, h2, r⟩ => ⟨g, cap, cur, h1, Nat.le_trans hb h2, r⟩⟩
theorem Own.set {w : World} {base g n cap : Nat} {xs : List Int} (h : Own w base (.slice (some ⟨g, 0, none⟩) n cap) xs) (p : Addr) (x : Value) (hp : p.block ≠ g) (hg : g < w.heap.size) : Own (w.setCell p x) base (.slice (some ⟨g, 0, none⟩) n cap) xs := h.turn ((Turn.refl p.block w).setCell rfl x) (fun e => hp e.symm) hg
/-- A block of cells of a type. -/
def IsT (w : World) (b : Nat) (t : TypeId) : Prop := ∃ cur fz, w.heap[b]? = some (.cells cur t fz)
theorem IsT.lt {w : World} {b : Nat} {t : TypeId} (h : IsT w b t) : b < w.heap.size := by
  obtain ⟨cur, fz, h⟩ := h
  rcases Nat.lt_or_ge b w.heap.size with h' | h'
  · exact h'
  · rw [Array.getElem?_eq_none h'] at h; cases h
theorem IsT.ne {w : World} {b b' : Nat} {t t' : TypeId} (h : IsT w b t) (h' : IsT w b' t') (ht : t ≠ t') : b ≠ b' := fun e => by
  subst e
  obtain ⟨cur, fz, h⟩ := h
  obtain ⟨cur', fz', h'⟩ := h'
  rw [h] at h'
  cases h'
  exact ht rfl
theorem IsT.turn {w w' : World} {b B : Nat} {t : TypeId} (h : IsT w b t) (ht : Turn B w w') (hB : b ≠ B) : IsT w' b t := by
  have hl := h.lt
  obtain ⟨cur, fz, h⟩ := h
  exact ⟨cur, fz, (ht.block b hl hB).trans h⟩
theorem IsT.below {w w' : World} {b : Nat} {t : TypeId} (h : IsT w b t) (hb : Below w.heap.size w w') : IsT w' b t := h.turn (B := b + 1) (Turn.of_below hb) (by omega)
theorem IsT.new (w : World) (cs : Array Value) (t : TypeId) : IsT (w.alloc (.cells cs t)) w.heap.size t := ⟨cs, _, (MapKept.heap_alloc w _).1⟩
theorem IsT.set {w : World} {b : Nat} {t : TypeId} (h : IsT w b t) (p : Addr) (v : Value) : IsT (w.setCell p v) b t := by
  by_cases e : b = p.block
  · subst e
    obtain ⟨cur, fz, h⟩ := h
    unfold IsT World.setCell
    simp [Array.getElem?_modify, h]
  · obtain ⟨cur, fz, h⟩ := h
    exact ⟨cur, fz, (Below.heap_setCell w p v b e).trans h⟩
theorem Own.isT {w : World} {base g n cap : Nat} {xs : List Int} (h : Own w base (.slice (some ⟨g, 0, none⟩) n cap) xs) : IsT w g 3 := by
  obtain ⟨hl, h0 | ⟨g', cap', cur, hv, hb, hh, rest⟩⟩ := h
  · exact absurd h0.1 (by simp)
  · cases hv
    exact ⟨cur, _, hh⟩
/-- Of the blocks that were there only blocks of ints from block lo on may have turned. -/
structure Ints (lo : Nat) (w w' : World) : Prop where
  os : w'.os = w.os
  tape : w'.tape = w.tape
  output : w'.output = w.output
  size : w.heap.size ≤ w'.heap.size
  low : ∀ k, k < w.heap.size → k < lo → w'.heap[k]? = w.heap[k]?
  rest : ∀ k, k < w.heap.size → ¬ IsT w k 3 → w'.heap[k]? = w.heap[k]?
theorem Ints.of_turn {lo B : Nat} {w w' : World} (h : Turn B w w') (ht : IsT w B 3) (hlo : lo ≤ B) : Ints lo w w' :=
  ⟨h.os, h.tape, h.output, h.size, fun k hk hl => h.block k hk (by omega), fun k hk hn => h.block k hk (fun e => hn (by rw [e]; exact ht))⟩
theorem Ints.of_below {lo : Nat} {w w' : World} (h : Below w.heap.size w w') : Ints lo w w' := ⟨h.os, h.tape, h.output, h.size, fun k hk _ => h.block k hk, fun k hk _ => h.block k hk⟩
theorem Ints.below {lo : Nat} {w w' : World} (h : Ints lo w w') (hlo : lo ≤ w.heap.size) : Below lo w w' := ⟨h.os, h.tape, h.output, h.size, fun k hk => h.low k (by omega) hk⟩
theorem Ints.trans {lo : Nat} {a b c : World} (h : Ints lo a b) (k : Ints lo b c) : Ints lo a c :=
  ⟨k.os.trans h.os, k.tape.trans h.tape, k.output.trans h.output, Nat.le_trans h.size k.size, fun j hj hl => (k.low j (Nat.lt_of_lt_of_le hj h.size) hl).trans (h.low j hj hl),
    fun j hj hn => (k.rest j (Nat.lt_of_lt_of_le hj h.size) (fun ⟨cur, fz, e⟩ => hn ⟨cur, fz, (h.rest j hj hn).symm.trans e⟩)).trans (h.rest j hj hn)⟩
theorem Turn.high {B : Nat} {w u : World} (h : Turn B w u) {p : Addr} (hp : w.heap.size ≤ p.block) (v : Value) : Turn B w (u.setCell p v) := by
  have hb : Below w.heap.size u (u.setCell p v) := (Below.refl _ u).setCell hp v
  exact ⟨hb.os.trans h.os, hb.tape.trans h.tape, hb.output.trans h.output, Nat.le_trans h.size hb.size, fun k hk hB => (hb.block k hk).trans (h.block k hk hB)⟩
theorem Ints.high {lo : Nat} {w u : World} (h : Ints lo w u) {p : Addr} (hp : w.heap.size ≤ p.block) (v : Value) : Ints lo w (u.setCell p v) := by
  have hb : Below w.heap.size u (u.setCell p v) := (Below.refl _ u).setCell hp v
  exact ⟨hb.os.trans h.os, hb.tape.trans h.tape, hb.output.trans h.output, Nat.le_trans h.size hb.size, fun k hk hl => (hb.block k hk).trans (h.low k hk hl), fun k hk hn => (hb.block k hk).trans (h.rest k hk hn)⟩
theorem IsT.ints {lo b : Nat} {w w' : World} {t : TypeId} (h : IsT w b t) (ht : t ≠ 3) (hi : Ints lo w w') : IsT w' b t := by
  have hn : ¬ IsT w b 3 := fun h2 => h.ne h2 ht rfl
  have hl := h.lt
  obtain ⟨cur, fz, h⟩ := h
  exact ⟨cur, fz, (hi.rest b hl hn).trans h⟩
theorem Own.cells {w : World} {base g n cap : Nat} {xs : List Int} (h : Own w base (.slice (some ⟨g, 0, none⟩) n cap) xs) : n = xs.length ∧ cap ≤ maxLen ∧ (∀ (j : Nat) u, (vals xs)[j]? = some u → w.cell? ⟨g, 0 + j, none⟩ = some u) ∧ (∀ j, j < cap → (w.cell? ⟨g, j, none⟩).isSome = true ∧ w.frozen? ⟨g, j, none⟩ = false) := by
  obtain ⟨hl, h0 | ⟨g', cap', cur, hv, hb, hh, hle, hm, hc, ht⟩⟩ := h
  · exact absurd h0.1 (by simp)
  · cases hv
    refine ⟨rfl, hm, fun j u hu => ?_, fun j hj => ⟨?_, ?_⟩⟩
    · have hj : j < xs.length := by have := (List.getElem?_eq_some_iff.1 hu).1; rwa [vals_len] at this
      have e1 : (cur.toList.take (xs.length * 1))[j]? = cur.toList[j]? := by rw [List.getElem?_take_of_lt (by omega)]
      have h2 : cur[j]? = some u := by rw [← Array.getElem?_toList, ← e1, ht]; exact hu
      rw [Nat.zero_add]
      unfold World.cell?
      simp [hh, h2]
    · unfold World.cell?
      simp [hh, hc, hj]
    · unfold World.frozen?
      simp [hh]
theorem wp_push {w : World} {o : Oper} {a : Act} {K : Act → World → Prop} {Q : Exit → Act → World → Prop} (s x : Operand)
    (ho : o.op = .call { callee := .builtin .append, args := #[s, x], argTypes := #[25, 25] })
    (lo b cap : Nat) (xs : List Int) (hs : a.eval s = .slice (some ⟨b, 0, none⟩) xs.length cap) (hown : Own w lo (.slice (some ⟨b, 0, none⟩) xs.length cap) xs) (hlo : lo ≤ w.heap.size)
    (ad : Addr) (y : Int) (hx : a.eval x = .slice (some ad) 1 1) (hc : w.cell? (ad.add 0) = some (.int .i64 y)) (hl : xs.length ≤ 1000000000000)
    (h : ∀ (g' cap' : Nat) (w' : World), Own w' lo (.slice (some ⟨g', 0, none⟩) (xs ++ [y]).length cap') (xs ++ [y]) → (g' = b ∨ w.heap.size ≤ g') → g' < w'.heap.size → Turn b w w' →
      K (a.put o.dst (.slice (some ⟨g', 0, none⟩) (xs ++ [y]).length cap')) w') : o.wp Try.prog a w K Q := by
  obtain ⟨i0, hi, hz, hsz, hby⟩ := info_int
  obtain ⟨_, hcap, hcells, hspare⟩ := hown.cells
  have hnews : ∀ j u, ([.int .i64 y] : List Value)[j]? = some u → w.cell? (ad.add j) = some u := fun j u hu => by
    match j, hu with
    | 0, hu => cases hu; exact hc
    | j + 1, hu => simp at hu
  have hone : ∀ u ∈ ([.int .i64 y] : List Value), u.oneCell' = true := fun u hu => by simp at hu; subst hu; rfl
  have e2 : vals xs ++ [.int .i64 y] = vals (xs ++ [y]) := by simp [vals]
  have e3 : xs.length + 1 = (xs ++ [y]).length := by simp
  by_cases hr : xs.length + 1 ≤ cap
  · have hrun := run_append_room_cells (P := Try.prog) w 25 o.type 3 i0 Try.underlying25 hi b 0 xs.length cap ad 1 1 [.int .i64 y] (by rw [hsz]; rfl) hnews hone hr (fun j hj => by
      have hj0 : j = 0 := by simpa using hj
      subst hj0
      have := (hspare xs.length (by omega)).1
      rw [hsz]
      simpa using this) (fun j hj => by
      have hj0 : j = 0 := by simpa using hj
      subst hj0
      have := (hspare xs.length (by omega)).2
      rw [hsz]
      simpa using this)
    obtain ⟨v', w', hr2, g1, g2, _⟩ := run_append_own (P := Try.prog) w lo 25 o.type 3 i0 (.int .i64 0) 1 8 Try.underlying25 hi hz hsz hby rfl (by decide) (.slice (some ⟨b, 0, none⟩) xs.length cap) xs.length (vals xs) hown ad 1 1 [.int .i64 y] rfl hnews hone (by unfold maxLen; omega) (by omega) hlo
    rw [hrun] at hr2
    obtain ⟨rfl, rfl⟩ : .slice (some ⟨b, 0, none⟩) (xs.length + 1) cap = v' ∧ w.setCells b (0 + xs.length * i0.size) [.int .i64 y] = w' := by cases hr2; exact ⟨rfl, rfl⟩
    unfold Oper.wp
    simp [execOp, ho, resolve, invoke, builtin, hs, hx, hrun, Result.andThen]
    rw [e2] at g1
    have g1' : Own (w.setCells b (0 + xs.length * i0.size) [.int .i64 y]) lo (.slice (some ⟨b, 0, none⟩) (xs ++ [y]).length cap) (xs ++ [y]) := by
      unfold Own
      rw [← e3]
      exact g1
    have hh := h b cap _ g1' (Or.inl rfl) g1'.isT.lt (Turn.of_grown g2)
    simpa [Oper.upon] using hh
  · obtain ⟨v', w', hrun, g1, g2⟩ := run_append_arg_grows (P := Try.prog) w 25 o.type 3 i0 (.int .i64 0) 1 8 Try.underlying25 hi hz hsz hby rfl (by decide) ⟨b, 0, none⟩ xs.length cap (vals xs) (by rw [vals_len]; omega) (fun j u hj => by rw [Addr.add_lit]; exact hcells j u hj) ad 1 1 [.int .i64 y] rfl hnews (by omega) (by unfold maxLen; omega) (by omega)
    rw [e2] at g1
    have g1' : Own w' w.heap.size v' (xs ++ [y]) := by
      unfold Own
      rw [← e3]
      exact g1
    have hne : ¬ v' = .slice none 0 0 := fun e => by
      obtain ⟨hl0, h0 | ⟨g, c, _, hv, _⟩⟩ := g1
      · exact absurd h0.2 (by omega)
      · rw [hv] at e; cases e
    obtain ⟨g', cap', rfl, k1, k2, k3⟩ := g1'.form hne
    unfold Oper.wp
    simp [execOp, ho, resolve, invoke, builtin, hs, hx, hrun, Result.andThen]
    have hb : Below w.heap.size w w' := ⟨g2.os, g2.tape, g2.output, g2.size, fun k hk => g2.block k hk (by simp)⟩
    have hh := h g' cap' w' (g1'.mono hlo) (Or.inr k1) k2 (Turn.of_below hb)
    simpa [Oper.upon] using hh
theorem wpList_push {w : World} {ops : Array Oper} {rest : List Oper} {o : Oper} {a : Act} {Q : Exit → Act → World → Prop} (hgd : o.guard = none) (s x : Operand)
    (ho : o.op = .call { callee := .builtin .append, args := #[s, x], argTypes := #[25, 25] })
    (lo b cap : Nat) (xs : List Int) (hs : a.eval s = .slice (some ⟨b, 0, none⟩) xs.length cap) (hown : Own w lo (.slice (some ⟨b, 0, none⟩) xs.length cap) xs) (hlo : lo ≤ w.heap.size)
    (ad : Addr) (y : Int) (hx : a.eval x = .slice (some ad) 1 1) (hc : w.cell? (ad.add 0) = some (.int .i64 y)) (hl : xs.length ≤ 1000000000000)
    (h : ∀ (g' cap' : Nat) (w' : World), Own w' lo (.slice (some ⟨g', 0, none⟩) (xs ++ [y]).length cap') (xs ++ [y]) → (g' = b ∨ w.heap.size ≤ g') → g' < w'.heap.size → Turn b w w' →
      wpList Try.prog ops Q rest (a.put o.dst (.slice (some ⟨g', 0, none⟩) (xs ++ [y]).length cap')) w') : wpList Try.prog ops Q (o :: rest) a w := by
  exact wpList_plain hgd fun K hK => wp_push s x ho lo b cap xs hs hown hlo ad y hx hc hl fun g' cap' w' h1 h2 h3 h4 => hK _ _ (h g' cap' w' h1 h2 h3 h4)
theorem step_push {ops : Array Oper} {w : World} {o : Oper} {a : Act} {K : Act → World → Prop} {Q : Exit → Act → World → Prop} {E : Prop} (hgd : o.guard = none) (s x : Operand)
    (ho : o.op = .call { callee := .builtin .append, args := #[s, x], argTypes := #[25, 25] })
    (lo b cap : Nat) (xs : List Int) (hs : a.eval s = .slice (some ⟨b, 0, none⟩) xs.length cap) (hown : Own w lo (.slice (some ⟨b, 0, none⟩) xs.length cap) xs) (hlo : lo ≤ w.heap.size)
    (ad : Addr) (y : Int) (hx : a.eval x = .slice (some ad) 1 1) (hc : w.cell? (ad.add 0) = some (.int .i64 y)) (hl : xs.length ≤ 1000000000000)
    (h : ∀ (g' cap' : Nat) (w' : World), Own w' lo (.slice (some ⟨g', 0, none⟩) (xs ++ [y]).length cap') (xs ++ [y]) → (g' = b ∨ w.heap.size ≤ g') → g' < w'.heap.size → Turn b w w' →
      K (a.put o.dst (.slice (some ⟨g', 0, none⟩) (xs ++ [y]).length cap')) w') : if Region.wanted o (yielded ops a.tmps) = true then Oper.wp Try.prog o a w K Q else E := by
  have hw : Region.wanted o (yielded ops a.tmps) = true := by simp [Region.wanted, hgd]
  rw [if_pos hw]
  exact wp_push s x ho lo b cap xs hs hown hlo ad y hx hc hl h
end Go.Proofs.Ytmmlhmhlfmafgaa.IntS
