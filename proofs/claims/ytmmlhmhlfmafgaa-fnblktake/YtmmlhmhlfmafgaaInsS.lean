/-
  Lists of instructions as data: contracts of the laws' own szInsInsS, toInsInsS, eqInsInsS, markInsInsS, heldInsInsS; a list that came in.
-/
import Derived.Test.YtmmlhmhlfmafgaaFlat
import Derived.Test.YtmmlhmhlfmafgaaInsC2
import Derived.StillTailTactics
namespace Go.Proofs.Ytmmlhmhlfmafgaa.InsS
set_option linter.unusedVariables false
open Go.ChangeShapes Go.WideShapes Go.ChangeAt Go.RowKit IntS Flat
theorem region_tail {P : Program} {id : Nat} {Q : Exit → Act → World → Prop} {a : Act} {w : World} {l : List Oper} (n : Nat) (hm : P.follows .mixedOrders = true) (hB : Region.lexTailB .any l.toArray n = true)
    (h : wpStill P l.toArray w.drew (fun a' => wpList P l.toArray Q (l.drop n) a' w.drew) (l.take n) a) : (Code.region id l.toArray true).wp P Q a w := wp_region_still_tail n hm hB h
/-- An instruction. -/
structure In4 where
  op : Int
  d : Int
  a : Int
  k : Int
def flatI : List In4 → List Int
  | [] => []
  | i :: r => i.op :: i.d :: i.a :: i.k :: flatI r
theorem flatI_len : ∀ is : List In4, (flatI is).length = is.length * 4
  | [] => rfl
  | i :: r => by simp [flatI, flatI_len r]; omega
theorem flatI_app : ∀ a b : List In4, flatI (a ++ b) = flatI a ++ flatI b
  | [], b => rfl
  | i :: a, b => by simp [flatI, flatI_app a b]
theorem flatI_at : ∀ (is : List In4) (i : Nat) (c : In4), is[i]? = some c → (flatI is)[i * 4]? = some c.op ∧ (flatI is)[i * 4 + 1]? = some c.d ∧ (flatI is)[i * 4 + 2]? = some c.a ∧ (flatI is)[i * 4 + 3]? = some c.k
  | [], i, c, h => by simp at h
  | d :: r, 0, c, h => by
    obtain rfl := Option.some.inj h
    exact ⟨rfl, rfl, rfl, rfl⟩
  | d :: r, i + 1, c, h => by
    have := flatI_at r i c h
    rw [show (i + 1) * 4 = i * 4 + 1 + 1 + 1 + 1 by omega]
    exact this
theorem flatI_get : ∀ (is : List In4) (j : Nat) (x : Int), (flatI is)[j]? = some x → ∃ (i : Nat) (c : In4), is[i]? = some c ∧ ((j = i * 4 ∧ x = c.op) ∨ (j = i * 4 + 1 ∧ x = c.d) ∨ (j = i * 4 + 2 ∧ x = c.a) ∨ (j = i * 4 + 3 ∧ x = c.k))
  | [], j, x, h => by simp [flatI] at h
  | d :: r, 0, x, h => ⟨0, d, rfl, Or.inl ⟨rfl, (Option.some.inj h).symm⟩⟩
  | d :: r, 1, x, h => ⟨0, d, rfl, Or.inr (Or.inl ⟨rfl, (Option.some.inj h).symm⟩)⟩
  | d :: r, 2, x, h => ⟨0, d, rfl, Or.inr (Or.inr (Or.inl ⟨rfl, (Option.some.inj h).symm⟩))⟩
  | d :: r, 3, x, h => ⟨0, d, rfl, Or.inr (Or.inr (Or.inr ⟨rfl, (Option.some.inj h).symm⟩))⟩
  | d :: r, j + 4, x, h => by
    obtain ⟨i, c, h1, h2⟩ := flatI_get r j x h
    exact ⟨i + 1, c, h1, by omega⟩
/-- A slice that holds instructions. -/
abbrev IRow (w : World) (B : Nat) (v : Value) (is : List In4) : Prop := FRow 4 w B v is.length (flatI is)
abbrev WIRow (w : World) (B : Nat) (v : Value) (is : List In4) : Prop := WFRow 4 w B v is.length (flatI is)
theorem at4 {w : World} {B off : Nat} {is : List In4} (h : ∀ (i : Nat) x, (flatI is)[i]? = some x → w.cell? ⟨B, off + i, none⟩ = some (.int .i64 x)) {i : Nat} {c : In4} (hi : is[i]? = some c) :
    w.cell? ⟨B, off + i * 4, none⟩ = some (.int .i64 c.op) ∧ w.cell? ⟨B, off + i * 4 + 1, none⟩ = some (.int .i64 c.d) ∧ w.cell? ⟨B, off + i * 4 + 2, none⟩ = some (.int .i64 c.a) ∧ w.cell? ⟨B, off + i * 4 + 3, none⟩ = some (.int .i64 c.k) := by
  obtain ⟨h1, h2, h3, h4⟩ := flatI_at is i c hi
  exact ⟨h _ _ h1, h _ _ h2, h _ _ h3, h _ _ h4⟩
theorem filled_new4 (w : World) (n : Nat) (fs : List Int) (t : TypeId) : Filled w (n * 4) fs 0 (w.alloc (.cells (madeCells #[.int .i64 0, .int .i64 0, .int .i64 0, .int .i64 0] (n * 4)) t)) := by
  have hc (i : Nat) (hi : i < n * 4) : (w.alloc (.cells (madeCells #[.int .i64 0, .int .i64 0, .int .i64 0, .int .i64 0] (n * 4)) t)).cell? ⟨w.heap.size, i, none⟩ = some (.int .i64 0) := by
    rw [World.cell?_alloc_new]
    have h4 : i % 4 = 0 ∨ i % 4 = 1 ∨ i % 4 = 2 ∨ i % 4 = 3 := by omega
    rcases h4 with h | h | h | h <;> simp [madeCells, hi, h]
  refine ⟨(Below.refl _ _).alloc (Nat.le_refl _) _, by simp, fun i x hi => by omega, fun i hi => ⟨0, hc i hi⟩, fun i hi => by simp⟩
theorem make_ins (n : Nat) (hn : n ≤ 1048576) (w : World) : (Instr.makeSlice 23 (.int .i64 (n : Int)) (.int .i64 (n : Int))).run Try.prog w = .ok (.slice (some ⟨w.heap.size, 0, none⟩) n n) (w.alloc (.cells (madeCells #[.int .i64 0, .int .i64 0, .int .i64 0, .int .i64 0] (n * 4)) 33)) := by
  have hinfo : (Try.prog.info? 33).map (fun i => (i.zero, i.size, i.bytes)) = some (some (.agg #[.int .i64 0, .int .i64 0, .int .i64 0, .int .i64 0]), 4, 32) := by kernel_rfl
  obtain ⟨i, hi, hzz⟩ := Option.map_eq_some_iff.1 hinfo
  simp only [Prod.mk.injEq] at hzz
  obtain ⟨hz, hs, hb⟩ := hzz
  have hr := run_make (P := Try.prog) w 23 33 i _ Try.underlying23 hi hz .i64 .i64 n n (by omega) (Int.le_refl _) (by rw [hb]; omega) (by omega)
  simp only [Int.toNat_natCast, hs] at hr
  exact hr
theorem Marked.put {w u : World} {B off n j : Nat} {k : Int} (h : Marked w B off n k j u) (hj : j < n) {x : Int} (hx : x = k + (j : Int)) {p : Nat} (hp : p = off + j) : Marked w B off n k (j + 1) (u.setCell ⟨B, p, none⟩ (.int .i64 x)) := by
  subst hx hp
  exact h.next hj
theorem list_of' {α : Type} {P : Nat → α → Prop} : ∀ n : Nat, (∀ i, i < n → ∃ x, P i x) → ∃ xs : List α, xs.length = n ∧ ∀ (i : Nat) x, xs[i]? = some x → P i x
  | 0, _ => ⟨[], rfl, fun i x h => by simp at h⟩
  | n + 1, h => by
    obtain ⟨xs, hl, hx⟩ := list_of' n (fun i hi => h i (by omega))
    obtain ⟨y, hy⟩ := h n (by omega)
    refine ⟨xs ++ [y], by simp [hl], fun i x hi => ?_⟩
    by_cases e : i < n
    · rw [List.getElem?_append_left (by omega)] at hi
      exact hx i x hi
    · rw [List.getElem?_append_right (by omega)] at hi
      have : i = n := by
        have := (List.getElem?_eq_some_iff.1 hi).1
        simp at this; omega
      subst this
      rw [hl, Nat.sub_self] at hi
      obtain rfl := Option.some.inj (show some y = some x from hi)
      exact hy
theorem infoIns : ∃ i, Try.prog.info? 33 = some i ∧ i.zero = some (.agg #[.int .i64 0, .int .i64 0, .int .i64 0, .int .i64 0]) ∧ i.size = 4 ∧ i.bytes = 32 := by
  have hinfo : (Try.prog.info? 33).map (fun i => (i.zero, i.size, i.bytes)) = some (some (.agg #[.int .i64 0, .int .i64 0, .int .i64 0, .int .i64 0]), 4, 32) := by kernel_rfl
  obtain ⟨i, hi, h⟩ := Option.map_eq_some_iff.1 hinfo
  simp only [Prod.mk.injEq] at h
  exact ⟨i, hi, h.1, h.2.1, h.2.2⟩
/-- Instructions in a slice that the call made. -/
abbrev OwnI (w : World) (lo : Nat) (v : Value) (is : List In4) : Prop := OwnF 33 4 w lo v is.length (flatI is)
/-- One instruction more. -/
theorem run_pushI {w : World} {ty : TypeId} {lo cap : Nat} {q : Option Addr} {is : List In4} (hown : OwnI w lo (.slice q is.length cap) is) (hn : is.length ≤ 1000000000000) (hlo : lo ≤ w.heap.size) (ad : Addr) (i : In4)
    (c0 : w.cell? (ad.add 0) = some (.int .i64 i.op)) (c1 : w.cell? (ad.add 1) = some (.int .i64 i.d)) (c2 : w.cell? (ad.add 2) = some (.int .i64 i.a)) (c3 : w.cell? (ad.add 3) = some (.int .i64 i.k)) :
    ∃ g' cap' w', (Builtin.append_ #[23, 23] ty #[.slice q is.length cap, .slice (some ad) 1 1]).run Try.prog w = .ok (.slice (some ⟨g', 0, none⟩) (is.length + 1) cap') w' ∧ OwnI w' lo (.slice (some ⟨g', 0, none⟩) (is.length + 1) cap') (is ++ [i]) ∧ ((Value.slice q is.length cap).ownBlock = some g' ∨ w.heap.size ≤ g') ∧ g' < w'.heap.size ∧ w.grownBy w' (Value.slice q is.length cap).ownBlock := by
  obtain ⟨j, hi, hz, hsz, hby⟩ := infoIns
  obtain ⟨g', cap', w', h1, h2, h3⟩ := run_flat (P := Try.prog) 23 ty 33 j _ 4 32 Try.underlying23 hi hz hsz hby rfl (by decide) (by decide) hown hn hlo ad [i.op, i.d, i.a, i.k] rfl (fun j x hx => by
    match j, hx with
    | 0, hx => cases hx; exact c0
    | 1, hx => cases hx; exact c1
    | 2, hx => cases hx; exact c2
    | 3, hx => cases hx; exact c3
    | j + 4, hx => simp at hx)
  refine ⟨g', cap', w', h1, ?_, h3⟩
  unfold OwnI
  rw [flatI_app, List.length_append]
  exact h2
end Go.Proofs.Ytmmlhmhlfmafgaa.InsS
