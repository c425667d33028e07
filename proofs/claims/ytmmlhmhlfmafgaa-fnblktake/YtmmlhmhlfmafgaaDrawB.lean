/-
  Contracts of the drawing functions of the specification, second part: l20Open, odd, l20Word, l20WordOr.
-/
import Derived.Test.YtmmlhmhlfmafgaaDraw
import Derived.OpenShut
namespace Go.Proofs.Ytmmlhmhlfmafgaa.Draw
open Go.ChangeShapes Go.WideShapes Go.ChangeAt Go.RowKit

/-- A slice of bytes that can be read. -/
def Code (w : World) (a : Option Addr) (len : Nat) : Prop := len = 0 ∨ ∃ B off, a = some ⟨B, off, none⟩ ∧ B < w.heap.size ∧ ∀ i, i < len → ∃ v : Int, w.cell? ⟨B, off + i, none⟩ = some (.int .u8 v) ∧ 0 ≤ v ∧ v ≤ 255

theorem Code.below {w w' : World} {a : Option Addr} {len : Nat} (h : Code w a len) (hb : Below w.heap.size w w') : Code w' a len := by
  rcases h with h | ⟨B, off, ha, hB, hc⟩
  · exact Or.inl h
  · refine Or.inr ⟨B, off, ha, Nat.lt_of_lt_of_le hB hb.size, fun i hi => ?_⟩
    obtain ⟨v, hv, v0, v1⟩ := hc i hi
    exact ⟨v, (hb.cell (p := ⟨B, off + i, none⟩) hB).trans hv, v0, v1⟩
theorem odd (R q : Nat) (n : Int) (w : World) (h : Rd R q w) (hq : q ≤ 1000000) (hn : 1 ≤ n) (hn2 : n ≤ 1000) :
    Calls Try.prog 22 #[.pointer (some ⟨R, 0, none⟩), .int .i64 n] w fun e w' => ∃ b : Bool, e = .returned (.bool b) ∧ Rd R (q + 1) w' ∧ Keep R w w' := by
  go_enter Try.func22, Try.ntmps22
  go_wp2_with fail
  refine (pick R q n _ h hq).mono ?_
  rintro e w1 ⟨x, rfl, x0, x1, _, h1, k1⟩
  go_wp2
  go_ret
  exact ⟨_, rfl, h1, k1⟩

theorem open_long (a : Addr) (len cap : Nat) (w : World) (hl : 2000 < len) (hlc : len ≤ cap) (hm : cap ≤ maxLen) :
    Calls Try.prog 20 #[.slice (some a) len cap] w fun e w' => e = .returned (.pointer (some ⟨w.heap.size, 0, none⟩)) ∧ w' = w.alloc (.cells #[.slice (some a) 2000 cap, .int .i64 0] 54) := by
  unfold maxLen at hm
  go_enter Try.func20, Try.ntmps20
  go_wp2
  go_ret
  exact ⟨rfl, rfl⟩
theorem open_short (a : Option Addr) (len cap : Nat) (w : World) (hl : ¬ 2000 < len) :
    Calls Try.prog 20 #[.slice a len cap] w fun e w' => e = .returned (.pointer (some ⟨w.heap.size, 0, none⟩)) ∧ w' = w.alloc (.cells #[.slice a len cap, .int .i64 0] 54) := by
  go_enter Try.func20, Try.ntmps20
  go_wp2
  go_ret
  exact ⟨rfl, rfl⟩
theorem rd_new (w : World) (a : Option Addr) (len cap : Nat) (hl : len ≤ 2000) (hc : Code w a len) : Rd w.heap.size 0 (w.alloc (.cells #[.slice a len cap, .int .i64 0] 54)) := by
  refine ⟨a, len, cap, 0, by simp, by simp, by simp, by omega, by omega, hl, ?_⟩
  rcases hc with hc | ⟨B, off, ha, hB, hc⟩
  · exact Or.inl hc
  · refine Or.inr ⟨B, off, ha, hB, fun i hi => ?_⟩
    obtain ⟨v, hv, v0, v1⟩ := hc i hi
    exact ⟨v, (World.cell?_alloc_lt w (a := ⟨B, off + i, none⟩) _ hB).trans hv, v0, v1⟩
theorem openRd (a : Option Addr) (len cap : Nat) (w : World) (hlc : len ≤ cap) (hm : cap ≤ maxLen) (hc : Code w a len) :
    Calls Try.prog 20 #[.slice a len cap] w fun e w' => ∃ R, e = .returned (.pointer (some ⟨R, 0, none⟩)) ∧ w.heap.size ≤ R ∧ Rd R 0 w' ∧ Below w.heap.size w w' := by
  by_cases hl : 2000 < len
  · rcases hc with hc | ⟨B, off, rfl, hB, hc⟩
    · omega
    · refine (open_long ⟨B, off, none⟩ len cap w hl hlc hm).mono ?_
      rintro e w' ⟨rfl, rfl⟩
      exact ⟨_, rfl, Nat.le_refl _, rd_new w _ 2000 cap (by omega) (Or.inr ⟨B, off, rfl, hB, fun i hi => hc i (by omega)⟩), (Below.refl _ _).alloc (Nat.le_refl _) _⟩
  · refine (open_short a len cap w hl).mono ?_
    rintro e w' ⟨rfl, rfl⟩
    exact ⟨_, rfl, Nat.le_refl _, rd_new w _ len cap (by omega) hc, (Below.refl _ _).alloc (Nat.le_refl _) _⟩

theorem cells9 (w : World) (x : Int) (h0 : 0 ≤ x) (h1 : x < 9) : ∃ y : Int, (w.alloc (.cells #[.int .i64 0, .int .i64 1, .int .i64 2, .int .i64 3, .int .i64 65535, .int .i64 32768, .int .i64 255, .int .i64 256, .int .i64 65534] 3)).cell? ⟨w.heap.size, x.toNat, none⟩ = some (.int .i64 y) ∧ 0 ≤ y ∧ y < 65536 := by
  obtain ⟨k, rfl⟩ := Int.eq_ofNat_of_zero_le h0
  rw [Int.toNat_natCast, World.cell?_alloc_new]
  have : k = 0 ∨ k = 1 ∨ k = 2 ∨ k = 3 ∨ k = 4 ∨ k = 5 ∨ k = 6 ∨ k = 7 ∨ k = 8 := by omega
  rcases this with rfl | rfl | rfl | rfl | rfl | rfl | rfl | rfl | rfl <;> exact ⟨_, rfl, by decide, by decide⟩
set_option maxHeartbeats 1000000 in
theorem word (R q : Nat) (w : World) (h : Rd R q w) (hq : q ≤ 900000) :
    Calls Try.prog 37 #[.pointer (some ⟨R, 0, none⟩)] w fun e w' => ∃ x, e = .returned (.int .i64 x) ∧ 0 ≤ x ∧ x < 65536 ∧ Rd R (q + 3) w' ∧ Keep R w w' := by
  go_enter Try.func37, Try.ntmps37
  go_wp2_with fail
  refine (pick R q 4 _ h (by omega)).mono ?_
  rintro e w1 ⟨x, rfl, x0, x1, _, h1, k1⟩
  have hR := h1.lt
  by_cases e0 : x = 0
  · subst e0
    clear x1
    go_wp2_with fail
    refine (pick R (q + 1) 9 _ (h1.alloc _) (by omega)).mono ?_
    rintro e w2 ⟨y, rfl, y0, y1, _, h2, k2⟩
    have yb := y1 (by omega)
    clear y1
    obtain ⟨z, hz, z0, z1⟩ := cells9 w1 y y0 yb
    have hz2 : w2.cell? ⟨w1.heap.size, y.toNat, none⟩ = some (.int .i64 z) := (k2.cell (p := ⟨w1.heap.size, y.toNat, none⟩) (by simp) (by simp; omega)).trans hz
    clear hz
    go_wp2
    go_ret
    exact ⟨z, rfl, z0, z1, h2.mono (by omega), (k1.alloc _).trans k2⟩
  · have b0 : (x == 0) = false := beq_eq_false_iff_ne.2 e0
    by_cases e1 : x = 1
    · subst e1
      clear x1
      go_wp2_with fail
      refine (pick R (q + 1) 70 _ h1 (by omega)).mono ?_
      rintro e w2 ⟨y, rfl, y0, y1, _, h2, k2⟩
      have := y1 (by omega)
      go_wp2
      go_ret
      exact ⟨y, rfl, y0, by omega, h2.mono (by omega), k1.trans k2⟩
    · have b1 : (x == 1) = false := beq_eq_false_iff_ne.2 e1
      go_wp2_with fail
      refine (pick R (q + 1) 256 _ h1 (by omega)).mono ?_
      rintro e w2 ⟨y, rfl, y0, y1, _, h2, k2⟩
      have yb := y1 (by omega)
      clear y1
      go_wp2_with fail
      refine (pick R (q + 2) 256 _ h2 (by omega)).mono ?_
      rintro e w3 ⟨z, rfl, z0, z1, _, h3, k3⟩
      have zb := z1 (by omega)
      clear z1
      go_wp2
      go_ret
      exact ⟨_, rfl, by omega, by omega, h3, (k1.trans k2).trans k3⟩

theorem cells6 (w : World) (x : Int) (h0 : 0 ≤ x) (h1 : x < 6) : ∃ y : Int, (w.alloc (.cells #[.int .i64 (-1), .int .i64 65536, .int .i64 9223372036854775807, .int .i64 (-9223372036854775808), .int .i64 (-65536), .int .i64 131072] 3)).cell? ⟨w.heap.size, x.toNat, none⟩ = some (.int .i64 y) ∧ -9223372036854775808 ≤ y ∧ y ≤ 9223372036854775807 := by
  obtain ⟨k, rfl⟩ := Int.eq_ofNat_of_zero_le h0
  rw [Int.toNat_natCast, World.cell?_alloc_new]
  have : k = 0 ∨ k = 1 ∨ k = 2 ∨ k = 3 ∨ k = 4 ∨ k = 5 := by omega
  rcases this with rfl | rfl | rfl | rfl | rfl | rfl <;> exact ⟨_, rfl, by omega, by omega⟩
set_option maxHeartbeats 1000000 in
theorem wordOr (R q : Nat) (n : Int) (w : World) (h : Rd R q w) (hq : q ≤ 800000) (hn : 1 ≤ n) (hn2 : n ≤ 1000) :
    Calls Try.prog 23 #[.pointer (some ⟨R, 0, none⟩), .int .i64 n] w fun e w' => ∃ x, e = .returned (.int .i64 x) ∧ -9223372036854775808 ≤ x ∧ x ≤ 9223372036854775807 ∧ Rd R (q + 4) w' ∧ Keep R w w' := by
  go_enter Try.func23, Try.ntmps23
  go_wp2_with fail
  refine (odd R q n _ h (by omega) hn hn2).mono ?_
  rintro e w1 ⟨b, rfl, h1, k1⟩
  have hR := h1.lt
  cases b with
  | true =>
    go_wp2_with fail
    refine (pick R (q + 1) 6 _ (h1.alloc _) (by omega)).mono ?_
    rintro e w2 ⟨y, rfl, y0, y1, _, h2, k2⟩
    have yb := y1 (by omega)
    clear y1
    obtain ⟨z, hz, z0, z1⟩ := cells6 w1 y y0 yb
    have hz2 : w2.cell? ⟨w1.heap.size, y.toNat, none⟩ = some (.int .i64 z) := (k2.cell (p := ⟨w1.heap.size, y.toNat, none⟩) (by simp) (by simp; omega)).trans hz
    have Z : Hid (-9223372036854775808 ≤ z ∧ z ≤ 9223372036854775807) := ⟨z0, z1⟩
    clear hz z0 z1
    go_wp2
    go_ret
    exact ⟨z, rfl, Z.out.1, Z.out.2, h2.mono (by omega), (k1.alloc _).trans k2⟩
  | false =>
    go_wp2_with fail
    refine (word R (q + 1) _ h1 (by omega)).mono ?_
    rintro e w2 ⟨y, rfl, y0, y1, h2, k2⟩
    go_wp2
    go_ret
    exact ⟨y, rfl, by omega, by omega, h2.mono (by omega), k1.trans k2⟩

theorem code_row (w : World) (a : Option Addr) (len cap : Nat) (zs : List Int) (h : (a = none ∧ len = 0 ∧ cap = 0 ∧ zs = []) ∨ ∃ x, a = some x ∧ len ≤ cap ∧ cap ≤ maxLen ∧ zs.length = cap ∧ (∀ i, i < zs.length → w.cell? (x.add i) = some (.int .u8 (zs.getD i 0))) ∧ ∀ n ∈ zs, (Lit.int .u8 n).wf = true) : len ≤ cap ∧ cap ≤ maxLen ∧ Code w a len := by
  rcases h with ⟨rfl, rfl, rfl, rfl⟩ | ⟨x, rfl, hl, hm, hz, hc, hw⟩
  · exact ⟨Nat.le_refl _, by unfold maxLen; omega, Or.inl rfl⟩
  · refine ⟨hl, hm, ?_⟩
    by_cases h0 : len = 0
    · exact Or.inl h0
    · obtain ⟨b, off, rfl, hc'⟩ := ints_at hc (by omega)
      refine Or.inr ⟨b, off, rfl, World.block_lt_of_cell? w ⟨b, off + 0, none⟩ (hc' 0 (by omega)), fun i hi => ⟨zs.getD i 0, hc' i (by omega), ?_⟩⟩
      have hmem : zs.getD i 0 ∈ zs := by
        rw [List.getD_eq_getElem?_getD, List.getElem?_eq_getElem (by omega)]; simp
      have hb := bounds_u8 (hw _ hmem)
      omega
end Go.Proofs.Ytmmlhmhlfmafgaa.Draw
