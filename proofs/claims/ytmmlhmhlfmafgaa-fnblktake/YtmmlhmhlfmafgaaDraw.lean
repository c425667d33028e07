/-
  Contracts of the drawing functions of the specification (the reader l20Rd, its pick and odd, l20Open, l20Word, l20WordOr): whatever the code's bytes are, they return, within the bounds that are told, and write nothing that was there before the reader.
-/
import Derived.Test.YtmmlhmhlfmafgaaProg
import Derived.WalkKit
import Derived.WalkSpells
import Derived.ProofKit
import Derived.OwnWalk
import Derived.Deep.QuietTactic
import Derived.BigQuiet
import Derived.Laws.BitsAllLaws
namespace Go.Proofs.Ytmmlhmhlfmafgaa.Draw
open Go
theorem xor_nn (X Y : Int) (h1 : 0 ≤ X) (h2 : X < 4294967296) (h3 : 0 ≤ Y) (h4 : Y < 4294967296) : 0 ≤ bits .xor .i64 X Y := by
  obtain ⟨A, rfl⟩ := Int.eq_ofNat_of_zero_le h1
  obtain ⟨B, rfl⟩ := Int.eq_ofNat_of_zero_le h3
  have hx : A ^^^ B < 2 ^ 32 := Nat.xor_lt_two_pow (by omega) (by omega)
  show 0 ≤ IntKind.i64.wrap ((BitVec.ofInt 64 (A : Int) ^^^ BitVec.ofInt 64 (B : Int)).toNat : Int)
  rw [BitVec.toNat_xor, ofInt_u64 A (by omega), ofInt_u64 B (by omega), IntWalk.i64_in _ ⟨by omega, by omega⟩]
  omega
theorem past_bd (X n : Int) (hn : 1 ≤ n) (h1 : 0 ≤ X) (h2 : X < 4294967296) : 0 ≤ (bits .xor .i64 X (X / 64)).tmod n ∧ (bits .xor .i64 X (X / 64)).tmod n < n := by
  have h := xor_nn X (X / 64) h1 h2 (by omega) (by omega)
  exact ⟨Int.tmod_nonneg n h, Int.tmod_lt_of_pos _ (by omega)⟩
open Go.ChangeShapes Go.WideShapes Go.ChangeAt Go.RowKit

/-- Block R holds a reader that has been asked at most q times; its bytes lie in an older block. -/
structure Rd (R : Nat) (q : Nat) (w : World) : Prop where
  ex : ∃ (a : Option Addr) (len cap : Nat) (p : Int), w.cell? ⟨R, 0, none⟩ = some (.slice a len cap) ∧ w.cell? ⟨R, 1, none⟩ = some (.int .i64 p) ∧ w.frozen? ⟨R, 1, none⟩ = false ∧ 0 ≤ p ∧ p ≤ q ∧ len ≤ 2000 ∧
    (len = 0 ∨ ∃ B off, a = some ⟨B, off, none⟩ ∧ B < R ∧ ∀ i, i < len → ∃ v : Int, w.cell? ⟨B, off + i, none⟩ = some (.int .u8 v) ∧ 0 ≤ v ∧ v ≤ 255)

theorem pick_low (R : Nat) (p n : Int) (w : World) (c1 : w.cell? ⟨R, 1, none⟩ = some (.int .i64 p)) (f1 : w.frozen? ⟨R, 1, none⟩ = false)
    (hp0 : 0 ≤ p) (hp1 : p ≤ 1000000) (hn : n < 1) :
    Calls Try.prog 24 #[.pointer (some ⟨R, 0, none⟩), .int .i64 n] w fun e w' => e = .returned (.int .i64 0) ∧ w' = w.setCell ⟨R, 1, none⟩ (.int .i64 (p + 1)) := by
  go_enter Try.func24, Try.ntmps24
  go_wp2
  go_ret
  exact ⟨rfl, rfl⟩
theorem pick_none (R : Nat) (a : Option Addr) (len cap : Nat) (p n : Int) (w : World) (c0 : w.cell? ⟨R, 0, none⟩ = some (.slice a len cap)) (c1 : w.cell? ⟨R, 1, none⟩ = some (.int .i64 p)) (f1 : w.frozen? ⟨R, 1, none⟩ = false)
    (hp0 : 0 ≤ p) (hp1 : p ≤ 1000000) (hn : 1 ≤ n) (hl : len = 0) :
    Calls Try.prog 24 #[.pointer (some ⟨R, 0, none⟩), .int .i64 n] w fun e w' => e = .returned (.int .i64 0) ∧ w' = w.setCell ⟨R, 1, none⟩ (.int .i64 (p + 1)) := by
  subst hl
  go_enter Try.func24, Try.ntmps24
  go_wp2
  go_ret
  exact ⟨rfl, rfl⟩
theorem pick_in (R B off : Nat) (len cap : Nat) (p n v : Int) (w : World) (c0 : w.cell? ⟨R, 0, none⟩ = some (.slice (some ⟨B, off, none⟩) len cap)) (c1 : w.cell? ⟨R, 1, none⟩ = some (.int .i64 p)) (f1 : w.frozen? ⟨R, 1, none⟩ = false)
    (hp0 : 0 ≤ p) (hp1 : p ≤ 1000000) (hn : 1 ≤ n) (hl : p < len) (hBR : B < R) (cv : w.cell? ⟨B, off + p.toNat, none⟩ = some (.int .u8 v)) (hv0 : 0 ≤ v) (hv1 : v ≤ 255) :
    Calls Try.prog 24 #[.pointer (some ⟨R, 0, none⟩), .int .i64 n] w fun e w' => e = .returned (.int .i64 (v % n)) ∧ w' = w.setCell ⟨R, 1, none⟩ (.int .i64 (p + 1)) := by
  have h0 : ((len : Int) == 0) = false := beq_eq_false_iff_ne.2 (by omega)
  go_enter Try.func24, Try.ntmps24
  go_wp2
  go_ret
  exact ⟨rfl, rfl⟩
set_option maxHeartbeats 1000000 in
theorem pick_past (R B off : Nat) (len cap : Nat) (p n v u : Int) (w : World) (c0 : w.cell? ⟨R, 0, none⟩ = some (.slice (some ⟨B, off, none⟩) len cap)) (c1 : w.cell? ⟨R, 1, none⟩ = some (.int .i64 p)) (f1 : w.frozen? ⟨R, 1, none⟩ = false)
    (hp0 : 0 ≤ p) (hp1 : p ≤ 1000000) (hn : 1 ≤ n) (hl : ¬ p < len) (hl1 : 1 ≤ len) (hm : len ≤ 2000) (hBR : B < R) (cv : w.cell? ⟨B, off + (p % len).toNat, none⟩ = some (.int .u8 v)) (hv0 : 0 ≤ v) (hv1 : v ≤ 255)
    (cu : w.cell? ⟨B, off + ((p * 7 + 3) % len).toNat, none⟩ = some (.int .u8 u)) (hu0 : 0 ≤ u) (hu1 : u ≤ 255) :
    Calls Try.prog 24 #[.pointer (some ⟨R, 0, none⟩), .int .i64 n] w fun e w' => ∃ x k, e = .returned (.int .i64 x) ∧ 0 ≤ x ∧ x < n ∧ w' = (w.setCell ⟨R, 1, none⟩ (.int .i64 (p + 1))).drewN k := by
  have h0 : ((len : Int) == 0) = false := beq_eq_false_iff_ne.2 (by omega)
  have i0 := Int.emod_nonneg p (show (len : Int) ≠ 0 by omega)
  have i1 := Int.emod_lt_of_pos p (show (0 : Int) < len by omega)
  have j0 := Int.emod_nonneg (p * 7 + 3) (show (len : Int) ≠ 0 by omega)
  have j1 := Int.emod_lt_of_pos (p * 7 + 3) (show (0 : Int) < len by omega)
  have q0 : 0 ≤ p / len := Int.ediv_nonneg hp0 (by omega)
  have q1 : p / len ≤ 1000000 := Int.le_trans (Int.ediv_le_self _ hp0) hp1
  go_enter Try.func24, Try.ntmps24
  go_wp2_with fail
  go_quiet (fail)
  go_wp2
  go_ret
  obtain ⟨b0, b1⟩ := past_bd (v * 131 + u * 1117 + p * 29 + p / len * 53) n hn (by omega) (by omega)
  exact ⟨_, nq, rfl, b0, b1, rfl⟩

/-- Of the blocks that were there only block R may have turned. -/
structure Keep (R : Nat) (w w' : World) : Prop where
  os : w'.os = w.os
  tape : w'.tape = w.tape
  output : w'.output = w.output
  size : w.heap.size ≤ w'.heap.size
  block : ∀ k, k < w.heap.size → k ≠ R → w'.heap[k]? = w.heap[k]?
theorem Keep.refl (R : Nat) (w : World) : Keep R w w := ⟨rfl, rfl, rfl, Nat.le_refl _, fun _ _ _ => rfl⟩
theorem Keep.trans {R : Nat} {a b c : World} (h : Keep R a b) (k : Keep R b c) : Keep R a c :=
  ⟨k.os.trans h.os, k.tape.trans h.tape, k.output.trans h.output, Nat.le_trans h.size k.size, fun i hi hR => (k.block i (Nat.lt_of_lt_of_le hi h.size) hR).trans (h.block i hi hR)⟩
theorem Keep.of_below {R : Nat} {w w' : World} (h : Below w.heap.size w w') : Keep R w w' := ⟨h.os, h.tape, h.output, h.size, fun k hk _ => h.block k hk⟩
theorem Keep.alloc {R : Nat} {a w : World} (h : Keep R a w) (o : Obj) : Keep R a (w.alloc o) := h.trans (Keep.of_below ((Below.refl _ _).alloc (Nat.le_refl _) o))
theorem Keep.below {R B : Nat} {w w' : World} (h : Keep R w w') (hR : B ≤ R) (hB : B ≤ w.heap.size) : Below B w w' :=
  ⟨h.os, h.tape, h.output, h.size, fun k hk => h.block k (by omega) (by omega)⟩
theorem Keep.cell {R : Nat} {w w' : World} (h : Keep R w w') {p : Addr} (hp : p.block < w.heap.size) (hR : p.block ≠ R) : w'.cell? p = w.cell? p := World.cell?_of_block (w := w) (h.block p.block hp hR)
theorem Keep.set (R : Nat) (w : World) (v : Value) (k : Nat) : Keep R w ((w.setCell ⟨R, 1, none⟩ v).drewN k) :=
  ⟨by rfl, by rfl, by rfl, by simp, fun i hi hR => by
    have h := (Below.refl R w).setCell (p := ⟨R, 1, none⟩) (Nat.le_refl _) v
    show (w.setCell ⟨R, 1, none⟩ v).heap[i]? = _
    unfold World.setCell
    simp [Array.getElem?_modify]
    omega⟩

theorem Rd.lt {R q : Nat} {w : World} (h : Rd R q w) : R < w.heap.size := by
  obtain ⟨a, len, cap, p, c0, _⟩ := h.ex
  exact World.block_lt_of_cell? w _ c0
theorem Rd.mono {R q q' : Nat} {w : World} (h : Rd R q w) (hq : q ≤ q') : Rd R q' w := by
  obtain ⟨a, len, cap, p, c0, c1, f1, hp0, hp1, hl, hb⟩ := h.ex
  exact ⟨a, len, cap, p, c0, c1, f1, hp0, by omega, hl, hb⟩
theorem Rd.below {R q : Nat} {w w' : World} (h : Rd R q w) (hb : Below (R + 1) w w') : Rd R q w' := by
  obtain ⟨a, len, cap, p, c0, c1, f1, hp0, hp1, hl, hc⟩ := h.ex
  refine ⟨a, len, cap, p, (hb.cell (p := ⟨R, 0, none⟩) (Nat.lt_succ_self R)).trans c0, (hb.cell (p := ⟨R, 1, none⟩) (Nat.lt_succ_self R)).trans c1, (hb.frozen (p := ⟨R, 1, none⟩) (Nat.lt_succ_self R)).trans f1, hp0, hp1, hl, ?_⟩
  rcases hc with hc | ⟨B, off, ha, hB, hc⟩
  · exact Or.inl hc
  · refine Or.inr ⟨B, off, ha, hB, fun i hi => ?_⟩
    obtain ⟨v, hv, v0, v1⟩ := hc i hi
    exact ⟨v, (hb.cell (p := ⟨B, off + i, none⟩) (Nat.lt_succ_of_lt hB)).trans hv, v0, v1⟩
theorem Rd.alloc {R q : Nat} {w : World} (h : Rd R q w) (o : Obj) : Rd R q (w.alloc o) :=
  h.below (((Below.refl (R + 1) w).alloc (by have := h.lt; omega) o))
theorem Rd.set {R q : Nat} {w : World} (h : Rd R q w) (p' : Int) (hp0 : 0 ≤ p') (hp1 : p' ≤ (q + 1 : Nat)) (k : Nat) : Rd R (q + 1) ((w.setCell ⟨R, 1, none⟩ (.int .i64 p')).drewN k) := by
  obtain ⟨a, len, cap, p, c0, c1, f1, _, _, hl, hc⟩ := h.ex
  refine ⟨a, len, cap, p', ?_, ?_, ?_, hp0, hp1, hl, ?_⟩
  · rw [World.cell?_drewN]; exact (World.cell?_setCell_other (w := w) (a := ⟨R, 1, none⟩) (b := ⟨R, 0, none⟩) (v := .int .i64 p') (by simp)).trans c0
  · rw [World.cell?_drewN]; exact World.cell?_setCell_same (w := w) (a := ⟨R, 1, none⟩) (v := .int .i64 p') c1
  · show (w.setCell ⟨R, 1, none⟩ (.int .i64 p')).frozen? ⟨R, 1, none⟩ = false
    rw [World.frozen?_setCell]; exact f1
  · rcases hc with hc | ⟨B, off, ha, hB, hc⟩
    · exact Or.inl hc
    · refine Or.inr ⟨B, off, ha, hB, fun i hi => ?_⟩
      obtain ⟨v, hv, v0, v1⟩ := hc i hi
      refine ⟨v, ?_, v0, v1⟩
      rw [World.cell?_drewN]; exact (World.cell?_setCell_other (w := w) (a := ⟨R, 1, none⟩) (b := ⟨B, off + i, none⟩) (v := .int .i64 p') (by intro e; have := congrArg Addr.block e; simp at this; omega)).trans hv

theorem pick (R q : Nat) (n : Int) (w : World) (h : Rd R q w) (hq : q ≤ 1000000) :
    Calls Try.prog 24 #[.pointer (some ⟨R, 0, none⟩), .int .i64 n] w fun e w' => ∃ x, e = .returned (.int .i64 x) ∧ 0 ≤ x ∧ (1 ≤ n → x < n) ∧ (n < 1 → x = 0) ∧ Rd R (q + 1) w' ∧ Keep R w w' := by
  obtain ⟨a, len, cap, p, c0, c1, f1, hp0, hp1, hl, hc⟩ := h.ex
  have fin0 : ∀ e w', (e = Ending.returned (.int .i64 0) ∧ w' = w.setCell ⟨R, 1, none⟩ (.int .i64 (p + 1))) → ∃ x, e = .returned (.int .i64 x) ∧ 0 ≤ x ∧ (1 ≤ n → x < n) ∧ (n < 1 → x = 0) ∧ Rd R (q + 1) w' ∧ Keep R w w' := by
    rintro e w' ⟨rfl, rfl⟩
    exact ⟨0, rfl, by omega, by omega, fun _ => rfl, h.set (p + 1) (by omega) (by omega) 0, Keep.set R w _ 0⟩
  by_cases hn : n < 1
  · exact (pick_low R p n w c1 f1 hp0 (by omega) hn).mono fin0
  by_cases hz : len = 0
  · exact (pick_none R a len cap p n w c0 c1 f1 hp0 (by omega) (by omega) hz).mono fin0
  rcases hc with hc | ⟨B, off, rfl, hB, hc⟩
  · exact absurd hc hz
  by_cases hlt : p < len
  · obtain ⟨v, hv, v0, v1⟩ := hc p.toNat (by omega)
    refine (pick_in R B off len cap p n v w c0 c1 f1 hp0 (by omega) (by omega) hlt hB hv v0 v1).mono ?_
    rintro e w' ⟨rfl, rfl⟩
    exact ⟨v % n, rfl, Int.emod_nonneg _ (by omega), fun _ => Int.emod_lt_of_pos _ (by omega), by omega, h.set (p + 1) (by omega) (by omega) 0, Keep.set R w _ 0⟩
  · have i0 := Int.emod_nonneg p (show (len : Int) ≠ 0 by omega)
    have i1 := Int.emod_lt_of_pos p (show (0 : Int) < len by omega)
    have j0 := Int.emod_nonneg (p * 7 + 3) (show (len : Int) ≠ 0 by omega)
    have j1 := Int.emod_lt_of_pos (p * 7 + 3) (show (0 : Int) < len by omega)
    obtain ⟨v, hv, v0, v1⟩ := hc (p % len).toNat (by omega)
    obtain ⟨u, hu, u0, u1⟩ := hc ((p * 7 + 3) % len).toNat (by omega)
    refine (pick_past R B off len cap p n v u w c0 c1 f1 hp0 (by omega) (by omega) hlt (by omega) hl hB hv v0 v1 hu u0 u1).mono ?_
    rintro e w' ⟨x, k, rfl, x0, x1, rfl⟩
    exact ⟨x, rfl, x0, fun _ => x1, by omega, h.set (p + 1) (by omega) (by omega) k, Keep.set R w _ k⟩
end Go.Proofs.Ytmmlhmhlfmafgaa.Draw
