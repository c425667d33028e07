/-
  What the drawing functions of chapter 2 that deal in texts return (DrawInsText, DrawInsRead): an instruction, a text of at most forty bytes; nothing that was there before is written.
-/
import Derived.Test.YthpajjlhjfhdpaaGreatDoorDrawJ
import Derived.Test.YthpajjlhjfhdpaaGreatDoorDrawT
import Derived.Test.YthpajjlhjfhdpaaGreatDoorInsY
import Derived.Test.YthpajjlhjfhdpaaGreatDoorShape
namespace Go.Proofs.YthpajjlhjfhdpaaGreatDoor.Draw
open Go.ChangeShapes Go.WideShapes Go.ChangeAt Go.RowKit
set_option maxRecDepth 8000 in
theorem code_holds {w : World} {a : Option Addr} {len cap : Nat} (h : Shape.Holds Tryz.prog w 9 22 [.slice a len cap]) : len ≤ cap ∧ cap ≤ maxLen ∧ Code w a len := by
  rcases Shape.holds_slice (n := 8) Tryz.underlying22 h with h | ⟨x, l, c, h, hl, hm, hx⟩
  · simp only [List.cons.injEq, Value.slice.injEq, and_true] at h
    obtain ⟨rfl, rfl, rfl⟩ := h
    exact ⟨Nat.le_refl _, by unfold maxLen; omega, Or.inl rfl⟩
  · simp only [List.cons.injEq, Value.slice.injEq, and_true] at h
    obtain ⟨rfl, rfl, rfl⟩ := h
    refine ⟨hl, hm, ?_⟩
    have hc (i : Nat) (hi : i < cap) : ∃ v : Int, w.cell? (x.add i) = some (.int .u8 v) ∧ 0 ≤ v ∧ v ≤ 255 := by
      obtain ⟨xs, h1, h2, h3⟩ := hx i hi
      obtain ⟨v, rfl, hv⟩ := Shape.holds_int (n := 7) Tryz.underlying5 h3
      have e1 : Tryz.prog.cellsOf 5 = 1 := by kernel_rfl
      have h4 := h2 0 (by rw [e1]; omega)
      rw [e1, Nat.mul_one, Nat.add_zero] at h4
      have hb := bounds_u8 hv
      exact ⟨v, h4, by omega, by omega⟩
    by_cases h0 : len = 0
    · exact Or.inl h0
    · obtain ⟨b, o, spot⟩ := x
      obtain ⟨v0, hv0, _⟩ := hc 0 (by omega)
      have hspot : spot = none := by simpa [Addr.add] using World.cell?_spot hv0
      subst hspot
      refine Or.inr ⟨b, o, rfl, World.block_lt_of_cell? w ⟨b, o + 0, none⟩ hv0, fun i hi => ?_⟩
      obtain ⟨v, hv, h1, h2⟩ := hc i (by omega)
      exact ⟨v, by rw [← Go.WideShapes.add_plain]; exact hv, h1, h2⟩
theorem itext_size (op d a k : Int) : (Ins.itext op d a k).size ≤ 20 := by
  unfold Ins.itext
  split
  · rename_i h
    exact InsI.text_size h
  · decide
theorem drawInsText (a : Option Addr) (len cap : Nat) (w : World) (hlc : len ≤ cap) (hm : cap ≤ maxLen) (hc : Code w a len) :
    Calls Tryz.prog 4 #[.slice a len cap] w fun e w' => ∃ op d a k, e = .returned (.agg #[.int .i64 op, .int .i64 d, .int .i64 a, .int .i64 k]) ∧ Below w.heap.size w w' := by
  have b0 : Below w.heap.size w (w.alloc (.cells #[.int .i64 0, .int .i64 0, .int .i64 0, .int .i64 0] 24)) := (Below.refl _ _).alloc (Nat.le_refl _) _
  have o := Blk.new w 0 0 0 0 24
  go_enter Tryz.func4, Tryz.ntmps4
  go_wp2_with fail
  refine (openRd a len cap _ hlc hm (hc.below b0)).mono ?_
  rintro e w1 ⟨R, rfl, hR, h1, b1⟩
  clear hc hm
  have hZ : w.heap.size ≠ R := by simp at hR; omega
  replace o := o.below b1
  replace b1 := b0.trans (b1.mono b0.size)
  go_wp2_with fail
  refine (insOr R 0 6 _ h1 (by omega) (by omega) (by omega)).mono ?_
  rintro e w2 ⟨op, d, a, k, rfl, h2, k2⟩
  replace o := o.keep k2 hZ
  have B : Below w.heap.size w w2 := b1.trans (k2.below (by simp at hR; omega) b1.size)
  clear b0 b1 k2 h1 h2
  obtain ⟨_, c0, c1, c2, c3, f0, f1, f2, f3⟩ := o
  go_wp2
  exact bodyPost_ret (v := .agg #[.int .i64 op, .int .i64 d, .int .i64 a, .int .i64 k]) (by simp [results, Tryz.results4, go_sem, c0, c1, c2, c3]) rfl ⟨_, _, _, _, rfl, (((B.setCell (Nat.le_refl _) _).setCell (Nat.le_refl _) _).setCell (Nat.le_refl _) _).setCell (Nat.le_refl _) _⟩
/-- The texts that DrawInsRead takes one of. -/
def lines16 : List ByteArray := [⟨#[]⟩, ⟨#[115, 101, 116]⟩, ⟨#[115, 101, 116, 32, 97]⟩, ⟨#[115, 101, 116, 32, 97, 32, 50, 53, 54]⟩, ⟨#[115, 101, 116, 32, 101, 32, 49]⟩, ⟨#[109, 111, 118, 101, 32, 97, 32, 98, 32, 99]⟩, ⟨#[115, 116, 111, 112, 32, 48]⟩, ⟨#[114, 101, 116, 117, 114, 110]⟩, ⟨#[108, 101, 116, 32]⟩, ⟨#[97, 100, 100, 32, 97, 32, 98]⟩, ⟨#[97, 100, 100, 32, 97, 32, 98, 32, 101]⟩, ⟨#[115, 104, 105, 102, 116, 32, 97, 32, 98, 32, 49, 54]⟩, ⟨#[103, 111]⟩, ⟨#[108, 111, 97, 100, 32, 97, 32, 98, 32, 48, 48, 55]⟩, ⟨#[119, 111, 114, 100, 32, 52]⟩, ⟨#[108, 101, 115, 115, 32, 97, 32, 98, 32, 45, 49]⟩]
theorem lines_at (x : Int) (h0 : 0 ≤ x) (h1 : x < 16) : ∃ t : ByteArray, lines16[x.toNat]? = some t ∧ t.size ≤ 14 := by
  obtain ⟨k, rfl⟩ := Int.eq_ofNat_of_zero_le h0
  rw [Int.toNat_natCast]
  have : k = 0 ∨ k = 1 ∨ k = 2 ∨ k = 3 ∨ k = 4 ∨ k = 5 ∨ k = 6 ∨ k = 7 ∨ k = 8 ∨ k = 9 ∨ k = 10 ∨ k = 11 ∨ k = 12 ∨ k = 13 ∨ k = 14 ∨ k = 15 := by omega
  rcases this with rfl | rfl | rfl | rfl | rfl | rfl | rfl | rfl | rfl | rfl | rfl | rfl | rfl | rfl | rfl | rfl <;> exact ⟨_, rfl, by decide⟩
theorem cells16s (w : World) (x : Int) (h0 : 0 ≤ x) (h1 : x < 16) : ∃ t : ByteArray, (w.alloc (.cells #[.string ⟨#[]⟩, .string ⟨#[115, 101, 116]⟩, .string ⟨#[115, 101, 116, 32, 97]⟩, .string ⟨#[115, 101, 116, 32, 97, 32, 50, 53, 54]⟩, .string ⟨#[115, 101, 116, 32, 101, 32, 49]⟩, .string ⟨#[109, 111, 118, 101, 32, 97, 32, 98, 32, 99]⟩, .string ⟨#[115, 116, 111, 112, 32, 48]⟩, .string ⟨#[114, 101, 116, 117, 114, 110]⟩, .string ⟨#[108, 101, 116, 32]⟩, .string ⟨#[97, 100, 100, 32, 97, 32, 98]⟩, .string ⟨#[97, 100, 100, 32, 97, 32, 98, 32, 101]⟩, .string ⟨#[115, 104, 105, 102, 116, 32, 97, 32, 98, 32, 49, 54]⟩, .string ⟨#[103, 111]⟩, .string ⟨#[108, 111, 97, 100, 32, 97, 32, 98, 32, 48, 48, 55]⟩, .string ⟨#[119, 111, 114, 100, 32, 52]⟩, .string ⟨#[108, 101, 115, 115, 32, 97, 32, 98, 32, 45, 49]⟩] 9)).cell? ⟨w.heap.size, x.toNat, none⟩ = some (.string t) ∧ t.size ≤ 14 := by
  obtain ⟨t, ht, hs⟩ := lines_at x h0 h1
  refine ⟨t, ?_, hs⟩
  have e : (#[.string ⟨#[]⟩, .string ⟨#[115, 101, 116]⟩, .string ⟨#[115, 101, 116, 32, 97]⟩, .string ⟨#[115, 101, 116, 32, 97, 32, 50, 53, 54]⟩, .string ⟨#[115, 101, 116, 32, 101, 32, 49]⟩, .string ⟨#[109, 111, 118, 101, 32, 97, 32, 98, 32, 99]⟩, .string ⟨#[115, 116, 111, 112, 32, 48]⟩, .string ⟨#[114, 101, 116, 117, 114, 110]⟩, .string ⟨#[108, 101, 116, 32]⟩, .string ⟨#[97, 100, 100, 32, 97, 32, 98]⟩, .string ⟨#[97, 100, 100, 32, 97, 32, 98, 32, 101]⟩, .string ⟨#[115, 104, 105, 102, 116, 32, 97, 32, 98, 32, 49, 54]⟩, .string ⟨#[103, 111]⟩, .string ⟨#[108, 111, 97, 100, 32, 97, 32, 98, 32, 48, 48, 55]⟩, .string ⟨#[119, 111, 114, 100, 32, 52]⟩, .string ⟨#[108, 101, 115, 115, 32, 97, 32, 98, 32, 45, 49]⟩] : Array Value) = (lines16.map Value.string).toArray := rfl
  rw [e, World.cell?_alloc_new]
  simp [ht]
set_option maxRecDepth 8000 in
set_option maxHeartbeats 4000000 in
theorem drawInsRead (a : Option Addr) (len cap : Nat) (w : World) (hlc : len ≤ cap) (hm : cap ≤ maxLen) (hc : Code w a len) :
    Calls Tryz.prog 5 #[.slice a len cap] w fun e w' => ∃ t : ByteArray, e = .returned (.string t) ∧ t.size ≤ 40 ∧ Below w.heap.size w w' := by
  go_enter Tryz.func5, Tryz.ntmps5
  go_wp2_with fail
  refine (openRd a len cap _ hlc hm hc).mono ?_
  rintro e w1 ⟨R, rfl, hR, h1, b1⟩
  clear hc hm
  go_wp2_with fail
  refine (ins R 0 _ h1 (by omega)).mono ?_
  rintro e w2 ⟨op, d, a, k, rfl, h2, k2⟩
  go_wp2_with fail
  refine (Ins.insText op d a k _).mono ?_
  rintro e w3 ⟨rfl, b3⟩
  have h3 := h2.below (b3.mono (by have := h2.lt; omega))
  have k3 := k2.trans (Keep.of_below b3)
  clear k2 b3 h2
  obtain ⟨s, es⟩ : ∃ s : ByteArray, s = Ins.itext op d a k := ⟨_, rfl⟩
  have hs : s.size ≤ 20 := by rw [es]; exact itext_size op d a k
  rw [← es]
  clear es
  go_wp2_with fail
  refine (pick R 7 3 _ h3 (by omega)).mono ?_
  rintro e w4 ⟨v, rfl, v0, v1, _, h4, k4⟩
  clear v1
  have k5 := k3.trans k4
  clear k3 k4 h3
  have hRl := h4.lt
  by_cases e0 : v = 0
  · subst e0
    go_wp2_with fail
    refine (pick R (7 + 1) 16 _ (h4.alloc _) (by omega)).mono ?_
    rintro e w5 ⟨y, rfl, y0, y1, _, h5, k6⟩
    have yb := y1 (by omega)
    clear y1
    obtain ⟨t, ht, t0⟩ := cells16s w4 y y0 yb
    have ht5 : w5.cell? ⟨w4.heap.size, y.toNat, none⟩ = some (.string t) := (k6.cell (p := ⟨w4.heap.size, y.toNat, none⟩) (by simp) (by simp; omega)).trans ht
    clear ht
    go_wp2
    go_ret
    exact ⟨t, rfl, by omega, b1.trans (((k5.alloc _).trans k6).below hR b1.size)⟩
  · have b0 : (v == 0) = false := beq_eq_false_iff_ne.2 e0
    by_cases e1 : v = 1
    · subst e1
      go_wp2_with fail
      refine (bent R (7 + 1) s _ h4 (by omega) (by omega)).mono ?_
      rintro e w5 ⟨t, rfl, t0, h5, k6⟩
      go_wp2
      go_ret
      exact ⟨t, rfl, by omega, b1.trans ((k5.trans k6).below hR b1.size)⟩
    · have bb : (v == 1) = false := beq_eq_false_iff_ne.2 e1
      go_wp2
      go_ret
      exact ⟨s, rfl, by omega, b1.trans (k5.below hR b1.size)⟩
end Go.Proofs.YthpajjlhjfhdpaaGreatDoor.Draw
