/-
  What the drawing functions of chapter 1 that deal in texts return (l20Bent, DrawWrdText, DrawWrdRead): a number, a text of at most seven bytes; nothing that was there before the reader is written.
-/
import Derived.Test.YthpajjlhjfhdpaaGreatDoorDrawB
import Derived.Test.YthpajjlhjfhdpaaGreatDoorReads
namespace Go.Proofs.YthpajjlhjfhdpaaGreatDoor.Draw
open Go.ChangeShapes Go.WideShapes Go.ChangeAt Go.RowKit

theorem cells7 (w : World) (y x : Int) (hy0 : 0 ≤ y) (hy1 : y < 256) (h0 : 0 ≤ x) (h1 : x < 7) : ∃ z : Int, (w.alloc (.cells #[.int .i64 32, .int .i64 48, .int .i64 49, .int .i64 57, .int .i64 97, .int .i64 101, .int .i64 y] 3)).cell? ⟨w.heap.size, x.toNat, none⟩ = some (.int .i64 z) ∧ 0 ≤ z ∧ z < 256 := by
  obtain ⟨k, rfl⟩ := Int.eq_ofNat_of_zero_le h0
  rw [Int.toNat_natCast, World.cell?_alloc_new]
  have : k = 0 ∨ k = 1 ∨ k = 2 ∨ k = 3 ∨ k = 4 ∨ k = 5 ∨ k = 6 := by omega
  rcases this with rfl | rfl | rfl | rfl | rfl | rfl | rfl
  · exact ⟨_, rfl, by omega, by omega⟩
  · exact ⟨_, rfl, by omega, by omega⟩
  · exact ⟨_, rfl, by omega, by omega⟩
  · exact ⟨_, rfl, by omega, by omega⟩
  · exact ⟨_, rfl, by omega, by omega⟩
  · exact ⟨_, rfl, by omega, by omega⟩
  · exact ⟨y, rfl, hy0, hy1⟩
theorem Rd.drewN {R q : Nat} {w : World} (h : Rd R q w) (k : Nat) : Rd R q (w.drewN k) := h.below ⟨rfl, rfl, rfl, Nat.le_refl _, fun _ _ => rfl⟩
theorem Keep.drewN {R : Nat} {a w : World} (h : Keep R a w) (k : Nat) : Keep R a (w.drewN k) := h.trans ⟨rfl, rfl, rfl, Nat.le_refl _, fun _ _ _ => rfl⟩
set_option maxHeartbeats 2000000 in
theorem bent (R q : Nat) (s : ByteArray) (w : World) (h : Rd R q w) (hq : q ≤ 800000) (hs : s.size ≤ 1000) :
    Calls Tryz.prog 17 #[.pointer (some ⟨R, 0, none⟩), .string s] w fun e w' => ∃ t : ByteArray, e = .returned (.string t) ∧ t.size ≤ s.size + 1 ∧ Rd R (q + 4) w' ∧ Keep R w w' := by
  go_enter Tryz.func17, Tryz.ntmps17
  go_wp2_with fail
  refine (pick R q (s.size + 1) _ h (by omega)).mono ?_
  rintro e w1 ⟨k, rfl, k0, k1, _, h1, K1⟩
  have kb := k1 (by omega)
  clear k1
  go_wp2_with fail
  refine (pick R (q + 1) 256 _ h1 (by omega)).mono ?_
  rintro e w2 ⟨y, rfl, y0, y1, _, h2, K2⟩
  have yb := y1 (by omega)
  clear y1
  have hR := h2.lt
  go_wp2_with fail
  refine (pick R (q + 2) 7 _ (h2.alloc _) (by omega)).mono ?_
  rintro e w3 ⟨x, rfl, x0, x1, _, h3, K3⟩
  have xb := x1 (by omega)
  clear x1
  obtain ⟨z, hz, z0, z1⟩ := cells7 w2 y x y0 yb x0 xb
  have hz3 : w3.cell? ⟨w2.heap.size, x.toNat, none⟩ = some (.int .i64 z) := (K3.cell (p := ⟨w2.heap.size, x.toNat, none⟩) (by simp) (by simp; omega)).trans hz
  clear hz
  have hcv := Words.conv1 w3 z z0 z1
  have hu : IntKind.u8.wrap z = z := IntWalk.u8_in _ ⟨z0, by omega⟩
  go_wp2_with fail
  refine (pick R (q + 3) 3 _ (h3.alloc _) (by omega)).mono ?_
  rintro e w4 ⟨v, rfl, v0, v1, _, h4, K4⟩
  clear v1 hcv hu hz3
  have KK : Keep R w w4 := ((((K1.trans K2).alloc _).trans K3).alloc _).trans K4
  clear K1 K2 K3 K4
  have hc1 : ({ data := #[UInt8.ofNat z.toNat] } : ByteArray).size = 1 := rfl
  generalize ({ data := #[UInt8.ofNat z.toNat] } : ByteArray) = c at hc1 ⊢
  obtain ⟨kn, rfl⟩ := Int.eq_ofNat_of_zero_le k0
  have hcs : c.size ≤ 1 := by omega
  clear hc1
  by_cases e0 : v = 0
  · subst e0
    go_wp2_with fail
    go_quiet (fail)
    go_wp2
    go_ret
    exact ⟨_, rfl, by simp [ByteArray.size_append, ByteArray.size_extract]; omega, h4.drewN _, KK.drewN _⟩
  · have b0 : (v == 0) = false := beq_eq_false_iff_ne.2 e0
    by_cases e1 : v = 1
    · subst e1
      by_cases hk : kn < s.size
      · go_wp2_with fail
        go_quiet (fail)
        go_wp2
        go_ret
        exact ⟨_, rfl, by simp [ByteArray.size_append, ByteArray.size_extract]; omega, h4.drewN _, KK.drewN _⟩
      · go_wp2
        go_ret
        exact ⟨_, rfl, by omega, h4, KK⟩
    · have b1 : (v == 1) = false := beq_eq_false_iff_ne.2 e1
      by_cases hk : kn < s.size
      · go_wp2_with fail
        go_quiet (fail)
        go_wp2
        go_ret
        exact ⟨_, rfl, by simp [ByteArray.size_append, ByteArray.size_extract]; omega, h4.drewN _, KK.drewN _⟩
      · go_wp2
        go_ret
        exact ⟨_, rfl, by omega, h4, KK⟩
theorem txt_size (n : Int) : (Words.txt n).length ≤ 5 := by
  unfold Words.txt
  split
  · exact Words.nd_le _ 4 (by omega)
  · simp
theorem cells7s (w : World) (x : Int) (h0 : 0 ≤ x) (h1 : x < 7) : ∃ t : ByteArray, (w.alloc (.cells #[.string ⟨#[]⟩, .string ⟨#[48, 48]⟩, .string ⟨#[54, 53, 53, 51, 54]⟩, .string ⟨#[57, 57, 57, 57, 57]⟩, .string ⟨#[45, 49]⟩, .string ⟨#[49, 32]⟩, .string ⟨#[48, 54, 53]⟩] 9)).cell? ⟨w.heap.size, x.toNat, none⟩ = some (.string t) ∧ t.size ≤ 6 := by
  obtain ⟨k, rfl⟩ := Int.eq_ofNat_of_zero_le h0
  rw [Int.toNat_natCast, World.cell?_alloc_new]
  have : k = 0 ∨ k = 1 ∨ k = 2 ∨ k = 3 ∨ k = 4 ∨ k = 5 ∨ k = 6 := by omega
  rcases this with rfl | rfl | rfl | rfl | rfl | rfl | rfl <;> exact ⟨_, rfl, by decide⟩
end Go.Proofs.YthpajjlhjfhdpaaGreatDoor.Draw
