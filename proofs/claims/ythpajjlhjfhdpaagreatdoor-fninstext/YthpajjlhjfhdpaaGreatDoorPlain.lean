/-
  Contracts of the specification's l1Plain (the decimals of a number) and the conversion of one byte to a text.
-/
import Derived.Test.YthpajjlhjfhdpaaGreatDoorProg
import Derived.WalkKit
import Derived.WalkSpells
import Derived.ProofKit
import Derived.OwnWalk
import Derived.Laws.IdiomStrings
import Derived.Lib.ItoaNum
namespace Go.Proofs.YthpajjlhjfhdpaaGreatDoor.Words
open Go.ChangeShapes Go.WideShapes Go.ChangeAt Go.RowKit

theorem hide {p : Prop} (h : p) : Hid p := h
theorem unhide {p : Prop} (h : Hid p) : p := h
theorem conv1 (W : World) (c : Int) (h0 : 0 ≤ c) (h1 : c < 256) :
    (convert 22 9 (.slice (some ⟨W.heap.size, 0, none⟩) 1 1)).run Tryz.prog (W.alloc (.cells #[.int .u8 c] 5)) = .ok (.string ⟨#[UInt8.ofNat c.toNat]⟩) (W.alloc (.cells #[.int .u8 c] 5)) := by
  have h := run_convert_bytes_back (P := Tryz.prog) (W.alloc (.cells #[.int .u8 c] 5)) 22 9 5 ⟨W.heap.size, 0, none⟩ 1 [UInt8.ofNat c.toNat] Tryz.underlying22 Tryz.underlying5 Tryz.underlying9 (by
    intro j hj
    have : j = 0 := by simp at hj; omega
    subst this
    simp [Addr.add]
    omega)
  simpa using h
theorem dd_small (k : Nat) (h : ¬ 9 < k) : Lib.decDigits k = [48 + UInt8.ofNat k] := by
  rw [Lib.decDigits, dif_pos (by omega)]; simp
theorem dd_big (k : Nat) (h : 9 < k) : Lib.decDigits k = Lib.decDigits (k / 10) ++ [48 + UInt8.ofNat (k % 10)] := by
  rw [Lib.decDigits, dif_neg (by omega)]; simp
theorem app1 (c : UInt8) (l : List UInt8) : ({ data := #[c] } : ByteArray) ++ { data := l.toArray } = ⟨(c :: l).toArray⟩ := by
  apply ByteArray.ext; simp

set_option maxRecDepth 8000 in
set_option maxHeartbeats 4000000 in
theorem plain_any (n : Nat) (hn : n < 100000) (w : World) :
    Calls Tryz.prog 30 #[.int .i64 n] w fun e w' => e = .returned (.string ⟨(Lib.decDigits n).toArray⟩) ∧ Below w.heap.size w w' := by
  go_enter Tryz.func30, Tryz.ntmps30
  go_wp2
  go_loopw [0, 3] (fun a o wr => ∃ (k : Nat) (l : List UInt8), l.length + k ≤ n ∧ a = .int .i64 k ∧ o = .string ⟨l.toArray⟩ ∧ Hid (Lib.decDigits n = Lib.decDigits k ++ l) ∧ Below w.heap.size w wr) (fun a _ _ => (intOf a).toNat)
  case atStart => exact ⟨n, [], by simp, rfl, rfl, show _ = _ by simp, Below.refl _ _⟩
  case round =>
    obtain ⟨k, l, hk, rfl, rfl, HD, hb⟩ := hrel
    by_cases hlt : 9 < k
    · have hcv := conv1 wr (48 + ↑k % 10) (by omega) (by omega)
      go_wp2
      refine ⟨⟨k / 10, (48 + UInt8.ofNat (k % 10)) :: l, by simp; omega, by go_num, by rw [app1], ?_, hb.alloc hb.size _⟩, by simp [intOf]; omega⟩
      show _ = _
      rw [HD.out, dd_big k hlt]; simp
    · have hcv := conv1 wr (48 + ↑k) (by omega) (by omega)
      go_wp2
      go_ret
      refine ⟨?_, hb.alloc hb.size _⟩
      rw [HD.out, dd_small k hlt, app1]; rfl

theorem nd_le (k : Nat) : ∀ n : Nat, k < 10 ^ (n + 1) → (Lib.decDigits k).length ≤ n + 1 := by
  induction k using Nat.strongRecOn with
  | ind k ih =>
    intro n hn
    by_cases h : k < 10
    · rw [Lib.decDigits, dif_pos h]; simp
    · rw [Lib.decDigits, dif_neg h, List.length_append]
      cases n with
      | zero => omega
      | succ n =>
        have := ih (k / 10) (by omega) n (by rw [Nat.pow_succ] at hn; omega)
        simp; omega
end Go.Proofs.YthpajjlhjfhdpaaGreatDoor.Words
