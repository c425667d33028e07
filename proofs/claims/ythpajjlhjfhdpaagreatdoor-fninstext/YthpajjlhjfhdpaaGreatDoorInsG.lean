/-
  The program's reading of a line: what strings.Split parts is what the specification parts; contracts of byName and fieldValue.
-/
import Derived.Test.YthpajjlhjfhdpaaGreatDoorInsM
import Derived.Test.YthpajjlhjfhdpaaGreatDoorInsX
import Derived.Test.YthpajjlhjfhdpaaGreatDoorReads
import Derived.Test.YthpajjlhjfhdpaaGreatDoorInsB
import Derived.Handy
namespace Go.Proofs.YthpajjlhjfhdpaaGreatDoor.InsI
open Go.ChangeShapes Go.WideShapes Go.ChangeAt Go.RowKit Ins
theorem part_at : ∀ l : List UInt8, (32 : UInt8) ∈ l → ∃ l1 l2, l = l1 ++ 32 :: l2 ∧ ∀ b ∈ l1, b ≠ 32
  | [], h => by cases h
  | b :: l, h => by
    by_cases e : b = 32
    · subst e
      exact ⟨[], l, rfl, fun _ h => by cases h⟩
    · rcases List.mem_cons.1 h with h | h
      · exact absurd h.symm e
      · obtain ⟨l1, l2, rfl, h1⟩ := part_at l h
        refine ⟨b :: l1, l2, rfl, fun x hx => ?_⟩
        rcases List.mem_cons.1 hx with rfl | hx
        · exact e
        · exact h1 x hx
theorem index_at : ∀ (l1 l2 : List UInt8), (∀ b ∈ l1, b ≠ 32) → Lib.indexByte (l1 ++ 32 :: l2) 32 = l1.length
  | [], l2, _ => by simp [Lib.indexByte]
  | b :: l1, l2, h => by
    have hb : (b == 32) = false := beq_eq_false_iff_ne.2 (h b (by simp))
    have ih := index_at l1 l2 (fun x hx => h x (by simp [hx]))
    have hn : ((l1.length : Int) == -1) = false := beq_eq_false_iff_ne.2 (by omega)
    rw [List.cons_append, Lib.indexByte, hb, ih, hn]
    simp
theorem splitK_go : ∀ (n : Nat) (l : List UInt8), l.count 32 = n → Lib.splitK [32] 0 n l = splitGo [] l
  | 0, l, h => by
    have hn : ∀ b ∈ l, b ≠ 32 := fun b hb e => by
      subst e
      exact absurd h (Nat.ne_of_gt (List.count_pos_iff.2 hb))
    rw [split_last l [] hn]
    rfl
  | n + 1, l, h => by
    have hm : (32 : UInt8) ∈ l := List.count_pos_iff.1 (by omega)
    obtain ⟨l1, l2, rfl, h1⟩ := part_at l hm
    have hc : l2.count 32 = n := by
      have h0 : l1.count 32 = 0 := List.count_eq_zero.2 (fun hx => h1 32 hx rfl)
      simp [List.count_append, h0] at h
      omega
    have hi := index_at l1 l2 h1
    have hne : ((l1.length : Int) == -1) = false := beq_eq_false_iff_ne.2 (by omega)
    rw [split_word l1 [] l2 h1, Lib.splitK, Lib.index_one, hi, hne]
    have e1 : (l1 ++ 32 :: l2).take l1.length = l1 := by simp
    have e2 : (l1 ++ 32 :: l2).drop (l1.length + 1) = l2 := by simp
    simp only [Bool.false_eq_true, if_false, Int.toNat_natCast, Nat.add_zero, List.length_cons, List.length_nil, Nat.zero_add, e1, e2, List.nil_append]
    rw [splitK_go n l2 hc]
theorem splitB_go (s : ByteArray) : (Lib.splitB sp 0 (Lib.countB s sp) s).map (·.data.toList) = splitGo [] s.data.toList := by
  rw [Lib.splitB_data]
  have e : Lib.countB s sp = s.data.toList.count 32 := Lib.count_one 32 s.data.toList
  rw [e]
  exact splitK_go _ _ rfl
/-- The number that a field says, and whether it says one. -/
def fvB (l : List UInt8) : Bool := match l with
  | [b] => decide (97 ≤ b.toNat ∧ b.toNat ≤ 100) || Words.rdB l
  | _ => Words.rdB l
def fvN (l : List UInt8) : Int := match l with
  | [b] => if 97 ≤ b.toNat ∧ b.toNat ≤ 100 then (b.toNat : Int) - 97 else Words.rdN l
  | _ => Words.rdN l
theorem fv_reg {k : Int} (h0 : 0 ≤ k) (h1 : k ≤ 3) : fvB (regL k) = true ∧ fvN (regL k) = k := by
  rcases four4 h0 h1 with rfl | rfl | rfl | rfl <;> exact ⟨by decide, by decide⟩
theorem dig_one {k : Int} {b : UInt8} (h : digL k = [b]) : ¬ (97 ≤ b.toNat ∧ b.toNat ≤ 100) := by
  have := Words.dd_digits k.toNat b (by unfold digL at h; rw [h]; simp)
  omega
theorem fv_dig {k : Int} (h0 : 0 ≤ k) (h1 : k ≤ 255) : fvB (digL k) = true ∧ fvN (digL k) = k := by
  have h := rd_dig h0 h1
  have hB : Words.rdB (digL k) = true := by unfold Words.rdB; rw [h]; rfl
  have hN : Words.rdN (digL k) = k := by unfold Words.rdN; rw [h]; simp; omega
  match hd : digL k with
  | [b] =>
    have hn := dig_one hd
    rw [hd] at hB hN
    exact ⟨by unfold fvB; rw [hB]; simp, by unfold fvN; simp only []; rw [if_neg hn]; exact hN⟩
  | [] => rw [hd] at hB hN; exact ⟨hB, hN⟩
  | a :: b :: r => rw [hd] at hB hN; exact ⟨hB, hN⟩
end Go.Proofs.YthpajjlhjfhdpaaGreatDoor.InsI
