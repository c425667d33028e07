/-
  Plain facts on the decimal texts of words: what a text is read as, and that a sign or a needless nought is never the text of a word. No program in it.
-/
import Derived.Lib.AtoiTie
import Derived.Lib.ItoaNum
import Derived.Lib.Atoi
namespace Go.Proofs.YthpajjlhjfhdpaaGreatDoor.Words
open Go

/-- The text of a word; nothing, if it is none. -/
def txt (n : Int) : List UInt8 := if 0 ≤ n ∧ n < 65536 then Lib.decDigits n.toNat else []
theorem txt_in {n : Int} (h0 : 0 ≤ n) (h1 : n < 65536) : txt n = Lib.decDigits n.toNat := if_pos ⟨h0, h1⟩
theorem txt_out {n : Int} (h : ¬ (0 ≤ n ∧ n < 65536)) : txt n = [] := if_neg h

theorem dd_digits : ∀ (k : Nat) (b : UInt8), b ∈ Lib.decDigits k → 48 ≤ b.toNat ∧ b.toNat ≤ 57 := by
  intro k
  induction k using Nat.strongRecOn with
  | ind k ih =>
    intro b hb
    by_cases h : k < 10
    · rw [Lib.decDigits, dif_pos h] at hb
      simp only [List.mem_singleton] at hb
      subst hb
      rw [UInt8.toNat_ofNat']
      omega
    · rw [Lib.decDigits, dif_neg h] at hb
      simp only [List.mem_append, List.mem_singleton] at hb
      rcases hb with hb | hb
      · exact ih (k / 10) (by omega) b hb
      · subst hb
        rw [UInt8.toNat_ofNat']
        omega
theorem txt_digits (n : Int) (b : UInt8) (h : b ∈ txt n) : 48 ≤ b.toNat ∧ b.toNat ≤ 57 := by
  unfold txt at h
  split at h
  · exact dd_digits _ b h
  · cases h

/-- The word that a text is read as. -/
def rd (l : List UInt8) : Option Nat := match Lib.decNat l with
  | some m => if l.length ≤ 5 ∧ txt m = l then some m else none
  | none => none
theorem rd_none {l : List UInt8} (h : Lib.decNat l = none) : rd l = none := by unfold rd; rw [h]
theorem rd_some {l : List UInt8} {m : Nat} (h : Lib.decNat l = some m) (h5 : l.length ≤ 5) (ht : txt m = l) : rd l = some m := by
  unfold rd; rw [h]; simp [h5, ht]
theorem rd_other {l : List UInt8} {m : Nat} (h : Lib.decNat l = some m) (ht : ¬ txt m = l) : rd l = none := by
  unfold rd; rw [h]; simp [ht]
theorem rd_long {l : List UInt8} (h5 : 5 < l.length) : rd l = none := by
  unfold rd
  split
  · rw [if_neg (by omega)]
  · rfl
theorem rd_empty : rd [] = none := rfl

theorem atoi_of_decNat {l : List UInt8} {m : Nat} (h : Lib.decNat l = some m) : Lib.atoi l = some (m : Int) := by
  obtain ⟨hne, hd⟩ := Lib.decNat_some h
  cases l with
  | nil => exact absurd rfl hne
  | cons b r =>
    obtain ⟨d, hv⟩ := Lib.digit_of_decFrom (b :: r) 0 m hd 0 b rfl
    obtain ⟨h1, h2, _⟩ := Lib.digitVal_eq hv
    have n45 : (b == 45) = false := by
      rw [beq_eq_false_iff_ne]; rintro rfl; simp at h1
    have n43 : (b == 43) = false := by
      rw [beq_eq_false_iff_ne]; rintro rfl; simp at h1
    simp only [Lib.atoi, n45, n43, h]
    rfl
theorem decNat_of_atoi {l : List UInt8} {v : Int} (h : Lib.atoi l = some v) (ht : txt v = l) : ∃ m : Nat, v = (m : Int) ∧ Lib.decNat l = some m := by
  obtain ⟨b, r, rfl, hc⟩ := Lib.atoi_cases h
  have hb := txt_digits v b (by rw [ht]; simp)
  rcases hc with ⟨rfl, _⟩ | ⟨rfl, _⟩ | ⟨_, _, m, hm, hv⟩
  · simp at hb
  · simp at hb
  · exact ⟨m, hv, by unfold Lib.decNat; simpa using hm⟩
theorem rd_atoi_none {l : List UInt8} (h : Lib.atoi l = none) : rd l = none := by
  cases hd : Lib.decNat l with
  | none => exact rd_none hd
  | some m => rw [atoi_of_decNat hd] at h; cases h
theorem rd_atoi_other {l : List UInt8} {v : Int} (h : Lib.atoi l = some v) (ht : ¬ txt v = l) : rd l = none := by
  cases hd : Lib.decNat l with
  | none => exact rd_none hd
  | some m =>
    rw [atoi_of_decNat hd] at h
    obtain rfl := Option.some.inj h
    exact rd_other hd ht
theorem rd_atoi_some {l : List UInt8} {v : Int} (h : Lib.atoi l = some v) (h5 : l.length ≤ 5) (ht : txt v = l) : ∃ m : Nat, v = (m : Int) ∧ rd l = some m := by
  obtain ⟨m, rfl, hd⟩ := decNat_of_atoi h ht
  exact ⟨m, rfl, rd_some hd h5 ht⟩
/-- What is told of a text: the word, and whether there is one. -/
def rdN (l : List UInt8) : Int := ((rd l).getD 0 : Nat)
def rdB (l : List UInt8) : Bool := (rd l).isSome
theorem decNat_take {l : List UInt8} (hne : l ≠ []) {m : Nat} (h : Lib.decFrom 0 l = some m) : Lib.decNat l = some m := by
  unfold Lib.decNat
  cases l with
  | nil => exact absurd rfl hne
  | cons b r => simpa using h
theorem decNat_bad {l : List UInt8} {k : Nat} {b : UInt8} (hk : l[k]? = some b) (hb : b.toNat < 48 ∨ 57 < b.toNat) : Lib.decNat l = none := by
  cases hd : Lib.decNat l with
  | none => rfl
  | some m =>
    obtain ⟨_, hf⟩ := Lib.decNat_some hd
    obtain ⟨d, hv⟩ := Lib.digit_of_decFrom l 0 m hf k b hk
    obtain ⟨h1, h2, _⟩ := Lib.digitVal_eq hv
    omega
theorem digit_ok {b : UInt8} (h1 : 48 ≤ b.toNat) (h2 : b.toNat ≤ 57) : Lib.digitVal b = some (b.toNat - 48) := by
  unfold Lib.digitVal; rw [if_pos ⟨h1, h2⟩]
end Go.Proofs.YthpajjlhjfhdpaaGreatDoor.Words
