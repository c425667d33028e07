/-
  Lines and instructions: the text of an instruction that is ok, parted at its spaces, says that instruction and no other.
-/
import Derived.Test.YthpajjlhjfhdpaaGreatDoorInsT
import Derived.Test.YthpajjlhjfhdpaaGreatDoorInsR
import Derived.Test.YthpajjlhjfhdpaaGreatDoorWordMath
namespace Go.Proofs.YthpajjlhjfhdpaaGreatDoor.Ins
open Go.ChangeShapes Go.WideShapes Go.ChangeAt Go.RowKit

/-- The number that a text says; -1, if it is none. -/
def numOf (l : List UInt8) : Int := if Words.rdB l then Words.rdN l else -1
theorem split_word : ∀ (l acc r : List UInt8), (∀ b ∈ l, b ≠ 32) → splitGo acc (l ++ 32 :: r) = (acc ++ l) :: splitGo [] r
  | [], acc, r, _ => by simp [splitGo]
  | b :: l, acc, r, h => by
    have hb : b ≠ 32 := h b (by simp)
    have := split_word l (acc ++ [b]) r (fun x hx => h x (by simp [hx]))
    rw [List.cons_append, splitGo, if_neg hb, this]
    simp
theorem split_last : ∀ (l acc : List UInt8), (∀ b ∈ l, b ≠ 32) → splitGo acc l = [acc ++ l]
  | [], acc, _ => by simp [splitGo]
  | b :: l, acc, h => by
    have hb : b ≠ 32 := h b (by simp)
    have := split_last l (acc ++ [b]) (fun x hx => h x (by simp [hx]))
    rw [splitGo, if_neg hb, this]
    simp
def nameL (op : Int) : List UInt8 := (nameS op).data.toList
def stopL (k : Int) : List UInt8 := (stopS k).data.toList
def regL (k : Int) : List UInt8 := [UInt8.ofNat (97 + k).toNat]
def digL (k : Int) : List UInt8 := Lib.decDigits k.toNat
theorem ops16 {op : Int} (h0 : 0 ≤ op) (h1 : op ≤ 15) : op = 0 ∨ op = 1 ∨ op = 2 ∨ op = 3 ∨ op = 4 ∨ op = 5 ∨ op = 6 ∨ op = 7 ∨ op = 8 ∨ op = 9 ∨ op = 10 ∨ op = 11 ∨ op = 12 ∨ op = 13 ∨ op = 14 ∨ op = 15 := by omega
theorem four4 {k : Int} (h0 : 0 ≤ k) (h1 : k ≤ 3) : k = 0 ∨ k = 1 ∨ k = 2 ∨ k = 3 := by omega
theorem name_sp {op : Int} (h0 : 0 ≤ op) (h1 : op ≤ 15) : ∀ b ∈ nameL op, b ≠ 32 := by
  rcases ops16 h0 h1 with rfl | rfl | rfl | rfl | rfl | rfl | rfl | rfl | rfl | rfl | rfl | rfl | rfl | rfl | rfl | rfl <;> decide
theorem stop_sp {k : Int} (h0 : 0 ≤ k) (h1 : k ≤ 3) : ∀ b ∈ stopL k, b ≠ 32 := by
  rcases four4 h0 h1 with rfl | rfl | rfl | rfl <;> decide
theorem reg_sp {k : Int} (h0 : 0 ≤ k) (h1 : k ≤ 3) : ∀ b ∈ regL k, b ≠ 32 := by
  rcases four4 h0 h1 with rfl | rfl | rfl | rfl <;> decide
theorem dig_sp (k : Int) : ∀ b ∈ digL k, b ≠ 32 := by
  intro b hb e
  have := (Words.dd_digits k.toNat b hb).1
  rw [e] at this
  exact absurd this (by decide)
/-- The words of an instruction's text. -/
def wordsOf (op d a k : Int) : List (List UInt8) :=
  if op = 0 then [stopL k]
  else if op = 1 then [nameL op, regL d, digL k]
  else if op = 2 then [nameL op, regL d, regL a]
  else if 3 ≤ op ∧ op ≤ 7 then [nameL op, regL d, regL a, regL k]
  else if op = 13 then [nameL op, regL a]
  else if op = 14 ∨ op = 15 then [nameL op, regL d]
  else [nameL op, regL d, regL a, digL k]
theorem nameS_l (op : Int) : (nameS op).data.toList = nameL op := rfl
theorem regS_l (op : Int) : (regS op).data.toList = regL op := rfl
theorem digS_l (op : Int) : (digS op).data.toList = digL op := rfl
theorem sp_l : sp.data.toList = [32] := rfl
theorem split_text {op d a k : Int} (h : okB op d a k = true) : splitGo [] (textS op d a k).data.toList = wordsOf op d a k := by
  obtain ⟨o0, o1, d0, d1, a0, a1, k0, k1, hF⟩ := okB_bd h
  unfold textS wordsOf
  split
  · rename_i e; subst e
    exact split_last (stopL k) [] (stop_sp k0 (form_0 hF))
  split
  · simp only [ByteArray.data_append, Array.toList_append, nameS_l, regS_l, digS_l, sp_l, List.append_assoc, List.cons_append, List.nil_append]
    rw [split_word _ _ _ (name_sp o0 o1), split_word _ _ _ (reg_sp d0 d1), split_last _ _ (dig_sp k)]
    rfl
  split
  · simp only [ByteArray.data_append, Array.toList_append, nameS_l, regS_l, sp_l, List.append_assoc, List.cons_append, List.nil_append]
    rw [split_word _ _ _ (name_sp o0 o1), split_word _ _ _ (reg_sp d0 d1), split_last _ _ (reg_sp a0 a1)]
    rfl
  split
  · rename_i e
    have := form_r e.1 e.2 hF
    simp only [ByteArray.data_append, Array.toList_append, nameS_l, regS_l, sp_l, List.append_assoc, List.cons_append, List.nil_append]
    rw [split_word _ _ _ (name_sp o0 o1), split_word _ _ _ (reg_sp d0 d1), split_word _ _ _ (reg_sp a0 a1), split_last _ _ (reg_sp k0 (by omega))]
    rfl
  split
  · simp only [ByteArray.data_append, Array.toList_append, nameS_l, regS_l, sp_l, List.cons_append, List.nil_append]
    rw [split_word _ _ _ (name_sp o0 o1), split_last _ _ (reg_sp a0 a1)]
    rfl
  split
  · simp only [ByteArray.data_append, Array.toList_append, nameS_l, regS_l, sp_l, List.cons_append, List.nil_append]
    rw [split_word _ _ _ (name_sp o0 o1), split_last _ _ (reg_sp d0 d1)]
    rfl
  · simp only [ByteArray.data_append, Array.toList_append, nameS_l, regS_l, digS_l, sp_l, List.append_assoc, List.cons_append, List.nil_append]
    rw [split_word _ _ _ (name_sp o0 o1), split_word _ _ _ (reg_sp d0 d1), split_word _ _ _ (reg_sp a0 a1), split_last _ _ (dig_sp k)]
    rfl
theorem stop_name : ∀ k : Fin 4, ∀ j : Fin 16, 1 ≤ j.val → (stopS (k.val : Int)).data.toList ≠ (nameS (j.val : Int)).data.toList := by decide
theorem name_inj : ∀ k : Fin 16, ∀ j : Fin 16, (nameS (k.val : Int)).data.toList = (nameS (j.val : Int)).data.toList → k = j := by decide
theorem stop_inj : ∀ k : Fin 4, ∀ j : Fin 4, (stopS (k.val : Int)).data.toList = (stopS (j.val : Int)).data.toList → k = j := by decide
theorem regOf_reg {k : Int} (h0 : 0 ≤ k) (h1 : k ≤ 3) : regOf (regL k) = k := by
  rcases four4 h0 h1 with rfl | rfl | rfl | rfl <;> decide
theorem decFrom_snoc : ∀ (l : List UInt8) (acc m : Nat) (b : UInt8) (d : Nat), Lib.decFrom acc l = some m → Lib.digitVal b = some d → Lib.decFrom acc (l ++ [b]) = some (m * 10 + d)
  | [], acc, m, b, d, h, hb => by
    simp only [Lib.decFrom, Option.some.injEq] at h
    subst h
    simp [Lib.decFrom, hb]
  | c :: l, acc, m, b, d, h, hb => by
    simp only [List.cons_append, Lib.decFrom] at h ⊢
    cases hc : Lib.digitVal c with
    | none => rw [hc] at h; cases h
    | some e =>
      rw [hc] at h
      exact decFrom_snoc l _ m b d h hb
theorem dig_of (k : Nat) (h : k < 10) : Lib.digitVal (UInt8.ofNat (48 + k)) = some k := by
  have : (UInt8.ofNat (48 + k)).toNat = 48 + k := by rw [UInt8.toNat_ofNat']; omega
  unfold Lib.digitVal
  rw [this, if_pos (by omega)]
  simp
theorem dec_digits (k : Nat) : Lib.decFrom 0 (Lib.decDigits k) = some k := by
  induction k using Nat.strongRecOn with
  | ind k ih =>
    by_cases h : k < 10
    · rw [Lib.decDigits, dif_pos h]
      unfold Lib.decFrom
      rw [dig_of k h]
      simp [Lib.decFrom]
    · rw [Lib.decDigits, dif_neg h, decFrom_snoc _ 0 (k / 10) _ (k % 10) (ih _ (by omega)) (dig_of _ (by omega))]
      congr 1; omega
theorem dd_ne (k : Nat) : Lib.decDigits k ≠ [] := by
  by_cases h : k < 10
  · rw [Lib.decDigits, dif_pos h]; simp
  · rw [Lib.decDigits, dif_neg h]; simp
theorem rd_dig {k : Int} (h0 : 0 ≤ k) (h1 : k ≤ 255) : Words.rd (digL k) = some k.toNat := by
  have e : ((k.toNat : Nat) : Int) = k := by omega
  have ht : Words.txt k = digL k := Words.txt_in h0 (by omega)
  have hl := Words.nd_le k.toNat 2 (by omega)
  refine Words.rd_some ?_ (by unfold digL; omega) (by rw [e]; exact ht)
  exact Words.decNat_take (dd_ne _) (dec_digits _)
theorem numOf_dig {k : Int} (h0 : 0 ≤ k) (h1 : k ≤ 255) : numOf (digL k) = k := by
  have h := rd_dig h0 h1
  unfold numOf Words.rdB Words.rdN
  rw [h]
  simp; omega
/-- What is read of the words behind the first. -/
def dOf (o : Int) (x1 : List UInt8) : Int := if o = 0 ∨ o = 13 then 0 else regOf x1
def aOf (o : Int) (x1 x2 : List UInt8) : Int := if o = 0 ∨ o = 1 ∨ o = 14 ∨ o = 15 then 0 else if o = 13 then regOf x1 else regOf x2
def kOf (o t : Int) (x2 x3 : List UInt8) : Int := if o = 0 then t else if o = 1 then numOf x2 else if 3 ≤ o ∧ o ≤ 7 then regOf x3 else if o = 2 ∨ o = 13 ∨ o = 14 ∨ o = 15 then 0 else numOf x3
theorem opOf_name {op o t : Int} (h0 : 1 ≤ op) (h1 : op ≤ 15) (h : OpOf (nameS op) o t) : o = op ∧ t = 0 := by
  obtain ⟨n, rfl⟩ := Int.eq_ofNat_of_zero_le (show 0 ≤ op by omega)
  have hn : n < 16 := by omega
  rcases h with ⟨k, hk, _, _, e⟩ | ⟨_, ⟨k, hk1, hk2, rfl, rfl, e⟩ | ⟨_, _, e⟩⟩
  · exact absurd (congrArg (·.data.toList) e) (stop_name ⟨k, hk⟩ ⟨n, hn⟩ (by show 1 ≤ n; omega))
  · have := name_inj ⟨k, hk2⟩ ⟨n, hn⟩ (congrArg (·.data.toList) e)
    simp at this
    exact ⟨by omega, rfl⟩
  · exact absurd rfl (e n (by omega) hn)
theorem opOf_stop {k o t : Int} (h0 : 0 ≤ k) (h1 : k ≤ 3) (h : OpOf (stopS k) o t) : o = 0 ∧ t = k := by
  obtain ⟨n, rfl⟩ := Int.eq_ofNat_of_zero_le h0
  have hn : n < 4 := by omega
  rcases h with ⟨k, hk, rfl, rfl, e⟩ | ⟨e, _⟩
  · have := stop_inj ⟨k, hk⟩ ⟨n, hn⟩ (congrArg (·.data.toList) e)
    simp at this
    exact ⟨rfl, by omega⟩
  · exact absurd rfl (e n hn)
theorem mk_list (s : ByteArray) : (⟨s.data.toList.toArray⟩ : ByteArray) = s := by
  apply ByteArray.ext; simp
theorem form_1 {d a k : Int} (h : formB 1 d a k = true) : a = 0 := by simpa [formB] using h
theorem form_2 {d a k : Int} (h : formB 2 d a k = true) : k = 0 := by simpa [formB] using h
theorem form_00 {d a k : Int} (h : formB 0 d a k = true) : d = 0 ∧ a = 0 := by
  unfold formB at h
  rw [if_pos rfl] at h
  exact ⟨(of_decide_eq_true h).1, (of_decide_eq_true h).2.1⟩
theorem form_13 {d a k : Int} (h : formB 13 d a k = true) : d = 0 ∧ k = 0 := by simpa [formB] using h
theorem form_io {op d a k : Int} (e : op = 14 ∨ op = 15) (h : formB op d a k = true) : a = 0 ∧ k = 0 := by
  rcases e with rfl | rfl <;> simpa [formB] using h
/-- What is read of the text of an instruction that is ok is that instruction. -/
theorem read_text {op d a k o t : Int} (h : okB op d a k = true) (hop : OpOf ⟨((wordsOf op d a k).getD 0 []).toArray⟩ o t) :
    o = op ∧ dOf o ((wordsOf op d a k).getD 1 []) = d ∧ aOf o ((wordsOf op d a k).getD 1 []) ((wordsOf op d a k).getD 2 []) = a ∧ kOf o t ((wordsOf op d a k).getD 2 []) ((wordsOf op d a k).getD 3 []) = k := by
  obtain ⟨o0, o1, d0, d1, a0, a1, k0, k1, hF⟩ := okB_bd h
  by_cases e0 : op = 0
  · subst e0
    have hw : wordsOf 0 d a k = [stopL k] := if_pos rfl
    rw [hw] at hop ⊢
    have := opOf_stop k0 (form_0 hF) (by rw [← mk_list (stopS k)]; exact hop)
    obtain ⟨rfl, rfl⟩ := this
    have := form_00 hF
    exact ⟨rfl, by simp [dOf]; omega, by simp [aOf]; omega, by simp [kOf]⟩
  have h0 : (wordsOf op d a k).getD 0 [] = nameL op := by
    unfold wordsOf
    rw [if_neg e0]
    repeat' split
    all_goals rfl
  rw [h0] at hop
  have := opOf_name (by omega) o1 (by rw [← mk_list (nameS op)]; exact hop)
  obtain ⟨rfl, rfl⟩ := this
  refine ⟨rfl, ?_⟩
  have rd := regOf_reg d0 d1
  have ra := regOf_reg a0 a1
  have rk := numOf_dig k0 k1
  rcases ops16 o0 o1 with rfl | rfl | rfl | rfl | rfl | rfl | rfl | rfl | rfl | rfl | rfl | rfl | rfl | rfl | rfl | rfl
  · omega
  · have := form_1 hF
    subst this
    simp [wordsOf, dOf, aOf, kOf, rd, rk]
  · have := form_2 hF
    subst this
    simp [wordsOf, dOf, aOf, kOf, rd, ra]
  iterate 5
    · have := regOf_reg k0 (by have := form_r (by omega) (by omega) hF; omega)
      simp [wordsOf, dOf, aOf, kOf, rd, ra, this]
  iterate 5
    · simp [wordsOf, dOf, aOf, kOf, rd, ra, rk]
  · obtain ⟨rfl, rfl⟩ := form_13 hF
    simp [wordsOf, dOf, aOf, kOf, ra]
  · obtain ⟨rfl, rfl⟩ := form_io (Or.inl rfl) hF
    simp [wordsOf, dOf, aOf, kOf, rd]
  · obtain ⟨rfl, rfl⟩ := form_io (Or.inr rfl) hF
    simp [wordsOf, dOf, aOf, kOf, rd]
/-- What InsRead tells of a line: the instruction whose text it is; false, and nothing, if there is none. -/
def RdRel (s : ByteArray) (c : Array Value) (b : Bool) : Prop :=
  (b = true ∧ ∃ op d a k, c = #[.int .i64 op, .int .i64 d, .int .i64 a, .int .i64 k] ∧ okB op d a k = true ∧ textS op d a k = s) ∨
  (b = false ∧ c = #[.int .i64 0, .int .i64 0, .int .i64 0, .int .i64 0] ∧ ∀ op d a k, okB op d a k = true → ¬ textS op d a k = s)
/-- Two instructions that are ok and have one text are one. -/
theorem opOf_ex (s : ByteArray) : ∃ o t, OpOf s o t := by
  by_cases h : ∃ k : Nat, k < 4 ∧ stopS k = s
  · obtain ⟨k, hk, e⟩ := h
    exact ⟨0, k, Or.inl ⟨k, hk, rfl, rfl, e⟩⟩
  · have h' : ∀ k : Nat, k < 4 → ¬ stopS k = s := fun k hk e => h ⟨k, hk, e⟩
    by_cases g : ∃ k : Nat, 1 ≤ k ∧ k < 16 ∧ nameS k = s
    · obtain ⟨k, h1, h2, e⟩ := g
      exact ⟨k, 0, Or.inr ⟨h', Or.inl ⟨k, h1, h2, rfl, rfl, e⟩⟩⟩
    · exact ⟨-1, 0, Or.inr ⟨h', Or.inr ⟨rfl, rfl, fun k h1 h2 e => g ⟨k, h1, h2, e⟩⟩⟩⟩
theorem text_inj {op d a k op' d' a' k' : Int} (h : okB op d a k = true) (h' : okB op' d' a' k' = true) (e : textS op d a k = textS op' d' a' k') : op = op' ∧ d = d' ∧ a = a' ∧ k = k' := by
  have hw : wordsOf op d a k = wordsOf op' d' a' k' := by rw [← split_text h, ← split_text h', e]
  obtain ⟨o, t, ho⟩ := opOf_ex ⟨((wordsOf op d a k).getD 0 []).toArray⟩
  obtain ⟨e1, e2, e3, e4⟩ := read_text h ho
  rw [hw] at ho e2 e3 e4
  obtain ⟨f1, f2, f3, f4⟩ := read_text h' ho
  exact ⟨by omega, by omega, by omega, by omega⟩
theorem rdRel_one {s : ByteArray} {c c' : Array Value} {b b' : Bool} (h : RdRel s c b) (h' : RdRel s c' b') : c = c' ∧ b = b' := by
  rcases h with ⟨rfl, op, d, a, k, rfl, hk, ht⟩ | ⟨rfl, rfl, hn⟩
  · rcases h' with ⟨rfl, op', d', a', k', rfl, hk', ht'⟩ | ⟨rfl, rfl, hn⟩
    · obtain ⟨rfl, rfl, rfl, rfl⟩ := text_inj hk hk' (ht.trans ht'.symm)
      exact ⟨rfl, rfl⟩
    · exact absurd ht (hn _ _ _ _ hk)
  · rcases h' with ⟨rfl, op', d', a', k', rfl, hk', ht'⟩ | ⟨rfl, rfl, _⟩
    · exact absurd ht' (hn _ _ _ _ hk')
    · exact ⟨rfl, rfl⟩
end Go.Proofs.YthpajjlhjfhdpaaGreatDoor.Ins
