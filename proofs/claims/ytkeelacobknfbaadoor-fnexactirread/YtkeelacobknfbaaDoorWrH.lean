/-
  Bytes: the piece of code that bytes say, and what the reader has taken.
-/
import Derived.Test.YtkeelacobknfbaaDoorWrG
namespace Go.Proofs.YtkeelacobknfbaaDoor.Wr
set_option linter.unusedVariables false
set_option linter.unusedSimpArgs false
open Go.ChangeShapes Go.WideShapes Go.ChangeAt Go.RowKit IntS Flat
open Ir Push
open Mch (Rec)
def atY (ys : List Int) (i : Nat) : Int := ys.getD i 0
def opR (ys : List Int) (j : Nat) : Opn := ⟨atY ys (7 + 6 * j), atY ys (7 + 6 * j + 1), atY ys (7 + 6 * j + 2), atY ys (7 + 6 * j + 3) * 256 + atY ys (7 + 6 * j + 4), atY ys (7 + 6 * j + 5)⟩
def opsR (ys : List Int) (m : Nat) : List Opn := (List.range m).map (opR ys)
def blkY (ys : List Int) (m : Nat) : Bk := ⟨atY ys 0, atY ys 1, opsR ys m, atY ys 2, atY ys 3, atY ys 4, atY ys 5 * 256 + atY ys 6⟩
/-- Whether there are as many bytes as a piece of code may have. -/
def lenY (n : Nat) : Bool := decide (7 ≤ n ∧ (n - 7) % 6 = 0 ∧ n ≤ 295)
def nilB : Bk := ⟨0, 0, [], 0, 0, 0, 0⟩
def readOk (ys : List Int) : Bool := lenY ys.length && okB (blkY ys ((ys.length - 7) / 6))
/-- The piece of code that is read. -/
def readB (ys : List Int) : Bk := if readOk ys = true then blkY ys ((ys.length - 7) / 6) else nilB
theorem opsR_next (ys : List Int) (j : Nat) : opsR ys (j + 1) = opsR ys j ++ [opR ys j] := by
  unfold opsR
  rw [List.range_succ, List.map_append]
  rfl
theorem opsR_len (ys : List Int) (j : Nat) : (opsR ys j).length = j := by simp [opsR]
theorem nx_ok {ys : List Int} {p : Nat} (h : p < ys.length) (af : Addr) : nx ys af ⟨p, none⟩ = (atY ys p, ⟨p + 1, none⟩) := by
  have e : ys[p]? = some (atY ys p) := by
    unfold atY
    rw [List.getD_eq_getElem?_getD, List.getElem?_eq_getElem h]
    rfl
  unfold nx
  simp only [e]
theorem st_ok {ys : List Int} {p : Nat} (af : Addr) : ∀ k, p + k ≤ ys.length → st ys af ⟨p, none⟩ k = ⟨p + k, none⟩
  | 0, _ => rfl
  | k + 1, h => by
    show (nx ys af (st ys af ⟨p, none⟩ k)).2 = _
    rw [st_ok af k (by omega), nx_ok (by omega)]
    rfl
theorem vl_ok {ys : List Int} {p k m : Nat} (af : Addr) (h : p + m ≤ ys.length) (hk : k < m) : vl ys af ⟨p, none⟩ k = atY ys (p + k) := by
  unfold vl
  rw [st_ok af k (by omega), nx_ok (by omega)]
theorem st_err (ys : List Int) (af : Addr) {s : Rs} (h : s.e.isSome = true) : ∀ k, st ys af s k = s
  | 0 => rfl
  | k + 1 => by
    show (nx ys af (st ys af s k)).2 = _
    rw [st_err ys af h k]
    obtain ⟨p, e⟩ := s
    cases e with
    | none => cases h
    | some b => rfl
theorem st_short {ys : List Int} {p k : Nat} (af : Addr) (h : p ≤ ys.length) (hk : ys.length < p + k) : (st ys af ⟨p, none⟩ k).e.isSome = true := by
  obtain ⟨m, em⟩ : ∃ m, ys.length = p + m := ⟨ys.length - p, by omega⟩
  have h1 : (st ys af ⟨p, none⟩ (m + 1)).e.isSome = true := by
    show (nx ys af (st ys af ⟨p, none⟩ m)).2.e.isSome = true
    rw [st_ok af m (by omega)]
    unfold nx
    simp only [List.getElem?_eq_none (by omega : ys.length ≤ p + m)]
    rfl
  have := st_err ys af h1 (k - (m + 1))
  rw [st_add] at this
  rw [show m + 1 + (k - (m + 1)) = k by omega] at this
  rw [this]
  exact h1
/-- What is known of a reader and of the code that it has taken: all is well so far, or it is not, and then the bytes are no piece of code. -/
def Inv (ys : List Int) (s : Rs) (b : Bk) : Prop :=
  (∃ j, s = ⟨7 + 6 * j, none⟩ ∧ b = blkY ys j ∧ j ≤ 48 ∧ 7 + 6 * j ≤ ys.length) ∨ (s.e.isSome = true ∧ lenY ys.length = false ∧ b.ops.length ≤ 49)
theorem Inv.start (ys : List Int) (af : Addr) : Inv ys (st ys af ⟨0, none⟩ 7) ⟨vl ys af ⟨0, none⟩ 0, vl ys af ⟨0, none⟩ 1, [], vl ys af ⟨0, none⟩ 2, vl ys af ⟨0, none⟩ 3, vl ys af ⟨0, none⟩ 4, vl ys af ⟨0, none⟩ 5 * 256 + vl ys af ⟨0, none⟩ 6⟩ := by
  by_cases h : 7 ≤ ys.length
  · refine Or.inl ⟨0, st_ok af 7 (by omega), ?_, by omega, by omega⟩
    have e : ∀ k, k < 7 → vl ys af ⟨0, none⟩ k = atY ys k := fun k hk => by rw [vl_ok (m := 7) af (by omega) hk, Nat.zero_add]
    rw [e 0 (by omega), e 1 (by omega), e 2 (by omega), e 3 (by omega), e 4 (by omega), e 5 (by omega), e 6 (by omega)]
    rfl
  · exact Or.inr ⟨st_short af (by omega) (by omega), decide_eq_false (by omega), by simp⟩
/-- One operation more, and whether there are too many. -/
theorem Inv.next {ys : List Int} {s : Rs} {b : Bk} (af am : Addr) (h : Inv ys s b) (hm : s.e.isNone = true ∧ s.p < ys.length) :
    Inv ys (if (b.ops.length + 1 : Nat) > 48 then ⟨(st ys af s 6).p, orE (st ys af s 6).e am⟩ else st ys af s 6) ⟨b.pc, b.ln, b.ops ++ [⟨vl ys af s 0, vl ys af s 1, vl ys af s 2, vl ys af s 3 * 256 + vl ys af s 4, vl ys af s 5⟩], b.en, b.x, b.y, b.k⟩ := by
  rcases h with ⟨j, rfl, rfl, h1, h2⟩ | ⟨h, _⟩
  · simp only [] at hm
    have el : (blkY ys j).ops.length = j := opsR_len ys j
    by_cases h6 : 7 + 6 * j + 6 ≤ ys.length
    · have e : ∀ k, k < 6 → vl ys af ⟨7 + 6 * j, none⟩ k = atY ys (7 + 6 * j + k) := fun k hk => vl_ok (m := 6) af (by omega) hk
      have es := st_ok (ys := ys) (p := 7 + 6 * j) af 6 (by omega)
      rw [es, e 0 (by omega), e 1 (by omega), e 2 (by omega), e 3 (by omega), e 4 (by omega), e 5 (by omega)]
      rw [el]
      by_cases h48 : j + 1 > 48
      · rw [if_pos h48]
        refine Or.inr ⟨rfl, decide_eq_false (by omega), ?_⟩
        show (opsR ys j ++ [_]).length ≤ 49
        rw [List.length_append, opsR_len]
        simp
        omega
      · rw [if_neg h48]
        refine Or.inl ⟨j + 1, by rw [show 7 + 6 * j + 6 = 7 + 6 * (j + 1) by omega], ?_, by omega, by omega⟩
        show (⟨_, _, opsR ys j ++ [opR ys j], _, _, _, _⟩ : Bk) = ⟨_, _, opsR ys (j + 1), _, _, _, _⟩
        rw [opsR_next]
        rfl
    · have he := st_short (ys := ys) (p := 7 + 6 * j) (k := 6) af h2 (by omega)
      refine Or.inr ⟨?_, decide_eq_false (by omega), ?_⟩
      · split
        · cases hq : (st ys af ⟨7 + 6 * j, none⟩ 6).e <;> rfl
        · exact he
      · show (opsR ys j ++ [_]).length ≤ 49
        rw [List.length_append, opsR_len]
        simp
        omega
  · rw [Option.isNone_iff_eq_none] at hm
    rw [hm.1] at h
    cases h
/-- Behind all bytes, and behind the look whether the code is ok. -/
theorem Inv.last {ys : List Int} {s : Rs} {b : Bk} (an : Addr) (h : Inv ys s b) (hm : ¬ (s.e.isNone = true ∧ s.p < ys.length)) :
    ((if okB b = true then s else ⟨s.p, orE s.e an⟩ : Rs).e = none ∧ readOk ys = true ∧ b = readB ys) ∨ ((if okB b = true then s else ⟨s.p, orE s.e an⟩ : Rs).e.isSome = true ∧ readOk ys = false) := by
  rcases h with ⟨j, rfl, rfl, h1, h2⟩ | ⟨h, hf, _⟩
  · have en : ys.length = 7 + 6 * j := by
      have : ¬ (7 + 6 * j < ys.length) := fun h => hm ⟨rfl, h⟩
      omega
    have ej : (ys.length - 7) / 6 = j := by omega
    have el : lenY ys.length = true := decide_eq_true (by omega)
    by_cases ho : okB (blkY ys j) = true
    · have hr : readOk ys = true := by unfold readOk; rw [el, ej, ho]; rfl
      rw [if_pos ho]
      exact Or.inl ⟨rfl, hr, by unfold readB; rw [if_pos hr, ej]⟩
    · rw [if_neg ho]
      refine Or.inr ⟨rfl, ?_⟩
      unfold readOk
      rw [ej, (by simpa using ho : okB (blkY ys j) = false), Bool.and_false]
  · refine Or.inr ⟨?_, by unfold readOk; rw [hf]; rfl⟩
    split
    · exact h
    · cases hq : s.e with
      | none => rw [hq] at h; cases h
      | some b => rfl
theorem Inv.len {ys : List Int} {s : Rs} {b : Bk} (h : Inv ys s b) : b.ops.length ≤ 49 := by
  rcases h with ⟨j, rfl, rfl, h1, h2⟩ | ⟨_, _, h⟩
  · show (opsR ys j).length ≤ 49
    rw [opsR_len]
    omega
  · exact h
end Go.Proofs.YtkeelacobknfbaaDoor.Wr
