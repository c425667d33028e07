/-
  Contracts of the functions of chapter 1 that deal in texts (WrdOk, WrdText, WrdRead, of the program and of the specification), each at every argument; where a table or a variable of the library is read, under what the row lists of it.
-/
import Derived.Test.YthpajjlhjfhdpaaGreatDoorShelf
import Derived.Test.YthpajjlhjfhdpaaGreatDoorWordMath
import Derived.Test.YthpajjlhjfhdpaaGreatDoorPlain
import Derived.Test.YthpajjlhjfhdpaaGreatDoorProg
import Derived.WalkKit
import Derived.WalkSpells
import Derived.ProofKit
import Derived.OwnWalk
namespace Go.Proofs.YthpajjlhjfhdpaaGreatDoor.Words
open Go.ChangeShapes Go.WideShapes Go.ChangeAt Go.RowKit

theorem var_below {n : String} {x : Array Value} {w w' : World} (h : w.var? Tryz.prog n = some x) (hb : Below w.heap.size w w') : w'.var? Tryz.prog n = some x := by
  unfold World.var? at h ⊢
  cases hg : Tryz.prog.globalNamed n with
  | none => rw [hg] at h; simp at h
  | some g =>
    rw [hg] at h
    simp only [Option.bind_some] at h ⊢
    have hlt : g < w.heap.size := by
      rcases Nat.lt_or_ge g w.heap.size with h' | h'
      · exact h'
      · rw [Array.getElem?_eq_none h'] at h; cases h
    rw [hb.block g hlt]
    exact h
theorem tab_below {n : String} {k : IntKind} {zs : List Int} {w w' : World} (h : Lib.TabIs Tryz.prog w n k zs) (hb : Below w.heap.size w w') : Lib.TabIs Tryz.prog w' n k zs :=
  var_below h hb

theorem plainI (n : Int) (h0 : 0 ≤ n) (h1 : n < 65536) (w : World) :
    Calls Tryz.prog 30 #[.int .i64 n] w fun e w' => e = .returned (.string ⟨(txt n).toArray⟩) ∧ Below w.heap.size w w' := by
  obtain ⟨m, rfl⟩ := Int.eq_ofNat_of_zero_le h0
  rw [txt_in h0 h1, Int.toNat_natCast]
  exact plain_any m (by omega) w
theorem specText_in (n : Int) (h0 : 0 ≤ n) (h1 : n < 65536) (w : World) :
    Calls Tryz.prog 49 #[.int .i64 n] w fun e w' => e = .returned (.string ⟨(txt n).toArray⟩) ∧ Below w.heap.size w w' := by
  go_enter Tryz.func49, Tryz.ntmps49
  go_wp2_with (first | (go_at_call 30; refine (plainI n h0 h1 _).mono ?_; rintro e w' ⟨rfl, hb⟩) | (go_at_call 59; go_in))
  go_ret
  exact ⟨rfl, hb⟩
theorem specText_out (n : Int) (hn : ¬ (0 ≤ n ∧ n < 65536)) (w : World) :
    Calls Tryz.prog 49 #[.int .i64 n] w fun e w' => e = .returned (.string ⟨#[]⟩) ∧ Below w.heap.size w w' := by
  by_cases h0 : 0 ≤ n
  · have h1 : ¬ n < 65536 := by omega
    go_enter Tryz.func49, Tryz.ntmps49
    go_wp2
    go_ret
    exact ⟨rfl, Below.refl _ _⟩
  · go_enter Tryz.func49, Tryz.ntmps49
    go_wp2
    go_ret
    exact ⟨rfl, Below.refl _ _⟩
theorem specText (n : Int) (w : World) :
    Calls Tryz.prog 49 #[.int .i64 n] w fun e w' => e = .returned (.string ⟨(txt n).toArray⟩) ∧ Below w.heap.size w w' := by
  by_cases h : 0 ≤ n ∧ n < 65536
  · exact specText_in n h.1 h.2 w
  · rw [txt_out h]
    exact specText_out n h w

theorem below_grow (w : World) (q : Nat) (os : Array Obj) : Below w.heap.size w (Sort.grow (w.drewN q) os) :=
  ⟨rfl, rfl, rfl, by simp [Sort.grow], fun i hi => by
    show ((w.drewN q).heap ++ os)[i]? = _
    rw [Array.getElem?_append_left (by show i < w.heap.size; omega)]
    rfl⟩
theorem itoaI (n : Int) (h0 : 0 ≤ n) (h1 : n < 65536) (w : World) (htab : Lib.TabIs Tryz.prog w "internal/strconv.uint64pow10" .u64 Lib.pow10Tab) :
    Calls Tryz.prog 44 #[.int .i64 n] w fun e w' => e = .returned (.string ⟨(txt n).toArray⟩) ∧ Below w.heap.size w w' := by
  refine (Tryz.strconv_Itoa n (by omega) (by omega) w htab).mono ?_
  rintro e w' ⟨rfl, k, os, rfl⟩
  refine ⟨?_, below_grow w k os⟩
  rw [txt_in h0 h1, Lib.itoa, if_neg (by omega)]
theorem implText_in (n : Int) (h0 : 0 ≤ n) (h1 : n < 65536) (w : World) (htab : Lib.TabIs Tryz.prog w "internal/strconv.uint64pow10" .u64 Lib.pow10Tab) :
    Calls Tryz.prog 55 #[.int .i64 n] w fun e w' => e = .returned (.string ⟨(txt n).toArray⟩) ∧ Below w.heap.size w w' := by
  have hw : IntKind.u16.wrap n = n := IntWalk.u16_in _ ⟨by omega, by omega⟩
  have hx : wrap64 n = n := IntWalk.wrap64_in _ ⟨by omega, by omega⟩
  have HT : Hid (Lib.TabIs Tryz.prog w "internal/strconv.uint64pow10" .u64 Lib.pow10Tab) := htab
  clear htab
  go_enter Tryz.func55, Tryz.ntmps55
  go_wp2_with (first | (go_at_call 44; refine (itoaI n h0 h1 _ HT.out).mono ?_; rintro e w' ⟨rfl, hb⟩) | (go_at_call 33; go_in) | (go_at_call 69; go_in))
  go_ret
  exact ⟨rfl, hb⟩
theorem implText_out (n : Int) (hn : ¬ (0 ≤ n ∧ n < 65536)) (w : World) :
    Calls Tryz.prog 55 #[.int .i64 n] w fun e w' => e = .returned (.string ⟨#[]⟩) ∧ Below w.heap.size w w' := by
  by_cases h0 : 0 ≤ n
  · have h1 : ¬ n < 65536 := by omega
    go_enter Tryz.func55, Tryz.ntmps55
    go_wp2
    go_ret
    exact ⟨rfl, Below.refl _ _⟩
  · go_enter Tryz.func55, Tryz.ntmps55
    go_wp2
    go_ret
    exact ⟨rfl, Below.refl _ _⟩
theorem implText (n : Int) (w : World) (htab : Lib.TabIs Tryz.prog w "internal/strconv.uint64pow10" .u64 Lib.pow10Tab) :
    Calls Tryz.prog 55 #[.int .i64 n] w fun e w' => e = .returned (.string ⟨(txt n).toArray⟩) ∧ Below w.heap.size w w' := by
  by_cases h : 0 ≤ n ∧ n < 65536
  · exact implText_in n h.1 h.2 w htab
  · rw [txt_out h]
    exact implText_out n h w
end Go.Proofs.YthpajjlhjfhdpaaGreatDoor.Words
