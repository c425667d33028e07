/-
  Contracts of the functions of chapter 1 that deal in texts (WrdOk, WrdText, WrdRead, of the program and of the specification), each at every argument; where a table or a variable of the library is read, under what the row lists of it.
-/
import Derived.Test.YthpajjlhjfhdpabDoorShelf
import Derived.Test.YthpajjlhjfhdpabDoorWordMath
import Derived.Test.YthpajjlhjfhdpabDoorPlain
import Derived.Test.YthpajjlhjfhdpabDoorProg
import Derived.WalkKit
import Derived.WalkSpells
import Derived.ProofKit
import Derived.OwnWalk
namespace Go.Proofs.YthpajjlhjfhdpabDoor.Words
open Go.ChangeShapes Go.WideShapes Go.ChangeAt Go.RowKit

theorem var_below {n : String} {x : Array Value} {w w' : World} (h : w.var? Tryd.prog n = some x) (hb : Below w.heap.size w w') : w'.var? Tryd.prog n = some x := by
  unfold World.var? at h ⊢
  cases hg : Tryd.prog.globalNamed n with
  | none => rw [hg] at h; simp at h
  | some g =>
    rw [hg] at h
    simp only [Option.bind_some] at h ⊢
    have hlt : g < w.heap.size := by
      rcases Nat.lt_or_ge g w.heap.size with h' | h'
      · exact h'
      · rw [Array.getElem?_eq_none h'] at h; cases h
    rw [hb.block g hlt]
    exact h
theorem tab_below {n : String} {k : IntKind} {zs : List Int} {w w' : World} (h : Lib.TabIs Tryd.prog w n k zs) (hb : Below w.heap.size w w') : Lib.TabIs Tryd.prog w' n k zs :=
  var_below h hb

theorem plainI (n : Int) (h0 : 0 ≤ n) (h1 : n < 65536) (w : World) :
    Calls Tryd.prog 10 #[.int .i64 n] w fun e w' => e = .returned (.string ⟨(txt n).toArray⟩) ∧ Below w.heap.size w w' := by
  obtain ⟨m, rfl⟩ := Int.eq_ofNat_of_zero_le h0
  rw [txt_in h0 h1, Int.toNat_natCast]
  exact plain_any m (by omega) w
theorem below_grow (w : World) (q : Nat) (os : Array Obj) : Below w.heap.size w (Sort.grow (w.drewN q) os) :=
  ⟨rfl, rfl, rfl, by simp [Sort.grow], fun i hi => by
    show ((w.drewN q).heap ++ os)[i]? = _
    rw [Array.getElem?_append_left (by show i < w.heap.size; omega)]
    rfl⟩
theorem itoaI (n : Int) (h0 : 0 ≤ n) (h1 : n < 65536) (w : World) (htab : Lib.TabIs Tryd.prog w "internal/strconv.uint64pow10" .u64 Lib.pow10Tab) :
    Calls Tryd.prog 21 #[.int .i64 n] w fun e w' => e = .returned (.string ⟨(txt n).toArray⟩) ∧ Below w.heap.size w w' := by
  refine (Tryd.strconv_Itoa n (by omega) (by omega) w htab).mono ?_
  rintro e w' ⟨rfl, k, os, rfl⟩
  refine ⟨?_, below_grow w k os⟩
  rw [txt_in h0 h1, Lib.itoa, if_neg (by omega)]
end Go.Proofs.YthpajjlhjfhdpabDoor.Words
