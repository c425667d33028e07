/-
  The program's names of instructions as they are laid, and contracts of letter and formWords: the words of a form that is ok.
-/
import Derived.Test.YthpajjlhjfhdpaaGreatDoorInsI
import Derived.Test.YthpajjlhjfhdpaaGreatDoorInsT
import Derived.Test.YthpajjlhjfhdpaaGreatDoorShelf
import Derived.Test.YthpajjlhjfhdpaaGreatDoorWords
import Derived.Deep.Strs
import Derived.Deep.RegionHeld3
import Derived.Lib.LaidTab
namespace Go.Proofs.YthpajjlhjfhdpaaGreatDoor.InsI
open Go.ChangeShapes Go.WideShapes Go.ChangeAt Go.RowKit Ins
/-- The program's tables of names, and the library's table of powers. -/
structure Tabs (w : World) : Prop where
  pow : Lib.TabIs Tryz.prog w "internal/strconv.uint64pow10" .u64 Lib.pow10Tab
  names : ∃ (b o c : Nat), 16 ≤ c ∧ c ≤ maxLen ∧ w.cell? ⟨1, 0, none⟩ = some (.slice (some ⟨b, o, none⟩) 16 c) ∧ ∀ k : Nat, k < 16 → w.cell? ⟨b, o + k, none⟩ = some (.string (nameS k))
  stops : ∃ (b o c : Nat), 4 ≤ c ∧ c ≤ maxLen ∧ w.cell? ⟨0, 0, none⟩ = some (.slice (some ⟨b, o, none⟩) 4 c) ∧ ∀ k : Nat, k < 4 → w.cell? ⟨b, o + k, none⟩ = some (.string (stopS k))
theorem Tabs.drew {w : World} (h : Tabs w) : Tabs w.drew := ⟨h.pow, h.names, h.stops⟩
theorem Tabs.below {w w' : World} (h : Tabs w) (hb : Below w.heap.size w w') : Tabs w' := by
  obtain ⟨hp, ⟨b, o, c, h1, h2, h3, h4⟩, ⟨b', o', c', h1', h2', h3', h4'⟩⟩ := h
  exact ⟨Words.tab_below hp hb, ⟨b, o, c, h1, h2, cell_below hb h3, fun k hk => cell_below hb (h4 k hk)⟩, ⟨b', o', c', h1', h2', cell_below hb h3', fun k hk => cell_below hb (h4' k hk)⟩⟩
theorem letter (k : Int) (w : World) (h0 : 0 ≤ k) (h1 : k ≤ 3) : Calls Tryz.prog 43 #[.int .i64 k] w fun e w' => e = .returned (.string (regS k)) ∧ w' = w := by
  have hk : k = 0 ∨ k = 1 ∨ k = 2 ∨ k = 3 := by omega
  rcases hk with rfl | rfl | rfl | rfl
  · go_enter Tryz.func43, Tryz.ntmps43
    go_wp2
    go_ret
    exact ⟨rfl, rfl⟩
  · go_enter Tryz.func43, Tryz.ntmps43
    go_wp2
    go_ret
    exact ⟨rfl, rfl⟩
  · go_enter Tryz.func43, Tryz.ntmps43
    go_wp2
    go_ret
    exact ⟨rfl, rfl⟩
  · go_enter Tryz.func43, Tryz.ntmps43
    go_wp2
    go_ret
    exact ⟨rfl, rfl⟩
theorem itoa (k : Int) (w : World) (h0 : 0 ≤ k) (h1 : k ≤ 255) (ht : Tabs w) : Calls Tryz.prog 44 #[.int .i64 k] w fun e w' => e = .returned (.string (digS k)) ∧ Below w.heap.size w w' := by
  refine (Tryz.strconv_Itoa k (by omega) (by omega) w ht.pow).mono ?_
  rintro e w' ⟨rfl, k', os, rfl⟩
  refine ⟨?_, ?_⟩
  · obtain ⟨n, rfl⟩ := Int.eq_ofNat_of_zero_le h0
    rfl
  · exact Words.below_grow w k' os
theorem ta_stop_stop (k : Int) (w : World) : (Instr.typeAssert (.iface 75 (.agg #[.int .i64 k])) 50 75 true).run Tryz.prog w = .ok (.tuple #[.agg #[.int .i64 k], .bool true]) w := by kernel_rfl
theorem ta_set_stop (d k : Int) (w : World) : (Instr.typeAssert (.iface 77 (.agg #[.int .i64 d, .int .i64 k])) 50 75 true).run Tryz.prog w = .ok (.tuple #[.agg #[.int .i64 0], .bool false]) w := by kernel_rfl
theorem ta_set_set (d k : Int) (w : World) : (Instr.typeAssert (.iface 77 (.agg #[.int .i64 d, .int .i64 k])) 50 77 true).run Tryz.prog w = .ok (.tuple #[.agg #[.int .i64 d, .int .i64 k], .bool true]) w := by kernel_rfl
theorem ta_move_stop (d a : Int) (w : World) : (Instr.typeAssert (.iface 79 (.agg #[.int .i64 d, .int .i64 a])) 50 75 true).run Tryz.prog w = .ok (.tuple #[.agg #[.int .i64 0], .bool false]) w := by kernel_rfl
theorem ta_move_set (d a : Int) (w : World) : (Instr.typeAssert (.iface 79 (.agg #[.int .i64 d, .int .i64 a])) 50 77 true).run Tryz.prog w = .ok (.tuple #[.agg #[.int .i64 0, .int .i64 0], .bool false]) w := by kernel_rfl
theorem ta_move_move (d a : Int) (w : World) : (Instr.typeAssert (.iface 79 (.agg #[.int .i64 d, .int .i64 a])) 50 79 true).run Tryz.prog w = .ok (.tuple #[.agg #[.int .i64 d, .int .i64 a], .bool true]) w := by kernel_rfl
theorem ta_reckon_stop (op d a k : Int) (w : World) : (Instr.typeAssert (.iface 81 (.agg #[.int .i64 op, .int .i64 d, .int .i64 a, .int .i64 k])) 50 75 true).run Tryz.prog w = .ok (.tuple #[.agg #[.int .i64 0], .bool false]) w := by kernel_rfl
theorem ta_reckon_set (op d a k : Int) (w : World) : (Instr.typeAssert (.iface 81 (.agg #[.int .i64 op, .int .i64 d, .int .i64 a, .int .i64 k])) 50 77 true).run Tryz.prog w = .ok (.tuple #[.agg #[.int .i64 0, .int .i64 0], .bool false]) w := by kernel_rfl
theorem ta_reckon_move (op d a k : Int) (w : World) : (Instr.typeAssert (.iface 81 (.agg #[.int .i64 op, .int .i64 d, .int .i64 a, .int .i64 k])) 50 79 true).run Tryz.prog w = .ok (.tuple #[.agg #[.int .i64 0, .int .i64 0], .bool false]) w := by kernel_rfl
theorem ta_reckon_reckon (op d a k : Int) (w : World) : (Instr.typeAssert (.iface 81 (.agg #[.int .i64 op, .int .i64 d, .int .i64 a, .int .i64 k])) 50 81 true).run Tryz.prog w = .ok (.tuple #[.agg #[.int .i64 op, .int .i64 d, .int .i64 a, .int .i64 k], .bool true]) w := by kernel_rfl
theorem ta_shift_stop (d a k : Int) (w : World) : (Instr.typeAssert (.iface 83 (.agg #[.int .i64 d, .int .i64 a, .int .i64 k])) 50 75 true).run Tryz.prog w = .ok (.tuple #[.agg #[.int .i64 0], .bool false]) w := by kernel_rfl
theorem ta_shift_set (d a k : Int) (w : World) : (Instr.typeAssert (.iface 83 (.agg #[.int .i64 d, .int .i64 a, .int .i64 k])) 50 77 true).run Tryz.prog w = .ok (.tuple #[.agg #[.int .i64 0, .int .i64 0], .bool false]) w := by kernel_rfl
theorem ta_shift_move (d a k : Int) (w : World) : (Instr.typeAssert (.iface 83 (.agg #[.int .i64 d, .int .i64 a, .int .i64 k])) 50 79 true).run Tryz.prog w = .ok (.tuple #[.agg #[.int .i64 0, .int .i64 0], .bool false]) w := by kernel_rfl
theorem ta_shift_reckon (d a k : Int) (w : World) : (Instr.typeAssert (.iface 83 (.agg #[.int .i64 d, .int .i64 a, .int .i64 k])) 50 81 true).run Tryz.prog w = .ok (.tuple #[.agg #[.int .i64 0, .int .i64 0, .int .i64 0, .int .i64 0], .bool false]) w := by kernel_rfl
theorem ta_shift_shift (d a k : Int) (w : World) : (Instr.typeAssert (.iface 83 (.agg #[.int .i64 d, .int .i64 a, .int .i64 k])) 50 83 true).run Tryz.prog w = .ok (.tuple #[.agg #[.int .i64 d, .int .i64 a, .int .i64 k], .bool true]) w := by kernel_rfl
theorem ta_reach_stop (op d a k : Int) (w : World) : (Instr.typeAssert (.iface 85 (.agg #[.int .i64 op, .int .i64 d, .int .i64 a, .int .i64 k])) 50 75 true).run Tryz.prog w = .ok (.tuple #[.agg #[.int .i64 0], .bool false]) w := by kernel_rfl
theorem ta_reach_set (op d a k : Int) (w : World) : (Instr.typeAssert (.iface 85 (.agg #[.int .i64 op, .int .i64 d, .int .i64 a, .int .i64 k])) 50 77 true).run Tryz.prog w = .ok (.tuple #[.agg #[.int .i64 0, .int .i64 0], .bool false]) w := by kernel_rfl
theorem ta_reach_move (op d a k : Int) (w : World) : (Instr.typeAssert (.iface 85 (.agg #[.int .i64 op, .int .i64 d, .int .i64 a, .int .i64 k])) 50 79 true).run Tryz.prog w = .ok (.tuple #[.agg #[.int .i64 0, .int .i64 0], .bool false]) w := by kernel_rfl
theorem ta_reach_reckon (op d a k : Int) (w : World) : (Instr.typeAssert (.iface 85 (.agg #[.int .i64 op, .int .i64 d, .int .i64 a, .int .i64 k])) 50 81 true).run Tryz.prog w = .ok (.tuple #[.agg #[.int .i64 0, .int .i64 0, .int .i64 0, .int .i64 0], .bool false]) w := by kernel_rfl
theorem ta_reach_shift (op d a k : Int) (w : World) : (Instr.typeAssert (.iface 85 (.agg #[.int .i64 op, .int .i64 d, .int .i64 a, .int .i64 k])) 50 83 true).run Tryz.prog w = .ok (.tuple #[.agg #[.int .i64 0, .int .i64 0, .int .i64 0], .bool false]) w := by kernel_rfl
theorem ta_reach_reach (op d a k : Int) (w : World) : (Instr.typeAssert (.iface 85 (.agg #[.int .i64 op, .int .i64 d, .int .i64 a, .int .i64 k])) 50 85 true).run Tryz.prog w = .ok (.tuple #[.agg #[.int .i64 op, .int .i64 d, .int .i64 a, .int .i64 k], .bool true]) w := by kernel_rfl
theorem ta_ask_stop (op d a k : Int) (w : World) : (Instr.typeAssert (.iface 86 (.agg #[.int .i64 op, .int .i64 d, .int .i64 a, .int .i64 k])) 50 75 true).run Tryz.prog w = .ok (.tuple #[.agg #[.int .i64 0], .bool false]) w := by kernel_rfl
theorem ta_ask_set (op d a k : Int) (w : World) : (Instr.typeAssert (.iface 86 (.agg #[.int .i64 op, .int .i64 d, .int .i64 a, .int .i64 k])) 50 77 true).run Tryz.prog w = .ok (.tuple #[.agg #[.int .i64 0, .int .i64 0], .bool false]) w := by kernel_rfl
theorem ta_ask_move (op d a k : Int) (w : World) : (Instr.typeAssert (.iface 86 (.agg #[.int .i64 op, .int .i64 d, .int .i64 a, .int .i64 k])) 50 79 true).run Tryz.prog w = .ok (.tuple #[.agg #[.int .i64 0, .int .i64 0], .bool false]) w := by kernel_rfl
theorem ta_ask_reckon (op d a k : Int) (w : World) : (Instr.typeAssert (.iface 86 (.agg #[.int .i64 op, .int .i64 d, .int .i64 a, .int .i64 k])) 50 81 true).run Tryz.prog w = .ok (.tuple #[.agg #[.int .i64 0, .int .i64 0, .int .i64 0, .int .i64 0], .bool false]) w := by kernel_rfl
theorem ta_ask_shift (op d a k : Int) (w : World) : (Instr.typeAssert (.iface 86 (.agg #[.int .i64 op, .int .i64 d, .int .i64 a, .int .i64 k])) 50 83 true).run Tryz.prog w = .ok (.tuple #[.agg #[.int .i64 0, .int .i64 0, .int .i64 0], .bool false]) w := by kernel_rfl
theorem ta_ask_reach (op d a k : Int) (w : World) : (Instr.typeAssert (.iface 86 (.agg #[.int .i64 op, .int .i64 d, .int .i64 a, .int .i64 k])) 50 85 true).run Tryz.prog w = .ok (.tuple #[.agg #[.int .i64 0, .int .i64 0, .int .i64 0, .int .i64 0], .bool false]) w := by kernel_rfl
theorem ta_ask_ask (op d a k : Int) (w : World) : (Instr.typeAssert (.iface 86 (.agg #[.int .i64 op, .int .i64 d, .int .i64 a, .int .i64 k])) 50 86 true).run Tryz.prog w = .ok (.tuple #[.agg #[.int .i64 op, .int .i64 d, .int .i64 a, .int .i64 k], .bool true]) w := by kernel_rfl
theorem ta_go_stop (a : Int) (w : World) : (Instr.typeAssert (.iface 88 (.agg #[.int .i64 a])) 50 75 true).run Tryz.prog w = .ok (.tuple #[.agg #[.int .i64 0], .bool false]) w := by kernel_rfl
theorem ta_go_set (a : Int) (w : World) : (Instr.typeAssert (.iface 88 (.agg #[.int .i64 a])) 50 77 true).run Tryz.prog w = .ok (.tuple #[.agg #[.int .i64 0, .int .i64 0], .bool false]) w := by kernel_rfl
theorem ta_go_move (a : Int) (w : World) : (Instr.typeAssert (.iface 88 (.agg #[.int .i64 a])) 50 79 true).run Tryz.prog w = .ok (.tuple #[.agg #[.int .i64 0, .int .i64 0], .bool false]) w := by kernel_rfl
theorem ta_go_reckon (a : Int) (w : World) : (Instr.typeAssert (.iface 88 (.agg #[.int .i64 a])) 50 81 true).run Tryz.prog w = .ok (.tuple #[.agg #[.int .i64 0, .int .i64 0, .int .i64 0, .int .i64 0], .bool false]) w := by kernel_rfl
theorem ta_go_shift (a : Int) (w : World) : (Instr.typeAssert (.iface 88 (.agg #[.int .i64 a])) 50 83 true).run Tryz.prog w = .ok (.tuple #[.agg #[.int .i64 0, .int .i64 0, .int .i64 0], .bool false]) w := by kernel_rfl
theorem ta_go_reach (a : Int) (w : World) : (Instr.typeAssert (.iface 88 (.agg #[.int .i64 a])) 50 85 true).run Tryz.prog w = .ok (.tuple #[.agg #[.int .i64 0, .int .i64 0, .int .i64 0, .int .i64 0], .bool false]) w := by kernel_rfl
theorem ta_go_ask (a : Int) (w : World) : (Instr.typeAssert (.iface 88 (.agg #[.int .i64 a])) 50 86 true).run Tryz.prog w = .ok (.tuple #[.agg #[.int .i64 0, .int .i64 0, .int .i64 0, .int .i64 0], .bool false]) w := by kernel_rfl
theorem ta_go_go (a : Int) (w : World) : (Instr.typeAssert (.iface 88 (.agg #[.int .i64 a])) 50 88 true).run Tryz.prog w = .ok (.tuple #[.agg #[.int .i64 a], .bool true]) w := by kernel_rfl
theorem ta_pass_stop (op d : Int) (w : World) : (Instr.typeAssert (.iface 90 (.agg #[.int .i64 op, .int .i64 d])) 50 75 true).run Tryz.prog w = .ok (.tuple #[.agg #[.int .i64 0], .bool false]) w := by kernel_rfl
theorem ta_pass_set (op d : Int) (w : World) : (Instr.typeAssert (.iface 90 (.agg #[.int .i64 op, .int .i64 d])) 50 77 true).run Tryz.prog w = .ok (.tuple #[.agg #[.int .i64 0, .int .i64 0], .bool false]) w := by kernel_rfl
theorem ta_pass_move (op d : Int) (w : World) : (Instr.typeAssert (.iface 90 (.agg #[.int .i64 op, .int .i64 d])) 50 79 true).run Tryz.prog w = .ok (.tuple #[.agg #[.int .i64 0, .int .i64 0], .bool false]) w := by kernel_rfl
theorem ta_pass_reckon (op d : Int) (w : World) : (Instr.typeAssert (.iface 90 (.agg #[.int .i64 op, .int .i64 d])) 50 81 true).run Tryz.prog w = .ok (.tuple #[.agg #[.int .i64 0, .int .i64 0, .int .i64 0, .int .i64 0], .bool false]) w := by kernel_rfl
theorem ta_pass_shift (op d : Int) (w : World) : (Instr.typeAssert (.iface 90 (.agg #[.int .i64 op, .int .i64 d])) 50 83 true).run Tryz.prog w = .ok (.tuple #[.agg #[.int .i64 0, .int .i64 0, .int .i64 0], .bool false]) w := by kernel_rfl
theorem ta_pass_reach (op d : Int) (w : World) : (Instr.typeAssert (.iface 90 (.agg #[.int .i64 op, .int .i64 d])) 50 85 true).run Tryz.prog w = .ok (.tuple #[.agg #[.int .i64 0, .int .i64 0, .int .i64 0, .int .i64 0], .bool false]) w := by kernel_rfl
theorem ta_pass_ask (op d : Int) (w : World) : (Instr.typeAssert (.iface 90 (.agg #[.int .i64 op, .int .i64 d])) 50 86 true).run Tryz.prog w = .ok (.tuple #[.agg #[.int .i64 0, .int .i64 0, .int .i64 0, .int .i64 0], .bool false]) w := by kernel_rfl
theorem ta_pass_go (op d : Int) (w : World) : (Instr.typeAssert (.iface 90 (.agg #[.int .i64 op, .int .i64 d])) 50 88 true).run Tryz.prog w = .ok (.tuple #[.agg #[.int .i64 0], .bool false]) w := by kernel_rfl
theorem ta_pass_pass (op d : Int) (w : World) : (Instr.typeAssert (.iface 90 (.agg #[.int .i64 op, .int .i64 d])) 50 90 true).run Tryz.prog w = .ok (.tuple #[.agg #[.int .i64 op, .int .i64 d], .bool true]) w := by kernel_rfl
/-- What formWords hands back: a new slice that holds these words. -/
def Words4 (w : World) (ws : List ByteArray) (e : Ending) (w' : World) : Prop := ∃ bk : Nat, e = .returned (.slice (some ⟨bk, 0, none⟩) ws.length ws.length) ∧ (∀ (j : Nat) x, ws[j]? = some x → w'.cell? ⟨bk, 0 + j, none⟩ = some (.string x)) ∧ bk < w'.heap.size ∧ Below w.heap.size w w'
theorem words_cells (w : World) (ws : List ByteArray) (t : TypeId) (j : Nat) (x : ByteArray) (h : ws[j]? = some x) : (w.alloc (.cells (ws.map Value.string).toArray t)).cell? ⟨w.heap.size, 0 + j, none⟩ = some (.string x) := by
  rw [World.cell?_alloc_new]
  simp [h]
end Go.Proofs.YthpajjlhjfhdpaaGreatDoor.InsI
