/-
  Bytes: the program's highByte and lowByte, the specification's l11Two.
-/
import Derived.Test.YtkeelacobknfbaaDoorWrA
namespace Go.Proofs.YtkeelacobknfbaaDoor.Wr
set_option linter.unusedVariables false
set_option linter.unusedSimpArgs false
open Go.ChangeShapes Go.WideShapes Go.ChangeAt Go.RowKit IntS Flat
open Ir Push
open Mch (Rec)
set_option maxRecDepth 8000 in
theorem highByte (k : Int) (w : World) (h0 : 0 ≤ k) (h1 : k < 65536) : Calls Tryd.prog 37 #[.int .i64 k] w fun e w' => e = .returned (.int .u8 (k / 256)) ∧ w' = w := by
  go_enter Tryd.func37, Tryd.ntmps37
  go_wp2
  exact bodyPost_ret (v := .int .u8 (k / 256)) (by simp [results, Tryd.results37, go_sem]) rfl ⟨rfl, rfl⟩
theorem and255 (k : Int) (h0 : 0 ≤ k) (h1 : k < 65536) : bits BinOp.and IntKind.i64 k 255 = k % 256 := by
  obtain ⟨n, rfl⟩ : ∃ n : Nat, k = n := ⟨k.toNat, by omega⟩
  show IntKind.i64.wrap ((BitVec.ofInt 64 (n : Int) &&& BitVec.ofInt 64 ((255 : Nat) : Int)).toNat : Int) = _
  have e : ∀ m : Nat, BitVec.ofInt 64 (m : Int) = BitVec.ofNat 64 m := fun m => by simp
  rw [e, e, BitVec.toNat_and, BitVec.toNat_ofNat, BitVec.toNat_ofNat, Nat.mod_eq_of_lt (by omega : n < 2 ^ 64), Nat.mod_eq_of_lt (by decide : 255 < 2 ^ 64)]
  have := Nat.and_two_pow_sub_one_eq_mod n 8
  rw [show n &&& 255 = n % 256 from this]
  clear this e
  have hw : IntKind.i64.wrap ((n % 256 : Nat) : Int) = ((n % 256 : Nat) : Int) := by
    rw [IntKind.wrap_i64]
    omega
  rw [hw]
  omega
set_option maxRecDepth 8000 in
theorem lowByte (k : Int) (w : World) (h0 : 0 ≤ k) (h1 : k < 65536) : Calls Tryd.prog 38 #[.int .i64 k] w fun e w' => e = .returned (.int .u8 (k % 256)) ∧ w' = w := by
  go_enter Tryd.func38, Tryd.ntmps38
  go_wp2
  exact bodyPost_ret (v := .int .u8 (k % 256)) (by simp [results, Tryd.results38, go_sem]; rw [and255 k h0 h1]; omega) rfl ⟨rfl, rfl⟩
set_option maxRecDepth 8000 in
set_option maxHeartbeats 4000000 in
theorem l11Two (k : Int) (lo n cap : Nat) (q : Option Addr) (ys : List Int) (w : World) (h : OwnY w lo (.slice q n cap) ys) (hlo : lo ≤ w.heap.size) (hn : ys.length ≤ 100000) (h0 : 0 ≤ k) (h1 : k < 65536) :
    Calls Tryd.prog 45 #[.slice q n cap, .int .i64 k] w fun e w' => ∃ q' cap' T, e = .returned (.slice q' (n + 2) cap') ∧ OwnY w' lo (.slice q' (n + 2) cap') (ys ++ [k / 256, k % 256]) ∧ Turn T w w' ∧ (q = some ⟨T, 0, none⟩ ∨ w.heap.size ≤ T) ∧ lo ≤ T ∧ (∀ G, q' = some ⟨G, 0, none⟩ → q = some ⟨G, 0, none⟩ ∨ w.heap.size ≤ G) := by
  have b1 : Below w.heap.size w (w.alloc (.cells #[.int .u8 (k / 256), .int .u8 (k % 256)] 5)) := (Below.refl _ _).alloc (Nat.le_refl _) _
  have R1 := Rec.new w (valsY [k / 256, k % 256]) 5
  obtain ⟨q', cap', w', T, hrun, hO, hT, hq, hlT, hG⟩ := run_joinY (ty := 22) (zs := [k / 256, k % 256]) (m := 2) (h.below b1) (by omega) (by rw [World.size_alloc]; omega) w.heap.size R1 rfl (by decide) (by decide)
  have FIN : Hid (OwnY w' lo (.slice q' (n + 2) cap') (ys ++ [k / 256, k % 256]) ∧ Turn T w w' ∧ (q = some ⟨T, 0, none⟩ ∨ w.heap.size ≤ T) ∧ lo ≤ T ∧ (∀ G, q' = some ⟨G, 0, none⟩ → q = some ⟨G, 0, none⟩ ∨ w.heap.size ≤ G)) := ⟨hO, (Turn.of_below b1).trans hT, hq.imp id (fun e => by rw [e, World.size_alloc]; omega), hlT, fun G e => (hG G e).imp id (fun e => by rw [e, World.size_alloc]; omega)⟩
  change (Builtin.append_ #[22, 22] 22 #[.slice q n cap, .slice (some ⟨w.heap.size, 0, none⟩) 2 2]).run Tryd.prog (w.alloc (.cells #[.int .u8 (k / 256), .int .u8 (k % 256)] 5)) = _ at hrun
  clear hO hT hq hlT hG b1 R1
  go_enter Tryd.func45, Tryd.ntmps45
  go_wp2_with (at_builtin; refine push_list rfl _ _ rfl rfl rfl hrun ?_; refine Hid.out ?_)
  clear hrun
  refine hide ?_
  go_wp2
  go_ret
  exact ⟨q', cap', T, rfl, FIN.out⟩
end Go.Proofs.YtkeelacobknfbaaDoor.Wr
