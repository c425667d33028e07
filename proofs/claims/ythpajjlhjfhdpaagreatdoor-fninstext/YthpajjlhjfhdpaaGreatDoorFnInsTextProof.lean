/-
  At every two codes of bytes the law FnInsText returns true (P14: an instruction's text is read as it, and what InsRead reads has the line as its text); the listed tables and error variables of the program and of the library hold what the program's text lays into them.
  The frame (lifted, over, proved) is written by my own program after the guide's worked texts; the walk and the lemmas ahead of it are mine.
-/
import Derived.Test.YthpajjlhjfhdpaaGreatDoorRows
import Derived.Test.YthpajjlhjfhdpaaGreatDoorShape
import Derived.Test.YthpajjlhjfhdpaaGreatDoorTie
import Derived.Test.YthpajjlhjfhdpaaGreatDoorCards
import Derived.Test.YthpajjlhjfhdpaaGreatDoorInsC2
import Derived.Test.YthpajjlhjfhdpaaGreatDoorInsZ
import Derived.Test.YthpajjlhjfhdpaaGreatDoorInsL
import Derived.Test.YthpajjlhjfhdpaaGreatDoorInsW
import Derived.Test.YthpajjlhjfhdpaaGreatDoorDrawK
import Derived.Shelf.Vars
import Derived.Deep.RegionHeld3
import Derived.WalkKit
import Derived.ProofKit
import Derived.OpenShut
import Derived.ShutString
import Derived.ChangeOld
import Derived.Below
import Derived.SizedLaws
import Derived.OpenVars
import Derived.LaidMore
import Derived.Stop.Joined
import Derived.Stop.LaidErr
import Derived.Lib.LaidTab
import Derived.SevenTiedAt
import Derived.Lay
namespace Go.Proofs.YthpajjlhjfhdpaaGreatDoor.fnInsText
open Go.ChangeShapes Go.WideShapes Go.ChangeAt Go.RowKit
open Go.ChangeMaps (open_string shut_string)
set_option linter.unusedVariables false

theorem own : ownKnob Tryz.prog.godebug = none := by kernel_rfl
theorem laidOut : laidOutB Tryz.prog = true := by kernel_rfl
theorem trodVars_len {H : Type} {enc : TypeId × Value → H} {P : Program} {W : World} {m : Nat → Bool} : ∀ {ns : List String} {gs : List (DataW H)} {ps : List MemPlace}, DataW.TrodVars enc P W m ns gs ps → gs.length = ns.length
  | [], [], _, _ => rfl
  | [], _ :: _, _, h => h.elim
  | _ :: _, [], _, h => h.elim
  | _ :: _, _ :: _, _, h => by
    obtain ⟨_, _, _, _, _, _, _, _, _, _, h, _⟩ := h
    simp [trodVars_len h]
theorem door_met (os : Os) (args : Array Value) : laidMetH Tryz.prog Rows.fnInsTextRow.laid ((World.laidAll Tryz.prog os Rows.fnInsTextRow.laid).forCall (fun _ _ => 0) ⟨#[], args, []⟩).memory := by
  rw [MakeChecks.laidMetH_plain _ _ _ (by kernel_rfl)]; exact laidMet_laidAll _ (by kernel_rfl) (by kernel_rfl)

theorem laidPow : Rows.laid_internal_strconv_uint64pow10 (H := Unit) = Lib.tabData .u64 Lib.pow10Tab := by kernel_rfl
theorem tabs {w : World} (hL : laidMet Tryz.prog Rows.fnInsTextRow.laid w) : InsI.Tabs w :=
  InsI.tabs_of hL (by rw [← laidPow]; exact List.mem_of_getElem? (i := 2) rfl) (List.mem_of_getElem? (i := 6) rfl) (List.mem_of_getElem? (i := 7) rfl)
theorem gSyn : Tryz.prog.globalNamed "strconv.ErrSyntax" = some 6 := by kernel_rfl
theorem tSyn : (Tryz.prog.globals[(6 : Nat)]?).map (·.type) = some 70 := by kernel_rfl
theorem star : "*" ++ "errors.errorString" = "*errors.errorString" := by decide
theorem rowErr (u : TypeId) (h : Tryz.prog.typeName? 3 u = some "*errors.errorString") : u = 139 :=
  typeName_ptr_named (nm := "errors.errorString") (by rw [star]; kernel_rfl) (by kernel_rfl) (by decide) u (by rw [star]; exact h)
theorem syn_of {w : World} (hL : laidMet Tryz.prog Rows.fnInsTextRow.laid w) : ∃ tp p, w.var? Tryz.prog "strconv.ErrSyntax" = some #[.iface tp p] := by
  have h3 := laidMet.tail (laidMet.tail (laidMet.tail (laidMet.tail (laidMet.tail hL))))
  obtain ⟨a0, s0, hv0, -, -, -⟩ := laid_sentinel h3 gSyn tSyn Tryz.underlying70 rowErr Tryz.underlying139 Tryz.underlying141 rfl rfl Tryz.underlying9 (by kernel_rfl) (by kernel_rfl)
  exact ⟨_, _, hv0⟩
theorem max_of {w : World} (hS : w.ShapedOpen Tryz.prog) : ∃ m : Int, w.cell? ⟨2, 0, none⟩ = some (.int .i64 m) :=
  cell_of_shapedOpen_int (t := 3) (zero := #[.int .i64 0]) hS (of_decide_eq_true (by kernel_rfl)) (by kernel_rfl) rfl (by kernel_rfl) (by kernel_rfl) (by kernel_rfl)
theorem rd_four {s : ByteArray} {c : Array Value} {b : Bool} (h : Ins.RdRel s c b) : ∃ op d a k : Int, c = #[.int .i64 op, .int .i64 d, .int .i64 a, .int .i64 k] := by
  rcases h with ⟨_, op, d, a, k, h, _⟩ | ⟨_, h, _⟩
  · exact ⟨op, d, a, k, h⟩
  · exact ⟨0, 0, 0, 0, h⟩
theorem rd_true {s : ByteArray} {op d a k : Int} {b : Bool} (h : Ins.RdRel s #[.int .i64 op, .int .i64 d, .int .i64 a, .int .i64 k] b) : b = true → Ins.okB op d a k = true ∧ Ins.textS op d a k = s := by
  intro hb
  rcases h with ⟨_, op', d', a', k', h, h1, h2⟩ | ⟨h, _⟩
  · simp only [Array.mk.injEq, List.cons.injEq, Value.int.injEq, true_and, and_true] at h
    obtain ⟨rfl, rfl, rfl, rfl⟩ := h
    exact ⟨h1, h2⟩
  · rw [hb] at h; cases h
theorem itext_ok {op d a k : Int} (h : Ins.okB op d a k = true) : Ins.itext op d a k = Ins.textS op d a k := by unfold Ins.itext; rw [h]; rfl
theorem ne_self (s : ByteArray) : (s.toList != s.toList) = false := by simp
theorem laOk (w : World) : Calls Tryz.prog 12 #[] w fun e w' => e = .returned (.bool true) ∧ w' = w := by
  go_enter Tryz.func12, Tryz.ntmps12
  go_wp2
  go_ret
  exact ⟨rfl, rfl⟩

set_option maxRecDepth 8000 in
set_option maxHeartbeats 8000000 in
theorem walk (a0 : Option Addr) (len0 cap0 : Nat) (a1 : Option Addr) (len1 cap1 : Nat) (w : World) (w0 : Shape.Holds Tryz.prog w 9 22 [.slice a0 len0 cap0]) (w1 : Shape.Holds Tryz.prog w 9 22 [.slice a1 len1 cap1]) (hL : laidMet Tryz.prog Rows.fnInsTextRow.laid w) (hS : w.ShapedOpen Tryz.prog) :
    Calls Tryz.prog 3 #[.slice a0 len0 cap0, .slice a1 len1 cap1] w fun e w' => e = .returned (.bool true) ∧ Below w.heap.size w w' := by
  have HT : Hid (InsI.RT w) := ⟨tabs hL, syn_of hL, max_of hS⟩
  clear hL hS
  obtain ⟨hlc, hm, hc⟩ := Draw.code_holds w0
  obtain ⟨hlc1, hm1, hc1⟩ := Draw.code_holds w1
  clear w0 w1
  by_cases hl : 1048576 < len0
  · unfold maxLen at hm hm1
    clear hc hc1
    go_enter Tryz.func3, Tryz.ntmps3
    go_wp2
    go_ret
    exact ⟨rfl, Below.refl _ _⟩
  by_cases hl1 : 1048576 < len1
  · unfold maxLen at hm hm1
    clear hc hc1
    go_enter Tryz.func3, Tryz.ntmps3
    go_wp2
    go_ret
    exact ⟨rfl, Below.refl _ _⟩
  have HM := Draw.hideD (And.intro hm hm1)
  have HC0 := Draw.hideD hc
  have HC1 := Draw.hideD hc1
  clear hm hm1 hc hc1
  go_enter Tryz.func3, Tryz.ntmps3
  go_wp2_with fail
  refine (Draw.drawInsText a0 len0 cap0 _ hlc HM.out.1 HC0.out).mono ?_
  rintro e w1 ⟨op, d, a, k, rfl, hb⟩
  have HC2 := Draw.hideD ((HC1.out.below hb).below ((Below.refl _ _).alloc (Nat.le_refl _) (.cells #[.int .i64 op, .int .i64 d, .int .i64 a, .int .i64 k] 24)))
  have i := Draw.Blk.new w1 op d a k 24
  have B1 := hb.alloc hb.size (.cells #[.int .i64 op, .int .i64 d, .int .i64 a, .int .i64 k] 24)
  clear HC0 HC1 hb
  go_wp2_with fail
  refine (Draw.drawInsRead a1 len1 cap1 _ hlc1 HM.out.2 HC2.out).mono ?_
  rintro e w2 ⟨t, rfl, ts, hb⟩
  have i2 := i.below hb
  have B2 := B1.trans (hb.mono B1.size)
  clear i B1 hb HC2 HM
  go_wp2_with fail
  refine (InsI.implRead t _ (HT.out.below B2) (by omega)).mono ?_
  rintro e w3 ⟨c, b, rfl, hr, hb⟩
  have i3 := i2.below hb
  have B3 := B2.trans (hb.mono B2.size)
  clear i2 B2 hb
  obtain ⟨p, q, r, s, rfl⟩ := rd_four hr
  have HR := Draw.hideD hr
  have HB : Hid (b = true → Ins.okB p q r s = true ∧ Ins.textS p q r s = t) := rd_true hr
  clear hr
  have x3 := Draw.Blk.new w3 p q r s 24
  replace i3 := i3.alloc (.cells #[.int .i64 p, .int .i64 q, .int .i64 r, .int .i64 s] 24)
  have B3 := B3.alloc B3.size (.cells #[.int .i64 p, .int .i64 q, .int .i64 r, .int .i64 s] 24)
  go_wp2_with fail
  refine (InsI.specRead t _ (by omega)).mono ?_
  rintro e w4 ⟨c9, b9, rfl, hr9, hb⟩
  obtain ⟨rfl, rfl⟩ := Ins.rdRel_one HR.out hr9
  clear hr9 HR
  replace i3 := (i3.below hb).alloc (.cells #[.int .i64 p, .int .i64 q, .int .i64 r, .int .i64 s] 24)
  replace x3 := (x3.below hb).alloc (.cells #[.int .i64 p, .int .i64 q, .int .i64 r, .int .i64 s] 24)
  have y3 := Draw.Blk.new w4 p q r s 24
  replace B3 := (B3.trans (hb.mono B3.size)).alloc (Nat.le_trans B3.size hb.size) (.cells #[.int .i64 p, .int .i64 q, .int .i64 r, .int .i64 s] 24)
  clear hb
  go_wp2_with fail
  generalize w1.heap.size = I at i3 ⊢
  generalize w3.heap.size = X at x3 ⊢
  generalize w4.alloc (.cells #[.int .i64 p, .int .i64 q, .int .i64 r, .int .i64 s] 24) = w5 at i3 x3 y3 B3 ⊢
  generalize w4.heap.size = Y at y3 ⊢
  have S5 : (w5.cell? ⟨I, 0, none⟩ = some (.int .i64 op) ∧ w5.cell? ⟨I, 1, none⟩ = some (.int .i64 d) ∧ w5.cell? ⟨I, 2, none⟩ = some (.int .i64 a) ∧ w5.cell? ⟨I, 3, none⟩ = some (.int .i64 k) ∧ w5.cell? ⟨X, 0, none⟩ = some (.int .i64 p) ∧ w5.cell? ⟨X, 1, none⟩ = some (.int .i64 q) ∧ w5.cell? ⟨X, 2, none⟩ = some (.int .i64 r) ∧ w5.cell? ⟨X, 3, none⟩ = some (.int .i64 s) ∧ w5.cell? ⟨Y, 0, none⟩ = some (.int .i64 p) ∧ w5.cell? ⟨Y, 1, none⟩ = some (.int .i64 q) ∧ w5.cell? ⟨Y, 2, none⟩ = some (.int .i64 r) ∧ w5.cell? ⟨Y, 3, none⟩ = some (.int .i64 s) ∧ Below w.heap.size w w5) := ⟨i3.c0, i3.c1, i3.c2, i3.c3, x3.c0, x3.c1, x3.c2, x3.c3, y3.c0, y3.c1, y3.c2, y3.c3, B3⟩
  have KB : ∀ v v' : World, (v.cell? ⟨I, 0, none⟩ = some (.int .i64 op) ∧ v.cell? ⟨I, 1, none⟩ = some (.int .i64 d) ∧ v.cell? ⟨I, 2, none⟩ = some (.int .i64 a) ∧ v.cell? ⟨I, 3, none⟩ = some (.int .i64 k) ∧ v.cell? ⟨X, 0, none⟩ = some (.int .i64 p) ∧ v.cell? ⟨X, 1, none⟩ = some (.int .i64 q) ∧ v.cell? ⟨X, 2, none⟩ = some (.int .i64 r) ∧ v.cell? ⟨X, 3, none⟩ = some (.int .i64 s) ∧ v.cell? ⟨Y, 0, none⟩ = some (.int .i64 p) ∧ v.cell? ⟨Y, 1, none⟩ = some (.int .i64 q) ∧ v.cell? ⟨Y, 2, none⟩ = some (.int .i64 r) ∧ v.cell? ⟨Y, 3, none⟩ = some (.int .i64 s) ∧ Below w.heap.size w v) → Below v.heap.size v v' → (v'.cell? ⟨I, 0, none⟩ = some (.int .i64 op) ∧ v'.cell? ⟨I, 1, none⟩ = some (.int .i64 d) ∧ v'.cell? ⟨I, 2, none⟩ = some (.int .i64 a) ∧ v'.cell? ⟨I, 3, none⟩ = some (.int .i64 k) ∧ v'.cell? ⟨X, 0, none⟩ = some (.int .i64 p) ∧ v'.cell? ⟨X, 1, none⟩ = some (.int .i64 q) ∧ v'.cell? ⟨X, 2, none⟩ = some (.int .i64 r) ∧ v'.cell? ⟨X, 3, none⟩ = some (.int .i64 s) ∧ v'.cell? ⟨Y, 0, none⟩ = some (.int .i64 p) ∧ v'.cell? ⟨Y, 1, none⟩ = some (.int .i64 q) ∧ v'.cell? ⟨Y, 2, none⟩ = some (.int .i64 r) ∧ v'.cell? ⟨Y, 3, none⟩ = some (.int .i64 s) ∧ Below w.heap.size w v') := fun v v' h hb => ⟨Ins.cell_below hb h.1, Ins.cell_below hb h.2.1, Ins.cell_below hb h.2.2.1, Ins.cell_below hb h.2.2.2.1, Ins.cell_below hb h.2.2.2.2.1, Ins.cell_below hb h.2.2.2.2.2.1, Ins.cell_below hb h.2.2.2.2.2.2.1, Ins.cell_below hb h.2.2.2.2.2.2.2.1, Ins.cell_below hb h.2.2.2.2.2.2.2.2.1, Ins.cell_below hb h.2.2.2.2.2.2.2.2.2.1, Ins.cell_below hb h.2.2.2.2.2.2.2.2.2.2.1, Ins.cell_below hb h.2.2.2.2.2.2.2.2.2.2.2.1, h.2.2.2.2.2.2.2.2.2.2.2.2.trans (hb.mono h.2.2.2.2.2.2.2.2.2.2.2.2.size)⟩
  have KD : ∀ v : World, (v.cell? ⟨I, 0, none⟩ = some (.int .i64 op) ∧ v.cell? ⟨I, 1, none⟩ = some (.int .i64 d) ∧ v.cell? ⟨I, 2, none⟩ = some (.int .i64 a) ∧ v.cell? ⟨I, 3, none⟩ = some (.int .i64 k) ∧ v.cell? ⟨X, 0, none⟩ = some (.int .i64 p) ∧ v.cell? ⟨X, 1, none⟩ = some (.int .i64 q) ∧ v.cell? ⟨X, 2, none⟩ = some (.int .i64 r) ∧ v.cell? ⟨X, 3, none⟩ = some (.int .i64 s) ∧ v.cell? ⟨Y, 0, none⟩ = some (.int .i64 p) ∧ v.cell? ⟨Y, 1, none⟩ = some (.int .i64 q) ∧ v.cell? ⟨Y, 2, none⟩ = some (.int .i64 r) ∧ v.cell? ⟨Y, 3, none⟩ = some (.int .i64 s) ∧ Below w.heap.size w v) → (v.drew.cell? ⟨I, 0, none⟩ = some (.int .i64 op) ∧ v.drew.cell? ⟨I, 1, none⟩ = some (.int .i64 d) ∧ v.drew.cell? ⟨I, 2, none⟩ = some (.int .i64 a) ∧ v.drew.cell? ⟨I, 3, none⟩ = some (.int .i64 k) ∧ v.drew.cell? ⟨X, 0, none⟩ = some (.int .i64 p) ∧ v.drew.cell? ⟨X, 1, none⟩ = some (.int .i64 q) ∧ v.drew.cell? ⟨X, 2, none⟩ = some (.int .i64 r) ∧ v.drew.cell? ⟨X, 3, none⟩ = some (.int .i64 s) ∧ v.drew.cell? ⟨Y, 0, none⟩ = some (.int .i64 p) ∧ v.drew.cell? ⟨Y, 1, none⟩ = some (.int .i64 q) ∧ v.drew.cell? ⟨Y, 2, none⟩ = some (.int .i64 r) ∧ v.drew.cell? ⟨Y, 3, none⟩ = some (.int .i64 s) ∧ Below w.heap.size w v.drew) := fun v h => ⟨h.1, h.2.1, h.2.2.1, h.2.2.2.1, h.2.2.2.2.1, h.2.2.2.2.2.1, h.2.2.2.2.2.2.1, h.2.2.2.2.2.2.2.1, h.2.2.2.2.2.2.2.2.1, h.2.2.2.2.2.2.2.2.2.1, h.2.2.2.2.2.2.2.2.2.2.1, h.2.2.2.2.2.2.2.2.2.2.2.1, h.2.2.2.2.2.2.2.2.2.2.2.2.drew⟩
  have RS : ∀ v : World, (v.cell? ⟨I, 0, none⟩ = some (.int .i64 op) ∧ v.cell? ⟨I, 1, none⟩ = some (.int .i64 d) ∧ v.cell? ⟨I, 2, none⟩ = some (.int .i64 a) ∧ v.cell? ⟨I, 3, none⟩ = some (.int .i64 k) ∧ v.cell? ⟨X, 0, none⟩ = some (.int .i64 p) ∧ v.cell? ⟨X, 1, none⟩ = some (.int .i64 q) ∧ v.cell? ⟨X, 2, none⟩ = some (.int .i64 r) ∧ v.cell? ⟨X, 3, none⟩ = some (.int .i64 s) ∧ v.cell? ⟨Y, 0, none⟩ = some (.int .i64 p) ∧ v.cell? ⟨Y, 1, none⟩ = some (.int .i64 q) ∧ v.cell? ⟨Y, 2, none⟩ = some (.int .i64 r) ∧ v.cell? ⟨Y, 3, none⟩ = some (.int .i64 s) ∧ Below w.heap.size w v) → InsI.RT v := fun v h => HT.out.below h.2.2.2.2.2.2.2.2.2.2.2.2
  have TS : ∀ v : World, (v.cell? ⟨I, 0, none⟩ = some (.int .i64 op) ∧ v.cell? ⟨I, 1, none⟩ = some (.int .i64 d) ∧ v.cell? ⟨I, 2, none⟩ = some (.int .i64 a) ∧ v.cell? ⟨I, 3, none⟩ = some (.int .i64 k) ∧ v.cell? ⟨X, 0, none⟩ = some (.int .i64 p) ∧ v.cell? ⟨X, 1, none⟩ = some (.int .i64 q) ∧ v.cell? ⟨X, 2, none⟩ = some (.int .i64 r) ∧ v.cell? ⟨X, 3, none⟩ = some (.int .i64 s) ∧ v.cell? ⟨Y, 0, none⟩ = some (.int .i64 p) ∧ v.cell? ⟨Y, 1, none⟩ = some (.int .i64 q) ∧ v.cell? ⟨Y, 2, none⟩ = some (.int .i64 r) ∧ v.cell? ⟨Y, 3, none⟩ = some (.int .i64 s) ∧ Below w.heap.size w v) → InsI.Tabs v := fun v h => (RS v h).tabs
  clear i3 x3 y3 B3
  obtain ⟨ti, eti⟩ : ∃ ti, Ins.itext op d a k = ti := ⟨_, rfl⟩
  have tis : ti.size ≤ 20 := by rw [← eti]; exact Draw.itext_size op d a k
  have ETI := Draw.hideD eti
  clear eti
  have nb := ne_self ti
  first | (go_region_held3 (fun v => (v.cell? ⟨I, 0, none⟩ = some (.int .i64 op) ∧ v.cell? ⟨I, 1, none⟩ = some (.int .i64 d) ∧ v.cell? ⟨I, 2, none⟩ = some (.int .i64 a) ∧ v.cell? ⟨I, 3, none⟩ = some (.int .i64 k) ∧ v.cell? ⟨X, 0, none⟩ = some (.int .i64 p) ∧ v.cell? ⟨X, 1, none⟩ = some (.int .i64 q) ∧ v.cell? ⟨X, 2, none⟩ = some (.int .i64 r) ∧ v.cell? ⟨X, 3, none⟩ = some (.int .i64 s) ∧ v.cell? ⟨Y, 0, none⟩ = some (.int .i64 p) ∧ v.cell? ⟨Y, 1, none⟩ = some (.int .i64 q) ∧ v.cell? ⟨Y, 2, none⟩ = some (.int .i64 r) ∧ v.cell? ⟨Y, 3, none⟩ = some (.int .i64 s) ∧ Below w.heap.size w v)) (first | exact KD _ (by assumption) | exact KB _ _ (by assumption) (by assumption)) (first | (go_at_call 8; refine (InsI.implText op d a k _ (TS _ (by assumption))).mono ?_; rintro e w6 ⟨rfl, hb6⟩; rw [ETI.out]) | (go_at_call 9; refine (Ins.insText op d a k _).mono ?_; rintro e w7 ⟨rfl, hb7⟩; rw [ETI.out]))) | fail
  have S7 := KB _ _ (KB _ _ (KD _ S5) hb6) hb7
  clear S5 hb6 hb7 KD
  cases b with
  | false =>
    obtain ⟨c0, c1, c2, c3, c4, c5, c6, c7, c8, c9, c10, c11, B7⟩ := id S7
    go_wp2_with fail
    refine (Ins.insOk op d a k _).mono ?_
    rintro e w8 ⟨rfl, hb8⟩
    clear c0 c1 c2 c3 c4 c5 c6 c7 c8 c9 c10 c11 B7
    replace S7 := KB _ _ S7 hb8
    clear hb8
    cases hk : Ins.okB op d a k with
    | false =>
      have ht : ti = ⟨#[]⟩ := by rw [← ETI.out]; unfold Ins.itext; rw [hk]; rfl
      have HTI := Draw.hideD ht
      clear ht hk
      obtain ⟨c0, c1, c2, c3, _, _, _, _, _, _, _, _, _⟩ := id S7
      go_wp2_with fail
      refine (InsI.implText op d a k _ (TS _ S7)).mono ?_
      rintro e w9 ⟨rfl, hb9⟩
      rw [ETI.out, HTI.out]
      clear c0 c1 c2 c3
      replace S7 := KB _ _ S7 hb9
      clear hb9
      go_wp2_with fail
      refine (laOk _).mono ?_
      rintro e w11 ⟨rfl, rfl⟩
      obtain ⟨_, _, _, _, _, _, _, _, _, _, _, _, B⟩ := S7
      clear KB TS
      go_wp2
      go_ret
      exact ⟨rfl, B⟩
    | true =>
      have ht : Ins.textS op d a k = ti := by rw [← ETI.out]; unfold Ins.itext; rw [hk]; rfl
      have HR2 : Hid (Ins.RdRel ti #[.int .i64 op, .int .i64 d, .int .i64 a, .int .i64 k] true) := Or.inl ⟨rfl, op, d, a, k, rfl, hk, ht⟩
      clear ht hk
      obtain ⟨c0, c1, c2, c3, _, _, _, _, _, _, _, _, _⟩ := id S7
      go_wp2_with fail
      refine (InsI.implText op d a k _ (TS _ S7)).mono ?_
      rintro e w9 ⟨rfl, hb9⟩
      rw [ETI.out]
      clear c0 c1 c2 c3
      replace S7 := KB _ _ S7 hb9
      clear hb9
      go_wp2_with fail
      refine (InsI.implRead ti _ (RS _ S7) (by omega)).mono ?_
      rintro e w10 ⟨c9, b9, rfl, hr9, hb10⟩
      obtain ⟨rfl, rfl⟩ := Ins.rdRel_one HR2.out hr9
      clear hr9 HR2
      replace S7 := KB _ _ S7 hb10
      clear hb10
      have y10 := Draw.Blk.new w10 op d a k 24
      replace S7 := KB _ _ S7 ((Below.refl _ _).alloc (Nat.le_refl _) (.cells #[.int .i64 op, .int .i64 d, .int .i64 a, .int .i64 k] 24))
      obtain ⟨c0, c1, c2, c3, _, _, _, _, _, _, _, _, B⟩ := id S7
      obtain ⟨_, y0, y1, y2, y3, _, _, _, _⟩ := y10
      clear S7 KB TS
      go_wp2
      go_ret
      exact ⟨rfl, B⟩
  | true =>
    have HO := Draw.hideD (HB.out rfl)
    clear HB
    have nt := ne_self t
    obtain ⟨_, _, _, _, c4, c5, c6, c7, _, _, _, _, _⟩ := id S7
    go_wp2_with fail
    refine (InsI.insOk p q r s _).mono ?_
    rintro e w75 ⟨rfl, hb⟩
    rw [HO.out.1]
    replace S7 := KB _ _ S7 hb
    clear hb c4 c5 c6 c7
    obtain ⟨_, _, _, _, c4, c5, c6, c7, _, _, _, _, _⟩ := id S7
    go_wp2_with fail
    refine (InsI.implText p q r s _ (TS _ S7)).mono ?_
    rintro e w76 ⟨rfl, hb⟩
    rw [itext_ok HO.out.1, HO.out.2]
    replace S7 := KB _ _ S7 hb
    clear hb c4 c5 c6 c7
    obtain ⟨c0, c1, c2, c3, c4, c5, c6, c7, c8, c9, c10, c11, B7⟩ := id S7
    go_wp2_with fail
    refine (Ins.insOk op d a k _).mono ?_
    rintro e w8 ⟨rfl, hb8⟩
    clear c0 c1 c2 c3 c4 c5 c6 c7 c8 c9 c10 c11 B7
    replace S7 := KB _ _ S7 hb8
    clear hb8
    cases hk : Ins.okB op d a k with
    | false =>
      have ht : ti = ⟨#[]⟩ := by rw [← ETI.out]; unfold Ins.itext; rw [hk]; rfl
      have HTI := Draw.hideD ht
      clear ht hk
      obtain ⟨c0, c1, c2, c3, _, _, _, _, _, _, _, _, _⟩ := id S7
      go_wp2_with fail
      refine (InsI.implText op d a k _ (TS _ S7)).mono ?_
      rintro e w9 ⟨rfl, hb9⟩
      rw [ETI.out, HTI.out]
      clear c0 c1 c2 c3
      replace S7 := KB _ _ S7 hb9
      clear hb9
      go_wp2_with fail
      refine (laOk _).mono ?_
      rintro e w11 ⟨rfl, rfl⟩
      obtain ⟨_, _, _, _, _, _, _, _, _, _, _, _, B⟩ := S7
      clear KB TS
      go_wp2
      go_ret
      exact ⟨rfl, B⟩
    | true =>
      have ht : Ins.textS op d a k = ti := by rw [← ETI.out]; unfold Ins.itext; rw [hk]; rfl
      have HR2 : Hid (Ins.RdRel ti #[.int .i64 op, .int .i64 d, .int .i64 a, .int .i64 k] true) := Or.inl ⟨rfl, op, d, a, k, rfl, hk, ht⟩
      clear ht hk
      obtain ⟨c0, c1, c2, c3, _, _, _, _, _, _, _, _, _⟩ := id S7
      go_wp2_with fail
      refine (InsI.implText op d a k _ (TS _ S7)).mono ?_
      rintro e w9 ⟨rfl, hb9⟩
      rw [ETI.out]
      clear c0 c1 c2 c3
      replace S7 := KB _ _ S7 hb9
      clear hb9
      go_wp2_with fail
      refine (InsI.implRead ti _ (RS _ S7) (by omega)).mono ?_
      rintro e w10 ⟨c9, b9, rfl, hr9, hb10⟩
      obtain ⟨rfl, rfl⟩ := Ins.rdRel_one HR2.out hr9
      clear hr9 HR2
      replace S7 := KB _ _ S7 hb10
      clear hb10
      have y10 := Draw.Blk.new w10 op d a k 24
      replace S7 := KB _ _ S7 ((Below.refl _ _).alloc (Nat.le_refl _) (.cells #[.int .i64 op, .int .i64 d, .int .i64 a, .int .i64 k] 24))
      obtain ⟨c0, c1, c2, c3, _, _, _, _, _, _, _, _, B⟩ := id S7
      obtain ⟨_, y0, y1, y2, y3, _, _, _, _⟩ := y10
      clear S7 KB TS
      go_wp2
      go_ret
      exact ⟨rfl, B⟩

set_option maxRecDepth 100000 in
theorem lifted (os : Os) (started : os.Started) (H : Type) (enc : TypeId × Value → H) :
    ReturnsInHanded {} Tryz.checked os 3 .any (fun w args => (Rows.fnInsTextSpec.pre enc Tryz.prog Tryz.f3 Rows.fnInsTextRow.domain false w args ∧ laidMetH Tryz.prog Rows.fnInsTextRow.laid w) ∧ sizedMet enc Tryz.prog Tryz.f3 (OpenSpec.ofChange Rows.fnInsTextSpec) false w args)
      (Rows.fnInsTextSpec.post enc Tryz.prog Tryz.f3 false true false false) := by
  refine InsW.returnsInHanded_and_shaped (C := Tryz.checked) (X := fun w _ => laidMetH Tryz.prog Rows.fnInsTextRow.laid w) (fun _ _ _ hh h => h.of_heap hh) own started (by kernel_rfl) Tryz.func3
    (ChangeSpec.witness_shaped (enc := enc) (C := Tryz.checked) (os := os) (X := fun w _ => laidMetH Tryz.prog Rows.fnInsTextRow.laid w) false (World.laidAll Tryz.prog os Rows.fnInsTextRow.laid) #[.slice none 0 0, .slice none 0 0] 8 (World.laidAll_os _ _ _) (World.shaped_of_ZipB (by kernel_rfl) (by kernel_rfl)) (by kernel_rfl) (by kernel_rfl) (by kernel_rfl) (door_met os _)) ?_
  intro W base args ds gs before hval0 hW hsz0 hL hSh
  have hval : ∀ (j : Nat) t v, Tryz.f3.params[j]? = some t → args[j]? = some v → Value.okWide Tryz.prog W .any base t v := hval0
  have hW' := hW
  obtain ⟨p, q, hA0, hV, rfl, hfz, hnd⟩ := hW
  have hA : DataW.TrodAll enc Tryz.prog W 0 (fun _ => true) true Tryz.f3.params.toList args.toList ds p := hA0
  rw [Tryz.params3] at hA hval
  obtain ⟨v0, vs0, d0, ds0, p0, q0, hargs, rfl, rfl, h0, r0⟩ := trodAll_cons hA
  obtain ⟨v1, vs1, d1, ds1, p1, q1, rfl, rfl, rfl, h1, r1⟩ := trodAll_cons r0
  obtain ⟨rfl, rfl, rfl⟩ := trodAll_nil r1
  obtain rfl : args = #[v0, v1] := by cases args; simp_all
  have hgl : gs.length = 2 := (trodVars_len hV).trans rfl
  obtain ⟨g0, g1, rfl⟩ : ∃ g0 g1, gs = [g0, g1] := by
    match gs, hgl with
    | [g0, g1], _ => exact ⟨g0, g1, rfl⟩
  have k0 := h0
  have lt0 : ∀ x ∈ p0, x.block < W.heap.size := by obtain ⟨m, hm⟩ := k0; exact DataW.trod_lt m _ _ _ hm
  obtain ⟨a0, len0, cap0, rfl⟩ := okWide_slice Tryz.underlying22 (hval 0 22 v0 rfl rfl)
  have w0 : Shape.Holds Tryz.prog W 9 22 [.slice a0 len0 cap0] := Shape.opened 9 h0
  have k1 := h1
  have lt1 : ∀ x ∈ p1, x.block < W.heap.size := by obtain ⟨m, hm⟩ := k1; exact DataW.trod_lt m _ _ _ hm
  obtain ⟨a1, len1, cap1, rfl⟩ := okWide_slice Tryz.underlying22 (hval 1 22 v1 rfl rfl)
  have w1 : Shape.Holds Tryz.prog W 9 22 [.slice a1 len1 cap1] := Shape.opened 9 h1
  clear hA0 hval0
  rw [MakeChecks.laidMetH_plain _ _ _ (by kernel_rfl)] at hL
  refine (walk a0 len0 cap0 a1 len1 cap1 W w0 w1 hL hSh).mono fun e W' ⟨he, hnx⟩ => ?_
  subst he
  exact ⟨_, rfl, _, _, _, [], _, q, hW', trodAll_cons_mk (shut_bool Tryz.underlying4 _) trodAll_mk0, (trodAll_cons_mk (Below.trod laidOut (by kernel_rfl) (of_decide_eq_true (by kernel_rfl)) k0 hnx lt0) (trodAll_cons_mk (Below.trod laidOut (by kernel_rfl) (of_decide_eq_true (by kernel_rfl)) k1 hnx lt1) trodAll_mk0)), hnx.trodVars laidOut (by kernel_rfl) hV, hnx.frame _, fun h => by cases h⟩

theorem over : Rows.fnInsTextRow.holds Tryz.pinned (OpenSpec.ofChange Rows.fnInsTextSpec) :=
  OpenClaim.holds_of_wide 3 Tryz.f3 rfl rfl rfl rfl rfl rfl rfl ⟨rfl, rfl, rfl, rfl, rfl⟩ rfl rfl rfl rfl rfl (by kernel_rfl) Tryz.func3 (by kernel_rfl)
    (of_decide_eq_true (by kernel_rfl)) (by unfold Func.isWrapper; first | (rw [if_pos (by decide +kernel)]; kernel_rfl) | (rw [if_neg (by decide +kernel)]; exact ⟨rfl, rfl⟩))
    (fun os started H enc _ => lifted os started H enc)

theorem proved : Rows.FnInsTextCardSaid :=
  Claim7.holds_tied_plain_at .later [] [.data, .data, .data, .data, .sentinel, .sentinel, .data, .data, .pinned] true (true, "75482d0c6ec42d769d8cbc769374aae63d6edd1d2a10799212dcf4ec8ea07280") true
    over (fun _ h => by cases h) (by kernel_rfl) (fun _ h => by cases h) fnInsText_row_tie rfl ⟨rfl, rfl⟩ (by kernel_rfl) rfl
    (fun f fn hf hfn => by
      obtain rfl : f = 3 := Option.some.inj ((show Tryz.prog.funcNamed "loop.example/latimer/laws.FnInsText" = some 3 by kernel_rfl).symm.trans hf) |>.symm
      obtain rfl : fn = Tryz.f3 := (Option.some.inj (Tryz.func3.symm.trans hfn)).symm
      exact ⟨by kernel_rfl, fun j t ht => by
        rw [Tryz.params3] at ht
        have hm : t ∈ [22, 22] := by simpa using Array.mem_of_getElem? ht
        have hall : ([22, 22].all fun u => !Tryz.prog.wantsStandIn u) = true := by kernel_rfl
        exact (show Tryz.prog.wantsStandIn t = false by simpa using List.all_eq_true.1 hall t hm)⟩)
    (by kernel_rfl)
#print axioms proved
end Go.Proofs.YthpajjlhjfhdpaaGreatDoor.fnInsText
