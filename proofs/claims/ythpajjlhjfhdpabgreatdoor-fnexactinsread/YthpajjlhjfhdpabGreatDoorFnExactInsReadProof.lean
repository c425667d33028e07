/-
  At every line the program's InsRead answers as the specification's InsRead does, every field (the law FnExactInsRead returns true); the listed tables and error variables of the program and of the library hold what the program's text lays into them.
  The frame (lifted, over, proved) is written by my own program after the guide's worked texts; the walk and the lemmas ahead of it are mine.
-/
import Derived.Test.YthpajjlhjfhdpabGreatDoorRows
import Derived.Test.YthpajjlhjfhdpabGreatDoorShape
import Derived.Test.YthpajjlhjfhdpabGreatDoorTie
import Derived.Test.YthpajjlhjfhdpabGreatDoorCards
import Derived.Test.YthpajjlhjfhdpabGreatDoorInsC2
import Derived.Test.YthpajjlhjfhdpabGreatDoorInsZ
import Derived.Test.YthpajjlhjfhdpabGreatDoorInsL
import Derived.Test.YthpajjlhjfhdpabGreatDoorInsW
import Derived.Shelf.Vars
import Derived.WalkKit
import Derived.ProofKit
import Derived.OpenShut
import Derived.ShutString
import Derived.ChangeOld
import Derived.Below
import Derived.SizedLaws
import Derived.OpenVars
import Derived.LaidMore
import Derived.Stop.Joined
import Derived.Stop.LaidErr
import Derived.Lib.LaidTab
import Derived.SevenTiedAt
import Derived.Lay
namespace Go.Proofs.YthpajjlhjfhdpabGreatDoor.fnExactInsRead
open Go.ChangeShapes Go.WideShapes Go.ChangeAt Go.RowKit
open Go.ChangeMaps (open_string shut_string)
set_option linter.unusedVariables false

theorem own : ownKnob Tryz.prog.godebug = none := by kernel_rfl
theorem laidOut : laidOutB Tryz.prog = true := by kernel_rfl
theorem trodVars_len {H : Type} {enc : TypeId × Value → H} {P : Program} {W : World} {m : Nat → Bool} : ∀ {ns : List String} {gs : List (DataW H)} {ps : List MemPlace}, DataW.TrodVars enc P W m ns gs ps → gs.length = ns.length
  | [], [], _, _ => rfl
  | [], _ :: _, _, h => h.elim
  | _ :: _, [], _, h => h.elim
  | _ :: _, _ :: _, _, h => by
    obtain ⟨_, _, _, _, _, _, _, _, _, _, h, _⟩ := h
    simp [trodVars_len h]
theorem door_met (os : Os) (args : Array Value) : laidMetH Tryz.prog Rows.fnExactInsReadRow.laid ((World.laidAll Tryz.prog os Rows.fnExactInsReadRow.laid).forCall (fun _ _ => 0) ⟨#[], args, []⟩).memory := by
  rw [MakeChecks.laidMetH_plain _ _ _ (by kernel_rfl)]; exact laidMet_laidAll _ (by kernel_rfl) (by kernel_rfl)

theorem laidPow : Rows.laid_internal_strconv_uint64pow10 (H := Unit) = Lib.tabData .u64 Lib.pow10Tab := by kernel_rfl
theorem tabs {w : World} (hL : laidMet Tryz.prog Rows.fnExactInsReadRow.laid w) : InsI.Tabs w :=
  InsI.tabs_of hL (by rw [← laidPow]; exact List.mem_of_getElem? (i := 2) rfl) (List.mem_of_getElem? (i := 6) rfl) (List.mem_of_getElem? (i := 7) rfl)
theorem gSyn : Tryz.prog.globalNamed "strconv.ErrSyntax" = some 5 := by kernel_rfl
theorem tSyn : (Tryz.prog.globals[(5 : Nat)]?).map (·.type) = some 80 := by kernel_rfl
theorem star : "*" ++ "errors.errorString" = "*errors.errorString" := by decide
theorem rowErr (u : TypeId) (h : Tryz.prog.typeName? 3 u = some "*errors.errorString") : u = 128 :=
  typeName_ptr_named (nm := "errors.errorString") (by rw [star]; kernel_rfl) (by kernel_rfl) (by decide) u (by rw [star]; exact h)
theorem syn_of {w : World} (hL : laidMet Tryz.prog Rows.fnExactInsReadRow.laid w) : ∃ tp p, w.var? Tryz.prog "strconv.ErrSyntax" = some #[.iface tp p] := by
  have h3 := laidMet.tail (laidMet.tail (laidMet.tail (laidMet.tail (laidMet.tail hL))))
  obtain ⟨a0, s0, hv0, -, -, -⟩ := laid_sentinel h3 gSyn tSyn Tryz.underlying80 rowErr Tryz.underlying128 Tryz.underlying130 rfl rfl Tryz.underlying9 (by kernel_rfl) (by kernel_rfl)
  exact ⟨_, _, hv0⟩
theorem max_of {w : World} (hS : w.ShapedOpen Tryz.prog) : ∃ m : Int, w.cell? ⟨2, 0, none⟩ = some (.int .i64 m) :=
  cell_of_shapedOpen_int (t := 3) (zero := #[.int .i64 0]) hS (of_decide_eq_true (by kernel_rfl)) (by kernel_rfl) rfl (by kernel_rfl) (by kernel_rfl) (by kernel_rfl)
theorem rd_four {s : ByteArray} {c : Array Value} {b : Bool} (h : Ins.RdRel s c b) : ∃ op d a k : Int, c = #[.int .i64 op, .int .i64 d, .int .i64 a, .int .i64 k] := by
  rcases h with ⟨_, op, d, a, k, h, _⟩ | ⟨_, h, _⟩
  · exact ⟨op, d, a, k, h⟩
  · exact ⟨0, 0, 0, 0, h⟩

set_option maxHeartbeats 1000000 in
theorem walk (a0 : ByteArray) (w0 : a0.size ≤ 281474976710656) (w : World)  (hL : laidMet Tryz.prog Rows.fnExactInsReadRow.laid w) (hS : w.ShapedOpen Tryz.prog) :
    Calls Tryz.prog 3 #[.string a0] w fun e w' => e = .returned (.bool true) ∧ Below w.heap.size w w' := by
  have HT : Hid (InsI.RT w) := ⟨tabs hL, syn_of hL, max_of hS⟩
  clear hL hS
  by_cases hl : 1048576 < a0.size
  · go_enter Tryz.func3, Tryz.ntmps3
    go_wp2
    go_ret
    exact ⟨rfl, Below.refl _ _⟩
  · go_enter Tryz.func3, Tryz.ntmps3
    go_wp2_with fail
    refine (InsI.specRead a0 _ w0).mono ?_
    rintro e w1 ⟨c, b, rfl, hr1, B1⟩
    obtain ⟨op, d, a, k, rfl⟩ := rd_four hr1
    have H1 := Words.hide hr1
    clear hr1
    have nb : (b != b) = false := by simp
    have W1 : Below w.heap.size w (w1.alloc (.cells #[.int .i64 op, .int .i64 d, .int .i64 a, .int .i64 k] 23)) := B1.alloc B1.size _
    go_wp2_with fail
    refine (InsI.implRead a0 _ (HT.out.below W1) w0).mono ?_
    rintro e w2 ⟨c', b', rfl, hr2, hb⟩
    obtain ⟨rfl, rfl⟩ := Ins.rdRel_one H1.out hr2
    clear hr2 H1
    have c0 : w2.cell? ⟨w1.heap.size, 0, none⟩ = some (.int .i64 op) := Ins.cell_below hb (by simp)
    have c1 : w2.cell? ⟨w1.heap.size, 1, none⟩ = some (.int .i64 d) := Ins.cell_below hb (by simp)
    have c2 : w2.cell? ⟨w1.heap.size, 2, none⟩ = some (.int .i64 a) := Ins.cell_below hb (by simp)
    have c3 : w2.cell? ⟨w1.heap.size, 3, none⟩ = some (.int .i64 k) := Ins.cell_below hb (by simp)
    have hz : w1.heap.size < w2.heap.size := by have := hb.size; simp at this; omega
    have W2 := W1.trans (hb.mono W1.size)
    have W3 := W2.alloc (Nat.le_trans W1.size hb.size) (.cells #[.int .i64 op, .int .i64 d, .int .i64 a, .int .i64 k] 23)
    clear hb W1 B1 W2
    go_wp2_with fail
    refine (Ins.eqIns op d a k _).mono ?_
    rintro e w3 ⟨rfl, hb⟩
    have W4 := W3.trans (hb.mono W3.size)
    clear hb W3
    go_wp2
    go_ret
    exact ⟨rfl, W4⟩

set_option maxRecDepth 100000 in
theorem lifted (os : Os) (started : os.Started) (H : Type) (enc : TypeId × Value → H) :
    ReturnsInHanded {} Tryz.checked os 3 .any (fun w args => (Rows.fnExactInsReadSpec.pre enc Tryz.prog Tryz.f3 Rows.fnExactInsReadRow.domain false w args ∧ laidMetH Tryz.prog Rows.fnExactInsReadRow.laid w) ∧ sizedMet enc Tryz.prog Tryz.f3 (OpenSpec.ofChange Rows.fnExactInsReadSpec) false w args)
      (Rows.fnExactInsReadSpec.post enc Tryz.prog Tryz.f3 false true false false) := by
  refine InsW.returnsInHanded_and_shaped (C := Tryz.checked) (X := fun w _ => laidMetH Tryz.prog Rows.fnExactInsReadRow.laid w) (fun _ _ _ hh h => h.of_heap hh) own started (by kernel_rfl) Tryz.func3
    (ChangeSpec.witness_shaped (enc := enc) (C := Tryz.checked) (os := os) (X := fun w _ => laidMetH Tryz.prog Rows.fnExactInsReadRow.laid w) false (World.laidAll Tryz.prog os Rows.fnExactInsReadRow.laid) #[.string ⟨#[]⟩] 8 (World.laidAll_os _ _ _) (World.shaped_of_ZipB (by kernel_rfl) (by kernel_rfl)) (by kernel_rfl) (by kernel_rfl) (by kernel_rfl) (door_met os _)) ?_
  intro W base args ds gs before hval0 hW hsz0 hL hSh
  have hsz : (DataW.weightsEach Tryz.prog (Tryz.f3.params.toList ++ Rows.fnExactInsReadSpec.plain.varTypes Tryz.prog) (ds ++ gs)).all (· ≤ reachBytes) = true := hsz0
  have hval : ∀ (j : Nat) t v, Tryz.f3.params[j]? = some t → args[j]? = some v → Value.okWide Tryz.prog W .any base t v := hval0
  have hW' := hW
  obtain ⟨p, q, hA0, hV, rfl, hfz, hnd⟩ := hW
  have hA : DataW.TrodAll enc Tryz.prog W 0 (fun _ => true) true Tryz.f3.params.toList args.toList ds p := hA0
  rw [Tryz.params3] at hA hval hsz
  obtain ⟨v0, vs0, d0, ds0, p0, q0, hargs, rfl, rfl, h0, r0⟩ := trodAll_cons hA
  obtain ⟨rfl, rfl, rfl⟩ := trodAll_nil r0
  obtain rfl : args = #[v0] := by cases args; simp_all
  have hgl : gs.length = 2 := (trodVars_len hV).trans rfl
  obtain ⟨g0, g1, rfl⟩ : ∃ g0 g1, gs = [g0, g1] := by
    match gs, hgl with
    | [g0, g1], _ => exact ⟨g0, g1, rfl⟩
  have k0 := h0
  have lt0 : ∀ x ∈ p0, x.block < W.heap.size := by obtain ⟨m, hm⟩ := k0; exact DataW.trod_lt m _ _ _ hm
  obtain ⟨a0, rfl, rfl, rfl, hs0⟩ := open_string Tryz.underlying9 (hval 0 9 v0 rfl rfl) h0
  clear hA0 hval0
  have hlim0 : a0.size ≤ 281474976710656 := by
    have h1 := sized_string hsz (j := 0) (t := 9) rfl rfl
    have h2 := reachBytes_lt
    have e1 : a0.size = a0.data.size := rfl
    have e2 : a0.data.toList.length = a0.data.size := Array.length_toList
    have e3 : (2 : Nat) ^ 47 = 140737488355328 := by decide
    omega
  rw [MakeChecks.laidMetH_plain _ _ _ (by kernel_rfl)] at hL
  refine (walk a0 hlim0 W  hL hSh).mono fun e W' ⟨he, hnx⟩ => ?_
  subst he
  exact ⟨_, rfl, _, _, _, [], _, q, hW', trodAll_cons_mk (shut_bool Tryz.underlying4 _) trodAll_mk0, (trodAll_cons_mk (Below.trod laidOut (by kernel_rfl) (of_decide_eq_true (by kernel_rfl)) k0 hnx lt0) trodAll_mk0), hnx.trodVars laidOut (by kernel_rfl) hV, hnx.frame _, fun h => by cases h⟩

theorem over : Rows.fnExactInsReadRow.holds Tryz.pinned (OpenSpec.ofChange Rows.fnExactInsReadSpec) :=
  OpenClaim.holds_of_wide 3 Tryz.f3 rfl rfl rfl rfl rfl rfl rfl ⟨rfl, rfl, rfl, rfl, rfl⟩ rfl rfl rfl rfl rfl (by kernel_rfl) Tryz.func3 (by kernel_rfl)
    (of_decide_eq_true (by kernel_rfl)) (by unfold Func.isWrapper; first | (rw [if_pos (by decide +kernel)]; kernel_rfl) | (rw [if_neg (by decide +kernel)]; exact ⟨rfl, rfl⟩))
    (fun os started H enc _ => lifted os started H enc)

theorem proved : Rows.FnExactInsReadCardSaid :=
  Claim7.holds_tied_plain_at .later [] [.data, .data, .data, .data, .sentinel, .sentinel, .data, .data, .pinned] true (true, "7ecd541ed7763673863ae11af1a8732b64f68800900119b7b97bad5dcd442435") true
    over (fun _ h => by cases h) (by kernel_rfl) (fun _ h => by cases h) fnExactInsRead_row_tie rfl ⟨rfl, rfl⟩ (by kernel_rfl) rfl
    (fun f fn hf hfn => by
      obtain rfl : f = 3 := Option.some.inj ((show Tryz.prog.funcNamed "loop.example/latimer/laws.FnExactInsRead" = some 3 by kernel_rfl).symm.trans hf) |>.symm
      obtain rfl : fn = Tryz.f3 := (Option.some.inj (Tryz.func3.symm.trans hfn)).symm
      exact ⟨by kernel_rfl, fun j t ht => by
        rw [Tryz.params3] at ht
        have hm : t ∈ [9] := by simpa using Array.mem_of_getElem? ht
        have hall : ([9].all fun u => !Tryz.prog.wantsStandIn u) = true := by kernel_rfl
        exact (show Tryz.prog.wantsStandIn t = false by simpa using List.all_eq_true.1 hall t hm)⟩)
    (by kernel_rfl)
#print axioms proved
end Go.Proofs.YthpajjlhjfhdpabGreatDoor.fnExactInsRead
