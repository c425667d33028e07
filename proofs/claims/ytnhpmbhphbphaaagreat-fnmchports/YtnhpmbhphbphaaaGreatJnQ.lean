/-
  The program's instructionAt: what the word at a machine's place says, or how the machine stands still.
-/
import Derived.Test.YtnhpmbhphbphaaaGreatMchCC
import Derived.Test.YtnhpmbhphbphaaaGreatJnF
import Derived.Test.YtnhpmbhphbphaaaGreatMchZ
import Derived.WalkSmall
import Derived.Test.YtnhpmbhphbphaaaGreatMchV
namespace Go.Proofs.YtnhpmbhphbphaaaGreat.MchI
set_option linter.unusedSimpArgs false
set_option linter.unusedVariables false
open Go.ChangeShapes Go.WideShapes Go.ChangeAt Go.RowKit IntS Mch
set_option maxRecDepth 8000 in
set_option maxHeartbeats 4000000 in
theorem at_place (m : M) (c : List Value) (w : World) (h : RMach w c m) (hp : 64 ≤ m.pc) :
    Calls Tryz.prog 56 #[.agg c.toArray] w fun e w' => e = .panicked [{ v := .iface 64 (.int .i64 4), recovered := false }] ∧ Below w.heap.size w w' := by
  obtain ⟨r, e, i, o, b1, b2, b3, b4, rfl, h1, h2, h3, h4⟩ := h
  clear h1 h2 h3 h4
  obtain ⟨regs, pc, mem, save, lets, waits, halt, ins, outs, count⟩ := m
  simp only [mv] at *
  have bV : Below w.heap.size w (w.alloc (.cells #[r, .int .i64 pc, e, .int .i64 save, .bool lets, .bool waits, .int .i64 halt, i, o, .int .i64 count] 25)) := (Below.refl _ _).alloc (Nat.le_refl _) _
  have N := hide (Box.new w [r, .int .i64 pc, e, .int .i64 save, .bool lets, .bool waits, .int .i64 halt, i, o, .int .i64 count] 25)
  have BV := hide bV
  clear bV
  go_enter Tryz.func56, Tryz.ntmps56
  go_wp2
  exact ⟨rfl, rfl, (BV.out.alloc BV.out.size _)⟩
set_option maxRecDepth 8000 in
set_option maxHeartbeats 4000000 in
theorem at_no (mem : List Int) (t : Nat) (save halt count : Int) (lets waits : Bool) (r i o : Value) (b2 o2 k2 : Nat) (w : World) (h : WRow w b2 (.slice (some ⟨b2, o2, none⟩) mem.length k2) mem) (ht : t < 64) (hl : mem.length = 64) (v : Int) (hv : mem[t]? = some v) (tk : Ins.takeB v = false) :
    Calls Tryz.prog 56 #[.agg #[r, .int .i64 (t : Nat), .slice (some ⟨b2, o2, none⟩) mem.length k2, .int .i64 save, .bool lets, .bool waits, .int .i64 halt, i, o, .int .i64 count]] w fun e w' => e = .panicked [{ v := .iface 64 (.int .i64 2), recovered := false }] ∧ Below w.heap.size w w' := by
  have bV : Below w.heap.size w ((w.alloc (.cells #[r, .int .i64 (t : Nat), .slice (some ⟨b2, o2, none⟩) mem.length k2, .int .i64 save, .bool lets, .bool waits, .int .i64 halt, i, o, .int .i64 count] 25)).alloc (.cells #[.int .i64 0, .int .i64 0, .int .i64 0, .int .i64 0] 38)) := ((Below.refl _ _).alloc (Nat.le_refl _) _).alloc (by simp) _
  have tm : ((t : Nat) : Int) < (mem.length : Int) := by rw [hl]; omega
  obtain ⟨cv, _⟩ := row_at (h.below bV) hv
  have BV := hide bV
  have R0 := Box.new (w.alloc (.cells #[r, .int .i64 (t : Nat), .slice (some ⟨b2, o2, none⟩) mem.length k2, .int .i64 save, .bool lets, .bool waits, .int .i64 halt, i, o, .int .i64 count] 25)) [.int .i64 0, .int .i64 0, .int .i64 0, .int .i64 0] 38
  rw [show (w.alloc (.cells #[r, .int .i64 (t : Nat), .slice (some ⟨b2, o2, none⟩) mem.length k2, .int .i64 save, .bool lets, .bool waits, .int .i64 halt, i, o, .int .i64 count] 25)).heap.size = w.heap.size + 1 by simp] at R0
  have R := hide R0
  have h64 : ¬ (64 ≤ ((t : Nat) : Int)) := by omega
  have ET : Hid (Ins.takeC v = #[.int .i64 0, .int .i64 0, .int .i64 0, .int .i64 0]) := show _ = _ by unfold Ins.takeC; rw [tk]; rfl
  have TK : Hid (Ins.takeB v = false) := tk
  clear bV hv hl h R0 tk
  go_enter Tryz.func56, Tryz.ntmps56
  go_wp2_with fail
  refine (InsI.insTake v _).mono ?_
  rintro e u ⟨rfl, hb⟩
  rw [ET.out, TK.out]
  have BU := hide (BV.out.trans (hb.mono BV.out.size))
  have RU := hide ((R.out.below hb).alloc (.cells #[.int .i64 0, .int .i64 0, .int .i64 0, .int .i64 0] 38))
  clear hb BV cv h64 tm R ET TK
  go_wp2
  exact ⟨rfl, rfl, BU.out.alloc BU.out.size _⟩
set_option maxRecDepth 8000 in
set_option maxHeartbeats 4000000 in
theorem at_yes (mem : List Int) (t : Nat) (save halt count : Int) (lets waits : Bool) (r i o : Value) (b2 o2 k2 : Nat) (w : World) (h : WRow w b2 (.slice (some ⟨b2, o2, none⟩) mem.length k2) mem) (ht : t < 64) (hl : mem.length = 64) (v : Int) (hv : mem[t]? = some v) (tk : Ins.takeB v = true) :
    Calls Tryz.prog 56 #[.agg #[r, .int .i64 (t : Nat), .slice (some ⟨b2, o2, none⟩) mem.length k2, .int .i64 save, .bool lets, .bool waits, .int .i64 halt, i, o, .int .i64 count]] w fun e w' => e = .returned (.agg #[.int .i64 (v / 4096), .int .i64 (v / 1024 % 4), .int .i64 (v / 256 % 4), .int .i64 (v % 256)]) ∧ Below w.heap.size w w' := by
  have bV : Below w.heap.size w ((w.alloc (.cells #[r, .int .i64 (t : Nat), .slice (some ⟨b2, o2, none⟩) mem.length k2, .int .i64 save, .bool lets, .bool waits, .int .i64 halt, i, o, .int .i64 count] 25)).alloc (.cells #[.int .i64 0, .int .i64 0, .int .i64 0, .int .i64 0] 38)) := ((Below.refl _ _).alloc (Nat.le_refl _) _).alloc (by simp) _
  have tm : ((t : Nat) : Int) < (mem.length : Int) := by rw [hl]; omega
  obtain ⟨cv, _⟩ := row_at (h.below bV) hv
  have BV := hide bV
  have R0 := Box.new (w.alloc (.cells #[r, .int .i64 (t : Nat), .slice (some ⟨b2, o2, none⟩) mem.length k2, .int .i64 save, .bool lets, .bool waits, .int .i64 halt, i, o, .int .i64 count] 25)) [.int .i64 0, .int .i64 0, .int .i64 0, .int .i64 0] 38
  rw [show (w.alloc (.cells #[r, .int .i64 (t : Nat), .slice (some ⟨b2, o2, none⟩) mem.length k2, .int .i64 save, .bool lets, .bool waits, .int .i64 halt, i, o, .int .i64 count] 25)).heap.size = w.heap.size + 1 by simp] at R0
  have R := hide R0
  have h64 : ¬ (64 ≤ ((t : Nat) : Int)) := by omega
  have ET : Hid (Ins.takeC v = #[.int .i64 (v / 4096), .int .i64 (v / 1024 % 4), .int .i64 (v / 256 % 4), .int .i64 (v % 256)]) := show _ = _ by unfold Ins.takeC; rw [tk]; rfl
  have TK : Hid (Ins.takeB v = true) := tk
  clear bV hv hl h R0 tk
  go_enter Tryz.func56, Tryz.ntmps56
  go_wp2_with fail
  refine (InsI.insTake v _).mono ?_
  rintro e u ⟨rfl, hb⟩
  rw [ET.out, TK.out]
  have BU := hide (BV.out.trans (hb.mono BV.out.size))
  have RU := hide ((R.out.below hb).alloc (.cells #[.int .i64 (v / 4096), .int .i64 (v / 1024 % 4), .int .i64 (v / 256 % 4), .int .i64 (v % 256)] 38))
  clear hb BV cv h64 tm R ET TK
  have I := hide (Box.new u [.int .i64 (v / 4096), .int .i64 (v / 1024 % 4), .int .i64 (v / 256 % 4), .int .i64 (v % 256)] 38)
  have r0 := RU.out.r.cell 0 _ rfl
  have r1 := RU.out.r.cell 1 _ rfl
  have r2 := RU.out.r.cell 2 _ rfl
  have r3 := RU.out.r.cell 3 _ rfl
  have s0 := RU.out.r.soft 0
  have s1 := RU.out.r.soft 1
  have s2 := RU.out.r.soft 2
  have s3 := RU.out.r.soft 3
  go_wp2
  have F0 := RU.out.set 0 (.int .i64 (v / 4096)) (by simp) rfl
  have F1 := F0.set 1 (.int .i64 (v / 1024 % 4)) (by simp) rfl
  have F2 := F1.set 2 (.int .i64 (v / 256 % 4)) (by simp) rfl
  have F3 := F2.set 3 (.int .i64 (v % 256)) (by simp) rfl
  have z0 := F3.r.cell 0 _ rfl
  have z1 := F3.r.cell 1 _ rfl
  have z2 := F3.r.cell 2 _ rfl
  have z3 := F3.r.cell 3 _ rfl
  have BT := hide (((((BU.out.alloc BU.out.size (.cells #[.int .i64 (v / 4096), .int .i64 (v / 1024 % 4), .int .i64 (v / 256 % 4), .int .i64 (v % 256)] 38)).setCell (p := ⟨w.heap.size + 1, 0, none⟩) (by simp) (.int .i64 (v / 4096))).setCell (p := ⟨w.heap.size + 1, 1, none⟩) (by simp) (.int .i64 (v / 1024 % 4))).setCell (p := ⟨w.heap.size + 1, 2, none⟩) (by simp) (.int .i64 (v / 256 % 4))).setCell (p := ⟨w.heap.size + 1, 3, none⟩) (by simp) (.int .i64 (v % 256)))
  clear F0 F1 F2 F3 RU r0 r1 r2 r3 s0 s1 s2 s3 I BU
  exact bodyPost_ret (v := .agg #[.int .i64 (v / 4096), .int .i64 (v / 1024 % 4), .int .i64 (v / 256 % 4), .int .i64 (v % 256)]) (by simp [results, Tryz.results56, go_sem, z0, z1, z2, z3]) rfl ⟨rfl, BT.out⟩
end Go.Proofs.YtnhpmbhphbphaaaGreat.MchI
namespace Go.Proofs.YtnhpmbhphbphaaaGreat.MchI
open Go.ChangeShapes Go.WideShapes Go.ChangeAt Go.RowKit IntS Mch
/-- What a deed needs of the world. -/
structure Stage (A : Nat → Prop) (Z c3 c4 c5 c6 c7 c11 c12 : Nat) (m : M) (w : World) : Prop where
  pm : PM A w Z m
  cs : ∀ p ∈ [(c3, (1 : Int)), (c4, 2), (c5, 3), (c6, 4), (c7, 5), (c11, 1), (c12, 2)], w.cell? ⟨p.1, 0, none⟩ = some (.int .i64 p.2) ∧ ¬ A p.1
  fr : ∀ j, w.heap.size ≤ j → A j
theorem deed_15 (A : Nat → Prop) (Z : Nat) (m : M) (d a : Nat) (k : Int) (w : World) (h : PM A w Z m) (hf : Fit m) (hd : d < 4) (ha : a < 4) :
    Calls Tryz.prog 71 #[.pointer (some ⟨Z, 0, none⟩), .agg #[.int .i64 15, .int .i64 d, .int .i64 a, .int .i64 k]] w (Deed A Z w (doM m 15 d a k)) := by
  obtain ⟨b1, o1, k1, b2, o2, k2, b3, o3, K3, b4, k4, hB, hR⟩ := id h
  have key : ∀ b1 o1 k1 b2 o2 k2 b3 o3 k3 b4 k4, Box Z 25 (mv m (.slice (some ⟨b1, o1, none⟩) m.regs.length k1) (.slice (some ⟨b2, o2, none⟩) m.mem.length k2) (.slice (some ⟨b3, o3, none⟩) m.ins.length k3) (.slice (some ⟨b4, 0, none⟩) m.outs.length k4)) w → k3 = K3 := by
    intro b1 o1 k1 b2 o2 k2 b3 o3 k3 b4 k4 hB'
    have e1 := hB.r.cell 7 _ rfl
    have e2 := hB'.r.cell 7 _ rfl
    rw [e1] at e2
    simp only [Option.some.injEq, Value.slice.injEq] at e2
    exact e2.2.2.symm
  match he : m.ins with
  | [] => exact deed_15none A Z m d a k w h hf hd ha he
  | x0 :: r =>
    by_cases hk : K3 = 1
    · have hr : r = [] := by
        have hc := (ins_cap hR.1).1
        rw [he, hk] at hc
        exact List.length_eq_zero_iff.1 (by simp only [List.length_cons] at hc; omega)
      subst hr
      exact deed_15one A Z m d a k w h hf hd ha x0 he (fun b1 o1 k1 b2 o2 k2 b3 o3 k3 b4 k4 hb => (key _ _ _ _ _ _ _ _ _ _ _ hb).trans hk)
    · exact deed_15more A Z m d a k w h hf hd ha x0 r he (fun b1 o1 k1 b2 o2 k2 b3 o3 k3 b4 k4 hb e => hk ((key _ _ _ _ _ _ _ _ _ _ _ hb).symm.trans e))
theorem dispatch (A : Nat → Prop) (Z c3 c4 c5 c6 c7 c11 c12 : Nat) (m : M) (op d a k : Int) (hf : Fit m) (hs : 0 ≤ m.save ∧ m.save < 65536) (hl9 : m.outs.length ≤ 1000000000) (hok : Ins.okB op d a k = true) :
    ∃ n f : Nat, op = n ∧ (((deedsOf c3 c4 c5 c6 c7 c11 c12)[n]? = some (fn f) ∧ ∀ w, Stage A Z c3 c4 c5 c6 c7 c11 c12 m w → Calls Tryz.prog f #[.pointer (some ⟨Z, 0, none⟩), .agg #[.int .i64 op, .int .i64 d, .int .i64 a, .int .i64 k]] w (Deed A Z w (doM m op d.toNat a.toNat k))) ∨
      ∃ g, (deedsOf c3 c4 c5 c6 c7 c11 c12)[n]? = some (clo f g) ∧ ∀ w, Stage A Z c3 c4 c5 c6 c7 c11 c12 m w → Calls Tryz.prog f #[.pointer (some ⟨Z, 0, none⟩), .agg #[.int .i64 op, .int .i64 d, .int .i64 a, .int .i64 k], .pointer (some ⟨g, 0, none⟩)] w (Deed A Z w (doM m op d.toNat a.toNat k))) := by
  obtain ⟨⟨op0, op1⟩, ⟨d0, d1⟩, ⟨a0, a1⟩, ⟨k0, k1⟩, hform⟩ := ok_parts hok
  clear hok
  obtain ⟨d, rfl⟩ : ∃ n : Nat, d = n := ⟨d.toNat, (Int.toNat_of_nonneg d0).symm⟩
  obtain ⟨a, rfl⟩ : ∃ n : Nat, a = n := ⟨a.toNat, (Int.toNat_of_nonneg a0).symm⟩
  rw [Int.toNat_natCast, Int.toNat_natCast]
  have hd : d < 4 := by omega
  have ha : a < 4 := by omega
  obtain rfl | rfl | rfl | rfl | rfl | rfl | rfl | rfl | rfl | rfl | rfl | rfl | rfl | rfl | rfl | rfl : op = 0 ∨ op = 1 ∨ op = 2 ∨ op = 3 ∨ op = 4 ∨ op = 5 ∨ op = 6 ∨ op = 7 ∨ op = 8 ∨ op = 9 ∨ op = 10 ∨ op = 11 ∨ op = 12 ∨ op = 13 ∨ op = 14 ∨ op = 15 := by omega
  · refine ⟨0, _, rfl, Or.inl ⟨rfl, fun w s => ?_⟩⟩
    have k3 := form_stop hform
    obtain rfl | rfl | rfl | rfl : k = 0 ∨ k = 1 ∨ k = 2 ∨ k = 3 := by omega
    · exact deed_00 A Z m d a w s.pm hf
    · exact deed_01 A Z m d a w s.pm hf hs
    · exact deed_02 A Z m d a w s.pm hf hs
    · exact deed_03 A Z m d a w s.pm hf hs
  · refine ⟨1, _, rfl, Or.inl ⟨rfl, fun w s => ?_⟩⟩
    exact deed_1 A Z m d a k w s.pm hf hd ha
  · refine ⟨2, _, rfl, Or.inl ⟨rfl, fun w s => ?_⟩⟩
    exact deed_2 A Z m d a k w s.pm hf hd ha
  · refine ⟨3, _, rfl, Or.inr ⟨c3, rfl, fun w s => ?_⟩⟩
    have k3 := form_reck (by decide) (by decide) hform
    obtain ⟨k, rfl⟩ : ∃ n : Nat, k = n := ⟨k.toNat, (Int.toNat_of_nonneg k0).symm⟩
    obtain ⟨h1, h2⟩ := s.cs (c3, 1) (by simp)
    exact deed_reck A Z m d a k w s.pm hf hd ha (by omega) 1 (by omega) c3 h2 h1
  · refine ⟨4, _, rfl, Or.inr ⟨c4, rfl, fun w s => ?_⟩⟩
    have k3 := form_reck (by decide) (by decide) hform
    obtain ⟨k, rfl⟩ : ∃ n : Nat, k = n := ⟨k.toNat, (Int.toNat_of_nonneg k0).symm⟩
    obtain ⟨h1, h2⟩ := s.cs (c4, 2) (by simp)
    exact deed_reck A Z m d a k w s.pm hf hd ha (by omega) 2 (by omega) c4 h2 h1
  · refine ⟨5, _, rfl, Or.inr ⟨c5, rfl, fun w s => ?_⟩⟩
    have k3 := form_reck (by decide) (by decide) hform
    obtain ⟨k, rfl⟩ : ∃ n : Nat, k = n := ⟨k.toNat, (Int.toNat_of_nonneg k0).symm⟩
    obtain ⟨h1, h2⟩ := s.cs (c5, 3) (by simp)
    exact deed_reck A Z m d a k w s.pm hf hd ha (by omega) 3 (by omega) c5 h2 h1
  · refine ⟨6, _, rfl, Or.inr ⟨c6, rfl, fun w s => ?_⟩⟩
    have k3 := form_reck (by decide) (by decide) hform
    obtain ⟨k, rfl⟩ : ∃ n : Nat, k = n := ⟨k.toNat, (Int.toNat_of_nonneg k0).symm⟩
    obtain ⟨h1, h2⟩ := s.cs (c6, 4) (by simp)
    exact deed_reck A Z m d a k w s.pm hf hd ha (by omega) 4 (by omega) c6 h2 h1
  · refine ⟨7, _, rfl, Or.inr ⟨c7, rfl, fun w s => ?_⟩⟩
    have k3 := form_reck (by decide) (by decide) hform
    obtain ⟨k, rfl⟩ : ∃ n : Nat, k = n := ⟨k.toNat, (Int.toNat_of_nonneg k0).symm⟩
    obtain ⟨h1, h2⟩ := s.cs (c7, 5) (by simp)
    exact deed_reck A Z m d a k w s.pm hf hd ha (by omega) 5 (by omega) c7 h2 h1
  · refine ⟨8, _, rfl, Or.inl ⟨rfl, fun w s => ?_⟩⟩
    have k3 := form_shift hform
    obtain ⟨k, rfl⟩ : ∃ n : Nat, k = n := ⟨k.toNat, (Int.toNat_of_nonneg k0).symm⟩
    exact deed_8 A Z m d a k w s.pm hf hd ha (by omega)
  · refine ⟨9, _, rfl, Or.inl ⟨rfl, fun w s => ?_⟩⟩
    by_cases hn : 64 ≤ (m.regs.getD a 0 + k) % 65536
    · exact deed_9no A Z m d a k w s.pm hf hd ha k0 k1 hn
    · exact deed_9yes A Z m d a k w s.pm hf hd ha k0 k1 hn
  · refine ⟨10, _, rfl, Or.inl ⟨rfl, fun w s => ?_⟩⟩
    by_cases hn : 64 ≤ (m.regs.getD a 0 + k) % 65536
    · exact deed_10no A Z m d a k w s.pm hf hd ha k0 k1 hn
    · exact deed_10yes A Z m d a k w s.pm hf hd ha k0 k1 hn
  · refine ⟨11, _, rfl, Or.inr ⟨c11, rfl, fun w s => ?_⟩⟩
    obtain ⟨h1, h2⟩ := s.cs (c11, 1) (by simp)
    exact deed_ask A Z m d a k w s.pm hf hd ha k0 k1 1 (by omega) c11 h1
  · refine ⟨12, _, rfl, Or.inr ⟨c12, rfl, fun w s => ?_⟩⟩
    obtain ⟨h1, h2⟩ := s.cs (c12, 2) (by simp)
    exact deed_ask A Z m d a k w s.pm hf hd ha k0 k1 2 (by omega) c12 h1
  · refine ⟨13, _, rfl, Or.inl ⟨rfl, fun w s => ?_⟩⟩
    exact deed_13 A Z m d a k w s.pm hf hd ha
  · refine ⟨14, _, rfl, Or.inl ⟨rfl, fun w s => ?_⟩⟩
    exact deed_14 A Z m d a k w s.pm hf hd ha s.fr hl9
  · refine ⟨15, _, rfl, Or.inl ⟨rfl, fun w s => ?_⟩⟩
    exact deed_15 A Z m d a k w s.pm hf hd ha
end Go.Proofs.YtnhpmbhphbphaaaGreat.MchI
