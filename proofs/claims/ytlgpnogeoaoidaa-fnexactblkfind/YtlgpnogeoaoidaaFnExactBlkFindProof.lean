/-
  At every machine the program's BlkFind answers as the specification's BlkFind does; it writes into no list of its argument, and its answer owns its memory (the law FnExactBlkFind returns true); no condition.
  The frame (lifted, over, proved) is written by my own program after the guide's worked texts; the walk and the lemmas ahead of it are mine.
-/
import Derived.Test.YtlgpnogeoaoidaaRows
import Derived.Test.YtlgpnogeoaoidaaShape
import Derived.Test.YtlgpnogeoaoidaaMchH
import Derived.Test.YtlgpnogeoaoidaaMchK
import Derived.Test.YtlgpnogeoaoidaaBlkCp
import Derived.Test.YtlgpnogeoaoidaaPhaseIn
import Derived.WalkKit
import Derived.ProofKit
import Derived.OpenShut
import Derived.ShutString
import Derived.ChangeOld
import Derived.Below
import Derived.SizedLaws
namespace Go.Proofs.Ytlgpnogeoaoidaa.fnExactBlkFind
open Go.ChangeShapes Go.WideShapes Go.ChangeAt Go.RowKit
open Go.ChangeMaps (open_string shut_string)
set_option linter.unusedVariables false

theorem own : ownKnob Try.prog.godebug = none := by kernel_rfl
theorem laidOut : laidOutB Try.prog = true := by kernel_rfl

open IntS Flat InsS Blk
open Mch (M Rec RMach WMach BMach okM mv Small Wide total toMch eqMch szMch markMchK)
set_option linter.unusedSimpArgs false
theorem total_pos (m : M) : 0 ≤ total m := by unfold total; omega
theorem ten_forms {w : World} {lo hi : Nat} {c : List Value} {m : M} (h : BMach w lo hi c m) : ∃ q1 q2 q3 q4 n1 n2 n3 n4 k1 k2 k3 k4, c = mv m (.slice q1 n1 k1) (.slice q2 n2 k2) (.slice q3 n3 k3) (.slice q4 n4 k4) := by
  obtain ⟨r, e, i, o, b1, b2, b3, b4, hc, h1, h2, h3, h4, _⟩ := h
  obtain ⟨q1, k1, _, rfl, _⟩ := h1
  obtain ⟨q2, k2, _, rfl, _⟩ := h2
  obtain ⟨q3, k3, _, rfl, _⟩ := h3
  obtain ⟨q4, k4, _, rfl, _⟩ := h4
  exact ⟨q1, q2, q3, q4, _, _, _, _, k1, k2, k3, k4, hc⟩
theorem small_wide {m : M} (h : Small m) : Wide m := ⟨Nat.le_trans h.1 (by omega), Nat.le_trans h.2.1 (by omega), Nat.le_trans h.2.2.1 (by omega), Nat.le_trans h.2.2.2 (by omega)⟩
theorem own_keep {t : TypeId} {c : Nat} {w w' : World} {lo : Nat} {q : Option Addr} {n cap : Nat} {fs : List Int} {S : Nat → Prop} (h : OwnF t c w lo (.slice q n cap) n fs) (hk : Mch.Keep S w w') (hS : ∀ G, q = some ⟨G, 0, none⟩ → ¬ S G) : OwnF t c w' lo (.slice q n cap) n fs := by
  obtain ⟨h1, h0 | ⟨g, cap', cur, hv, hb, hh, rest⟩⟩ := h
  · exact ⟨h1, Or.inl h0⟩
  · have hg : g < w.heap.size := by rcases Nat.lt_or_ge g w.heap.size with h' | h'; exact h'; rw [Array.getElem?_eq_none h'] at hh; cases hh
    cases hv
    exact ⟨h1, Or.inr ⟨g, cap, cur, rfl, hb, (hk.block g hg (hS g rfl)).trans hh, rest⟩⟩

set_option maxRecDepth 8000 in
set_option maxHeartbeats 8000000 in
theorem walk (a0 : Array Value) (w : World) (w0 : Shape.Holds Try.prog w 9 24 a0.toList)  :
    Calls Try.prog 4 #[.agg a0] w fun e w' => e = .returned (.bool true) ∧ Below w.heap.size w w' := by
  obtain ⟨l, m0, rfl, hm⟩ := Mch.of_holds w0
  obtain ⟨r, e, i, o, b1, b2, b3, b4, rfl, h1, h2, h3, h4⟩ := hm
  obtain ⟨regs, pc, mem, save, lets, waits, halt, ins, outs, count⟩ := m0
  have RM : Hid (RMach w [r, .int .i64 pc, e, .int .i64 save, .bool lets, .bool waits, .int .i64 halt, i, o, .int .i64 count] ⟨regs, pc, mem, save, lets, waits, halt, ins, outs, count⟩) := ⟨r, e, i, o, b1, b2, b3, b4, rfl, h1, h2, h3, h4⟩
  obtain ⟨t1, j1, _, rfl, _⟩ := h1
  obtain ⟨t2, j2, _, rfl, _⟩ := h2
  obtain ⟨t3, j3, _, rfl, _⟩ := h3
  obtain ⟨t4, j4, _, rfl, _⟩ := h4
  simp only [Mch.mv] at *
  clear w0
  have TA := hide (Rec.new w [.slice t1 regs.length j1, .int .i64 pc, .slice t2 mem.length j2, .int .i64 save, .bool lets, .bool waits, .int .i64 halt, .slice t3 ins.length j3, .slice t4 outs.length j4, .int .i64 count] 24)
  have BW := hide ((Below.refl w.heap.size w).alloc (Nat.le_refl _) (.cells #[.slice t1 regs.length j1, .int .i64 pc, .slice t2 mem.length j2, .int .i64 save, .bool lets, .bool waits, .int .i64 halt, .slice t3 ins.length j3, .slice t4 outs.length j4, .int .i64 count] 24))
  go_enter Try.func4, Try.ntmps4
  go_wp2_with fail
  refine (szMch _ _ _ (RM.out.below BW.out)).mono ?_
  rintro e u0 ⟨n, rfl, n0, hs, hb⟩
  replace TA := hide (TA.out.below hb)
  replace BW := hide (BW.out.trans (hb.mono BW.out.size))
  clear hb
  by_cases hn : n < 0
  · clear TA
    go_wp2
    go_ret
    exact ⟨rfl, BW.out⟩
  have HS := hide (hs (by omega))
  clear hs
  obtain ⟨R, eR⟩ : ∃ R, findM ⟨regs, pc, mem, save, lets, waits, halt, ins, outs, count⟩ = R := ⟨_, rfl⟩
  have ER := hide eR
  have rb : R.length ≤ 8 := by rw [← eR]; exact findM_len _
  clear eR
  have ta0 := TA.out.cell 0 _ rfl
  have ta1 := TA.out.cell 1 _ rfl
  have ta2 := TA.out.cell 2 _ rfl
  have ta3 := TA.out.cell 3 _ rfl
  have ta4 := TA.out.cell 4 _ rfl
  have ta5 := TA.out.cell 5 _ rfl
  have ta6 := TA.out.cell 6 _ rfl
  have ta7 := TA.out.cell 7 _ rfl
  have ta8 := TA.out.cell 8 _ rfl
  have ta9 := TA.out.cell 9 _ rfl
  go_wp2_with fail
  refine (toMch _ _ _ (RM.out.below BW.out) HS.out).mono ?_
  rintro e u1 ⟨c1, rfl, M1, hb⟩
  clear ta0 ta1 ta2 ta3 ta4 ta5 ta6 ta7 ta8 ta9
  replace M1 := hide M1
  replace TA := hide (TA.out.below hb)
  replace BW := hide (BW.out.trans (hb.mono BW.out.size))
  clear hb
  go_wp2_with fail
  refine (specFind _ _ _ M1.out.read).mono ?_
  rintro e u2 ⟨qw, cw, rfl, OW, hb⟩
  rw [ER.out] at OW ⊢
  have SS : Hid (w.heap.size < u1.heap.size ∧ u1.heap.size ≤ u2.heap.size ∧ (∀ G, qw = some ⟨G, 0, none⟩ → G < u2.heap.size)) := ⟨TA.out.lt, hb.size, fun G e => (OW.q_lt e).2⟩
  have OWN := hide OW
  clear M1 OW
  replace TA := hide (TA.out.below hb)
  replace BW := hide (BW.out.trans (hb.mono BW.out.size))
  clear hb
  have ta0 := TA.out.cell 0 _ rfl
  have ta1 := TA.out.cell 1 _ rfl
  have ta2 := TA.out.cell 2 _ rfl
  have ta3 := TA.out.cell 3 _ rfl
  have ta4 := TA.out.cell 4 _ rfl
  have ta5 := TA.out.cell 5 _ rfl
  have ta6 := TA.out.cell 6 _ rfl
  have ta7 := TA.out.cell 7 _ rfl
  have ta8 := TA.out.cell 8 _ rfl
  have ta9 := TA.out.cell 9 _ rfl
  go_wp2_with fail
  refine (toMch _ _ _ (RM.out.below BW.out) HS.out).mono ?_
  rintro e u3 ⟨cx, rfl, MX, hb⟩
  clear ta0 ta1 ta2 ta3 ta4 ta5 ta6 ta7 ta8 ta9
  have S3 : Hid (u2.heap.size ≤ u3.heap.size) := hb.size
  replace MX := MX.bound
  obtain ⟨xq1, xq2, xq3, xq4, xn1, xn2, xn3, xn4, xk1, xk2, xk3, xk4, rfl⟩ := ten_forms MX
  simp only [mv] at MX ⊢
  replace MX := hide MX
  replace TA := hide (TA.out.below hb)
  replace OWN := hide (OWN.out.below hb)
  replace BW := hide (BW.out.trans (hb.mono BW.out.size))
  clear hb
  have hb : Below u3.heap.size u3 (u3.alloc (.cells #[.slice xq1 xn1 xk1, .int .i64 pc, .slice xq2 xn2 xk2, .int .i64 save, .bool lets, .bool waits, .int .i64 halt, .slice xq3 xn3 xk3, .slice xq4 xn4 xk4, .int .i64 count] 26)) := (Below.refl _ _).alloc (Nat.le_refl _) _
  have X := hide (Rec.new u3 [.slice xq1 xn1 xk1, .int .i64 pc, .slice xq2 xn2 xk2, .int .i64 save, .bool lets, .bool waits, .int .i64 halt, .slice xq3 xn3 xk3, .slice xq4 xn4 xk4, .int .i64 count] 26)
  have szX : Hid ((u3.alloc (.cells #[.slice xq1 xn1 xk1, .int .i64 pc, .slice xq2 xn2 xk2, .int .i64 save, .bool lets, .bool waits, .int .i64 halt, .slice xq3 xn3 xk3, .slice xq4 xn4 xk4, .int .i64 count] 26)).heap.size = u3.heap.size + 1) := show _ = _ by simp
  replace TA := hide (TA.out.below hb)
  replace OWN := hide (OWN.out.below hb)
  replace MX := hide (MX.out.below hb)
  replace BW := hide (BW.out.trans (hb.mono BW.out.size))
  clear hb
  have x0 := X.out.cell 0 _ rfl
  have x1 := X.out.cell 1 _ rfl
  have x2 := X.out.cell 2 _ rfl
  have x3 := X.out.cell 3 _ rfl
  have x4 := X.out.cell 4 _ rfl
  have x5 := X.out.cell 5 _ rfl
  have x6 := X.out.cell 6 _ rfl
  have x7 := X.out.cell 7 _ rfl
  have x8 := X.out.cell 8 _ rfl
  have x9 := X.out.cell 9 _ rfl
  go_wp2_with fail
  refine (implFind _ _ _ MX.out.write.read).mono ?_
  rintro e u4 ⟨qg, cg, rfl, OG, hb⟩
  rw [ER.out] at OG ⊢
  rw [szX.out] at OG
  have YY : Hid (u3.heap.size + 1 ≤ u4.heap.size ∧ (∀ G, qg = some ⟨G, 0, none⟩ → u3.heap.size + 1 ≤ G)) := ⟨by have := hb.size; rw [szX.out] at this; exact this, fun G e => (OG.q_lt e).1⟩
  have S9 : Hid (u3.heap.size + 1 ≤ u4.heap.size) := YY.out.1
  have OGN := hide OG
  clear OG
  clear x0 x1 x2 x3 x4 x5 x6 x7 x8 x9
  replace TA := hide (TA.out.below hb)
  replace OWN := hide (OWN.out.below hb)
  replace MX := hide (MX.out.below hb)
  replace X := hide (X.out.below hb)
  replace BW := hide (BW.out.trans (hb.mono BW.out.size))
  clear hb
  obtain ⟨BG, RG⟩ := OGN.out.frow
  replace RG := hide RG
  obtain ⟨BWW, RW⟩ := OWN.out.frow
  replace RW := hide RW
  go_wp2_with fail
  refine (eqInsInsS R BG BWW _ _ _ RG.out RW.out).mono ?_
  rintro e u5 ⟨rfl, hb⟩
  clear RG BG RW BWW
  replace S9 := hide (Nat.le_trans S9.out hb.size)
  replace TA := hide (TA.out.below hb)
  replace OWN := hide (OWN.out.below hb)
  replace MX := hide (MX.out.below hb)
  replace X := hide (X.out.below hb)
  replace OGN := hide (OGN.out.below hb)
  replace BW := hide (BW.out.trans (hb.mono BW.out.size))
  clear hb
  go_wp2_with fail
  refine (wpIn_wide (n := 0)).1 ?_
  refine PhaseIn.region (S := fun w' => Rec u3.heap.size [.slice xq1 xn1 xk1, .int .i64 pc, .slice xq2 xn2 xk2, .int .i64 save, .bool lets, .bool waits, .int .i64 halt, .slice xq3 xn3 xk3, .slice xq4 xn4 xk4, .int .i64 count] w' ∧ Rec w.heap.size [.slice t1 regs.length j1, .int .i64 pc, .slice t2 mem.length j2, .int .i64 save, .bool lets, .bool waits, .int .i64 halt, .slice t3 ins.length j3, .slice t4 outs.length j4, .int .i64 count] w') 5 (by kernel_rfl) ?_
  have hb : Below u5.heap.size u5 u5.drew := (Below.refl _ _).drew
  replace S9 := hide (Nat.le_trans S9.out hb.size)
  replace TA := hide (TA.out.below hb)
  replace OWN := hide (OWN.out.below hb)
  replace MX := hide (MX.out.below hb)
  replace X := hide (X.out.below hb)
  replace OGN := hide (OGN.out.below hb)
  replace BW := hide (BW.out.trans (hb.mono BW.out.size))
  clear hb
  generalize u5.drew = d5 at BW S9 TA OWN MX X OGN ⊢
  have hHeld := And.intro X.out TA.out
  refine PhaseIn.takeD (i := 0) (v := ?_) [0, 3, 4] 27 rfl (by rfl) (by kernel_rfl) (by kernel_rfl) (by kernel_rfl) (by kernel_rfl) (by kernel_rfl) (fun _ _ _ h => h) (Or.inl ⟨by kernel_rfl, ?_⟩) hHeld ?_
  rotate_left
  · intro w' hSw
    (try dsimp only at hSw)
    have z0 := hSw.1.cell 0 _ rfl; have z1 := hSw.1.cell 1 _ rfl; have z2 := hSw.1.cell 2 _ rfl; have z3 := hSw.1.cell 3 _ rfl; have z4 := hSw.1.cell 4 _ rfl; have z5 := hSw.1.cell 5 _ rfl; have z6 := hSw.1.cell 6 _ rfl; have z7 := hSw.1.cell 7 _ rfl; have z8 := hSw.1.cell 8 _ rfl; have z9 := hSw.1.cell 9 _ rfl
    go_simp
    first | done | with_reducible rfl
  try simp only [Act.put, List.setIfInBounds_toArray, List.set]
  refine PhaseIn.takeD (i := 1) (v := ?_) [1, 2, 3, 4] 28 rfl (by rfl) (by kernel_rfl) (by kernel_rfl) (by kernel_rfl) (by kernel_rfl) (by kernel_rfl) (fun _ _ _ h => h) (Or.inl ⟨by kernel_rfl, ?_⟩) hHeld ?_
  rotate_left
  · intro w' hSw
    (try dsimp only at hSw)
    have z0 := hSw.2.cell 0 _ rfl; have z1 := hSw.2.cell 1 _ rfl; have z2 := hSw.2.cell 2 _ rfl; have z3 := hSw.2.cell 3 _ rfl; have z4 := hSw.2.cell 4 _ rfl; have z5 := hSw.2.cell 5 _ rfl; have z6 := hSw.2.cell 6 _ rfl; have z7 := hSw.2.cell 7 _ rfl; have z8 := hSw.2.cell 8 _ rfl; have z9 := hSw.2.cell 9 _ rfl
    go_simp
    first | done | with_reducible rfl
  try simp only [Act.put, List.setIfInBounds_toArray, List.set]
  refine PhaseIn.one (i := 2) (by kernel_rfl) rfl (by kernel_rfl) (fun K hK => ?_)
  unfold Oper.wpIn
  refine ⟨fun _ _ => trivial, ?_⟩
  go_simp
  refine ⟨rfl, (callsIn_wide.2 (toMch _ _ _ (RM.out.below BW.out) HS.out)).mono ?_⟩
  rintro e u6 ⟨c6, rfl, M6, hb⟩
  have hHeld2 := And.intro (hHeld.1.below hb) (hHeld.2.below hb)
  refine hK _ _ (fun _ => hHeld2) ?_
  clear hK K hHeld
  replace M6 := hide M6
  replace S9 := hide (Nat.le_trans S9.out hb.size)
  replace TA := hide (TA.out.below hb)
  replace OWN := hide (OWN.out.below hb)
  replace MX := hide (MX.out.below hb)
  replace X := hide (X.out.below hb)
  replace OGN := hide (OGN.out.below hb)
  replace BW := hide (BW.out.trans (hb.mono BW.out.size))
  clear hb
  try simp only [Act.put, List.setIfInBounds_toArray, List.set]
  refine PhaseIn.one (i := 3) (by kernel_rfl) rfl (by kernel_rfl) (fun K hK => ?_)
  unfold Oper.wpIn
  refine ⟨fun _ _ => trivial, ?_⟩
  go_simp
  refine ⟨rfl, (callsIn_wide.2 (eqMch _ _ _ _ MX.out.write.read M6.out.read)).mono ?_⟩
  rintro e u7 ⟨rfl, hb⟩
  have hHeld := And.intro (hHeld2.1.below hb) (hHeld2.2.below hb)
  refine hK _ _ (fun _ => hHeld) ?_
  clear hK K hHeld2 M6
  replace S9 := hide (Nat.le_trans S9.out hb.size)
  replace TA := hide (TA.out.below hb)
  replace OWN := hide (OWN.out.below hb)
  replace MX := hide (MX.out.below hb)
  replace X := hide (X.out.below hb)
  replace OGN := hide (OGN.out.below hb)
  replace BW := hide (BW.out.trans (hb.mono BW.out.size))
  clear hb
  try simp only [Act.put, List.setIfInBounds_toArray, List.set]
  refine PhaseIn.takeD (i := 4) (v := ?_) [4] 31 rfl (by rfl) (by kernel_rfl) (by kernel_rfl) (by kernel_rfl) (by kernel_rfl) (by kernel_rfl) (fun _ _ _ h => h) (Or.inl ⟨by kernel_rfl, ?_⟩) hHeld ?_
  rotate_left
  · intro w' hSw
    (try dsimp only at hSw)
    go_simp
    first | done | with_reducible rfl
  try simp only [Act.put, List.setIfInBounds_toArray, List.set]
  refine PhaseIn.done (by kernel_rfl) ?_ _
  clear hHeld
  have x0 := X.out.cell 0 _ rfl
  have x1 := X.out.cell 1 _ rfl
  have x2 := X.out.cell 2 _ rfl
  have x3 := X.out.cell 3 _ rfl
  have x4 := X.out.cell 4 _ rfl
  have x5 := X.out.cell 5 _ rfl
  have x6 := X.out.cell 6 _ rfl
  have x7 := X.out.cell 7 _ rfl
  have x8 := X.out.cell 8 _ rfl
  have x9 := X.out.cell 9 _ rfl
  obtain ⟨tx, etx⟩ : ∃ tx, total ⟨regs, pc, mem, save, lets, waits, halt, ins, outs, count⟩ = tx := ⟨_, rfl⟩
  have txp : 0 ≤ tx := by rw [← etx]; exact total_pos _
  have ETX := hide etx
  clear etx
  go_wp2_with fail
  refine (markMchK _ 1 _ _ _ _ MX.out (by have := SS.out; have := S3.out; have := S9.out; omega) (small_wide HS.out) (by omega) (by omega)).mono ?_
  rintro e u8 ⟨rfl, -, hk⟩
  rw [ETX.out]
  clear MX X
  clear x0 x1 x2 x3 x4 x5 x6 x7 x8 x9
  replace OWN := hide (own_keep OWN.out hk (fun G e h => by have := SS.out.2.2 G e; omega))
  replace TA := hide (TA.out.keep hk (fun h => by have := SS.out; have := S3.out; omega))
  replace OGN := hide (own_keep OGN.out hk (fun G e h => by have := YY.out.2 G e; omega))
  replace BW := hide (BW.out.trans (hk.below BW.out.size (fun k h1 h2 => by have := SS.out; have := S3.out; omega)))
  replace S9 := hide (Nat.le_trans S9.out hk.size)
  clear hk
  have kk0 : ¬ (1 : Int) + tx < 0 := by omega
  obtain ⟨BG, RG⟩ := OGN.out.frow
  replace RG := hide RG
  obtain ⟨BWW, RW⟩ := OWN.out.frow
  replace RW := hide RW
  go_wp2_with fail
  refine (eqInsInsS R BG BWW _ _ _ RG.out RW.out).mono ?_
  rintro e u9 ⟨rfl, hb⟩
  clear RG BG RW BWW
  replace S9 := hide (Nat.le_trans S9.out hb.size)
  replace TA := hide (TA.out.below hb)
  replace OWN := hide (OWN.out.below hb)
  replace OGN := hide (OGN.out.below hb)
  replace BW := hide (BW.out.trans (hb.mono BW.out.size))
  clear hb
  clear kk0
  obtain ⟨gg, hMG, gl, gz⟩ := OGN.out.wrow u9.heap.size S9.out
  have MG := hide hMG
  have GG : Hid (u3.heap.size + 1 ≤ gg) := gl
  clear OGN hMG gl gz
  go_wp2_with fail
  refine (markInsInsS 1 R.length _ gg _ _ MG.out (by omega) (by omega) (by omega)).mono ?_
  rintro e u10 ⟨rfl, MM, ht⟩
  clear MG
  replace MM := hide MM
  replace TA := hide (TA.out.turn ht (by have := SS.out; have := S3.out; have := GG.out; omega))
  replace OWN := hide (OWN.out.apart ht (fun G e => by have := SS.out.2.2 G e; have := S3.out; have := GG.out; omega))
  replace BW := hide (BW.out.trans (ht.below (by have := SS.out; have := S3.out; have := GG.out; omega) BW.out.size))
  clear ht
  go_wp2_with fail
  refine (heldInsInsS 1 R.length gg _ _ MM.out.row (by omega) (by omega) (by omega)).mono ?_
  rintro e u11 ⟨rfl, hb⟩
  replace TA := hide (TA.out.below hb)
  replace OWN := hide (OWN.out.below hb)
  replace MM := hide (MM.out.below hb)
  replace BW := hide (BW.out.trans (hb.mono BW.out.size))
  clear hb
  have nn : ¬ (1 : Int) + (R.length : Int) * 4 < 0 := by omega
  have ne : ((1 : Int) + (R.length : Int) * 4 != 1 + (R.length : Int) * 4) = false := by simp
  have ta0 := TA.out.cell 0 _ rfl
  have ta1 := TA.out.cell 1 _ rfl
  have ta2 := TA.out.cell 2 _ rfl
  have ta3 := TA.out.cell 3 _ rfl
  have ta4 := TA.out.cell 4 _ rfl
  have ta5 := TA.out.cell 5 _ rfl
  have ta6 := TA.out.cell 6 _ rfl
  have ta7 := TA.out.cell 7 _ rfl
  have ta8 := TA.out.cell 8 _ rfl
  have ta9 := TA.out.cell 9 _ rfl
  go_wp2_with fail
  refine (toMch _ _ _ (RM.out.below BW.out) HS.out).mono ?_
  rintro e u12 ⟨c12, rfl, M9, hb⟩
  replace M9 := hide M9
  clear ta0 ta1 ta2 ta3 ta4 ta5 ta6 ta7 ta8 ta9
  clear TA
  replace OWN := hide (OWN.out.below hb)
  replace MM := hide (MM.out.below hb)
  replace BW := hide (BW.out.trans (hb.mono BW.out.size))
  clear hb
  go_wp2_with fail
  refine (implFind _ _ _ M9.out.read).mono ?_
  rintro e u13 ⟨qh, ch, rfl, OH, hb⟩
  rw [ER.out] at OH ⊢
  have OHN := hide OH
  clear M9 OH
  replace OWN := hide (OWN.out.below hb)
  replace MM := hide (MM.out.below hb)
  replace BW := hide (BW.out.trans (hb.mono BW.out.size))
  clear hb
  obtain ⟨BG, RG⟩ := OHN.out.frow
  replace RG := hide RG
  obtain ⟨BWW, RW⟩ := OWN.out.frow
  replace RW := hide RW
  go_wp2_with fail
  refine (eqInsInsS R BG BWW _ _ _ RG.out RW.out).mono ?_
  rintro e u14 ⟨rfl, hb⟩
  clear RG BG RW BWW
  replace MM := hide (MM.out.below hb)
  replace BW := hide (BW.out.trans (hb.mono BW.out.size))
  clear hb
  clear OHN OWN
  go_wp2_with fail
  refine (heldInsInsS 1 R.length gg _ _ MM.out.row (by omega) (by omega) (by omega)).mono ?_
  rintro e u15 ⟨rfl, hb⟩
  replace BW := hide (BW.out.trans (hb.mono BW.out.size))
  clear hb
  clear MM
  go_wp2
  go_ret
  exact ⟨rfl, BW.out⟩

set_option maxRecDepth 100000 in
theorem lifted (os : Os) (started : os.Started) (H : Type) (enc : TypeId × Value → H) :
    ReturnsInHanded {} Try.checked os 4 .any (Rows.fnExactBlkFindSpec.pre6 enc Try.prog Try.f4 Rows.fnExactBlkFindRow.domain false) (Rows.fnExactBlkFindSpec.post enc Try.prog Try.f4 false true false false) := by
  refine returnsInHanded_of_change (C := Try.checked) own started (by kernel_rfl) Try.func4
    (ChangeSpec.witness6 (enc := enc) (C := Try.checked) false ⟨#[], #[.agg #[.slice none 0 0, .int .i64 0, .slice none 0 0, .int .i64 0, .bool false, .bool false, .int .i64 0, .slice none 0 0, .slice none 0 0, .int .i64 0]], []⟩ 8 (by kernel_rfl) (by kernel_rfl) (by kernel_rfl) (by kernel_rfl)) ?_
  intro W base args ds gs before hval0 hW hcnd hsz0
  have hval : ∀ (j : Nat) t v, Try.f4.params[j]? = some t → args[j]? = some v → Value.okWide Try.prog W .any base t v := hval0
  have hW' := hW
  obtain ⟨p, q, hA0, hV, rfl, hfz, hnd⟩ := hW
  have hA : DataW.TrodAll enc Try.prog W 0 (fun _ => true) true Try.f4.params.toList args.toList ds p := hA0
  rw [Try.params4] at hA hval
  obtain ⟨v0, vs0, d0, ds0, p0, q0, hargs, rfl, rfl, h0, r0⟩ := trodAll_cons hA
  obtain ⟨rfl, rfl, rfl⟩ := trodAll_nil r0
  obtain rfl : args = #[v0] := by cases args; simp_all
  obtain ⟨rfl, rfl⟩ := trodVars_none hV
  have k0 := h0
  have lt0 : ∀ x ∈ p0, x.block < W.heap.size := by obtain ⟨m, hm⟩ := k0; exact DataW.trod_lt m _ _ _ hm
  obtain ⟨a0, rfl, _⟩ := okWide_struct Try.underlying24 (hval 0 24 v0 rfl rfl)
  have w0 : Shape.Holds Try.prog W 9 24 a0.toList := Shape.opened 9 h0
  clear hA0 hval0
  refine (walk a0 W w0).mono fun e W' ⟨he, hnx⟩ => ?_
  subst he
  exact ⟨_, rfl, _, _, _, [], _, [], hW', trodAll_cons_mk (shut_bool Try.underlying4 _) trodAll_mk0, (trodAll_cons_mk (Below.trod laidOut (by kernel_rfl) (of_decide_eq_true (by kernel_rfl)) k0 hnx lt0) trodAll_mk0), rfl, hnx.frame _, fun h => by cases h⟩

theorem over : Rows.fnExactBlkFindRow.holds Try.pinned (OpenSpec.ofChange Rows.fnExactBlkFindSpec) :=
  OpenClaim.holds_of_wide 4 Try.f4 rfl rfl rfl rfl rfl rfl rfl ⟨rfl, rfl, rfl, rfl, rfl⟩ rfl rfl rfl rfl rfl (by kernel_rfl) Try.func4 (by kernel_rfl)
    (of_decide_eq_true (by kernel_rfl)) (by unfold Func.isWrapper; first | (rw [if_pos (by decide +kernel)]; kernel_rfl) | (rw [if_neg (by decide +kernel)]; exact ⟨rfl, rfl⟩))
    (fun os started H enc _ => lifted os started H enc)

theorem proved : Rows.FnExactBlkFindSaid := over
#print axioms proved
end Go.Proofs.Ytlgpnogeoaoidaa.fnExactBlkFind
