/-
  At every place and list of instructions the program's BlkLower answers as the specification's BlkLower does, every field; it writes into no argument, and its answer owns its memory (the law FnExactBlkLower returns true); no condition.
  The frame (lifted, over, proved) is written by my own program after the guide's worked texts; the walk and the lemmas ahead of it are mine.
-/
import Derived.Test.YtfjlnocikldhjaaRows
import Derived.Test.YtfjlnocikldhjaaShape
import Derived.Test.YtfjlnocikldhjaaLwH
import Derived.WalkKit
import Derived.ProofKit
import Derived.OpenShut
import Derived.ShutString
import Derived.ChangeOld
import Derived.Below
import Derived.SizedLaws
namespace Go.Proofs.Ytfjlnocikldhjaa.fnExactBlkLower
open Go.ChangeShapes Go.WideShapes Go.ChangeAt Go.RowKit
open Go.ChangeMaps (open_string shut_string)
set_option linter.unusedVariables false

theorem own : ownKnob Try.prog.godebug = none := by kernel_rfl
theorem laidOut : laidOutB Try.prog = true := by kernel_rfl

open IntS Flat InsS Blk Lw
open Ir (Bk Opn RBk bv)
open Mch (Rec)
set_option linter.unusedSimpArgs false
theorem rbk_of {w : World} {lo c : Nat} {q : Option Addr} {b : Bk} (h : OwnO w lo (.slice q b.ops.length c) b.ops) : RBk w (bv b (.slice q b.ops.length c)) b := by
  obtain ⟨B, hB⟩ := h.frow
  exact ⟨q, c, B, rfl, orow_of hB⟩
theorem own_w {t : TypeId} {c : Nat} {w : World} {lo : Nat} {q : Option Addr} {n cap : Nat} {fs : List Int} (h : OwnF t c w lo (.slice q n cap) n fs) (N : Nat) : ∃ B, WFRow c w B (.slice q n cap) n fs ∧ (B = N ∨ q = some ⟨B, 0, none⟩) := by
  rcases h.form with ⟨e, rfl, rfl⟩ | ⟨g, cap', e, h1, h2, h3⟩
  · cases e
    exact ⟨N, ⟨none, 0, 0, rfl, Nat.le_refl _, by unfold maxLen; omega, fun _ => rfl, by simp, Or.inl rfl⟩, Or.inl rfl⟩
  · cases e
    exact ⟨g, h3, Or.inr rfl⟩

set_option maxRecDepth 8000 in
set_option maxHeartbeats 8000000 in
theorem walk (a0 : Int) (w0 : (Lit.int .i64 a0).wf = true) (a1 : Option Addr) (len1 cap1 : Nat) (w : World) (w1 : Shape.Holds Try.prog w 9 35 [.slice a1 len1 cap1])  :
    Calls Try.prog 5 #[.int .i64 a0, .slice a1 len1 cap1] w fun e w' => e = .returned (.bool true) ∧ Below w.heap.size w w' := by
  obtain ⟨v, is, B, hv, hP⟩ := InsS.ins_hold (n := 6) w1
  obtain rfl : Value.slice a1 len1 cap1 = v := by simpa using hv
  have RM := hide hP
  obtain ⟨a, cap, off, e, h2, h3, -, -, -⟩ := hP
  obtain ⟨rfl, rfl, rfl⟩ : a1 = a ∧ len1 = is.length ∧ cap1 = cap := by cases e; exact ⟨rfl, rfl, rfl⟩
  have H3 := hide h3
  clear w1 hv e h3
  obtain ⟨R, eR⟩ : ∃ R, lowB a0 is = R := ⟨_, rfl⟩
  have rb0 : R.ops.length ≤ 40 := by rw [← eR]; exact lowB_len _ _
  obtain ⟨rpc, rln, ros, ren, rx, ry, rk⟩ := R
  have ER := hide eR
  have rb : ros.length ≤ 40 := rb0
  clear eR rb0
  go_enter Try.func5, Try.ntmps5
  go_wp2_with fail
  refine (szInsInsS is.length cap1 a1 1048576 _ h2 H3.out (by omega) (by omega)).mono ?_
  rintro e u0 ⟨rfl, hw⟩
  rw [hw]
  clear hw u0 h2 H3
  by_cases hn : (1048576 : Int) < is.length
  · rw [if_pos hn]
    go_wp2
    go_ret
    exact ⟨rfl, Below.refl _ _⟩
  rw [if_neg hn]
  have hnn : ¬ 1048576 - (is.length : Int) < 0 := by omega
  have HS : Hid (is.length ≤ 1048576) := by show _ ≤ _; omega
  clear hn
  have BW : Hid (Below w.heap.size w w) := Below.refl _ _
  go_wp2_with fail
  refine (toInsInsS is B _ _ (RM.out.below BW.out) HS.out).mono ?_
  rintro e u1 ⟨g1, rfl, M1, -, -, hb⟩
  replace M1 := hide M1
  replace BW := hide (BW.out.trans (hb.mono BW.out.size))
  clear hb
  go_wp2_with fail
  refine (specLower a0 is g1 _ _ M1.out.row HS.out).mono ?_
  rintro e u2 ⟨qw, cw, rfl, OW, hb⟩
  rw [ER.out] at OW ⊢
  unfold bx
  simp only [] at OW ⊢
  have SS : Hid (w.heap.size ≤ u1.heap.size ∧ u1.heap.size ≤ u2.heap.size ∧ (∀ G, qw = some ⟨G, 0, none⟩ → G < u2.heap.size)) := ⟨BW.out.size, hb.size, fun G e => (OW.q_lt e).2⟩
  have OWN := hide OW
  clear M1 OW
  replace BW := hide (BW.out.trans (hb.mono BW.out.size))
  clear hb
  have hb : Below u2.heap.size u2 (u2.alloc (.cells #[.int .i64 rpc, .int .i64 rln, .slice qw ros.length cw, .int .i64 ren, .int .i64 rx, .int .i64 ry, .int .i64 rk] 42)) := (Below.refl _ _).alloc (Nat.le_refl _) _
  have Y := hide (Rec.new u2 [.int .i64 rpc, .int .i64 rln, .slice qw ros.length cw, .int .i64 ren, .int .i64 rx, .int .i64 ry, .int .i64 rk] 42)
  have szY : Hid ((u2.alloc (.cells #[.int .i64 rpc, .int .i64 rln, .slice qw ros.length cw, .int .i64 ren, .int .i64 rx, .int .i64 ry, .int .i64 rk] 42)).heap.size = u2.heap.size + 1) := show _ = _ by simp
  replace OWN := hide (OWN.out.below hb)
  replace BW := hide (BW.out.trans (hb.mono BW.out.size))
  clear hb
  go_wp2_with fail
  refine (toInsInsS is B _ _ (RM.out.below BW.out) HS.out).mono ?_
  rintro e u3 ⟨gx, rfl, MX, x1, x2, hb⟩
  rw [szY.out] at x1
  replace MX := hide MX
  have XX : Hid (u2.heap.size + 1 ≤ gx ∧ gx < u3.heap.size) := ⟨x1, x2⟩
  clear x1 x2
  replace OWN := hide (OWN.out.below hb)
  replace Y := hide (Y.out.below hb)
  replace BW := hide (BW.out.trans (hb.mono BW.out.size))
  clear hb
  go_wp2_with fail
  refine (implLower a0 is gx _ _ MX.out.row HS.out).mono ?_
  rintro e u4 ⟨qg, cg, rfl, OG, hb⟩
  rw [ER.out] at OG ⊢
  unfold bx
  simp only [] at OG ⊢
  have YY : Hid (u3.heap.size ≤ u4.heap.size ∧ (∀ G, qg = some ⟨G, 0, none⟩ → u3.heap.size ≤ G ∧ G < u4.heap.size)) := ⟨hb.size, fun G e => OG.q_lt e⟩
  have OGN := hide OG
  clear OG
  replace OWN := hide (OWN.out.below hb)
  replace Y := hide (Y.out.below hb)
  replace MX := hide (MX.out.below hb)
  replace BW := hide (BW.out.trans (hb.mono BW.out.size))
  clear hb
  have hb : Below u4.heap.size u4 (u4.alloc (.cells #[.int .i64 rpc, .int .i64 rln, .slice qg ros.length cg, .int .i64 ren, .int .i64 rx, .int .i64 ry, .int .i64 rk] 42)) := (Below.refl _ _).alloc (Nat.le_refl _) _
  have GB := hide (Rec.new u4 [.int .i64 rpc, .int .i64 rln, .slice qg ros.length cg, .int .i64 ren, .int .i64 rx, .int .i64 ry, .int .i64 rk] 42)
  have szGB : Hid ((u4.alloc (.cells #[.int .i64 rpc, .int .i64 rln, .slice qg ros.length cg, .int .i64 ren, .int .i64 rx, .int .i64 ry, .int .i64 rk] 42)).heap.size = u4.heap.size + 1) := show _ = _ by simp
  replace OWN := hide (OWN.out.below hb)
  replace Y := hide (Y.out.below hb)
  replace MX := hide (MX.out.below hb)
  replace OGN := hide (OGN.out.below hb)
  replace BW := hide (BW.out.trans (hb.mono BW.out.size))
  clear hb
  have S9 : Hid (u4.heap.size + 1 ≤ (u4.alloc (.cells #[.int .i64 rpc, .int .i64 rln, .slice qg ros.length cg, .int .i64 ren, .int .i64 rx, .int .i64 ry, .int .i64 rk] 42)).heap.size) := show _ ≤ _ by rw [szGB.out]; exact Nat.le_refl _
  have gc0 := GB.out.cell 0 _ rfl
  have gc1 := GB.out.cell 1 _ rfl
  have gc2 := GB.out.cell 2 _ rfl
  have gc3 := GB.out.cell 3 _ rfl
  have gc4 := GB.out.cell 4 _ rfl
  have gc5 := GB.out.cell 5 _ rfl
  have gc6 := GB.out.cell 6 _ rfl
  have yc0 := Y.out.cell 0 _ rfl
  have yc1 := Y.out.cell 1 _ rfl
  have yc2 := Y.out.cell 2 _ rfl
  have yc3 := Y.out.cell 3 _ rfl
  have yc4 := Y.out.cell 4 _ rfl
  have yc5 := Y.out.cell 5 _ rfl
  have yc6 := Y.out.cell 6 _ rfl
  have E1 := hide (rbk_of (b := ⟨rpc, rln, ros, ren, rx, ry, rk⟩) OGN.out)
  have E2 := hide (rbk_of (b := ⟨rpc, rln, ros, ren, rx, ry, rk⟩) OWN.out)
  go_wp2_with fail
  refine (Ir.eqIrBlock ⟨rpc, rln, ros, ren, rx, ry, rk⟩ _ _ _ E1.out E2.out).mono ?_
  rintro e u5 ⟨rfl, hb⟩
  clear E1 E2
  clear gc0 gc1 gc2 gc3 gc4 gc5 gc6
  clear yc0 yc1 yc2 yc3 yc4 yc5 yc6
  replace S9 := hide (Nat.le_trans S9.out hb.size)
  replace OWN := hide (OWN.out.below hb)
  replace Y := hide (Y.out.below hb)
  replace MX := hide (MX.out.below hb)
  replace OGN := hide (OGN.out.below hb)
  replace GB := hide (GB.out.below hb)
  replace BW := hide (BW.out.trans (hb.mono BW.out.size))
  clear hb
  go_wp2_with fail
  refine (toInsInsS is B _ _ (RM.out.below BW.out) HS.out).mono ?_
  rintro e u6 ⟨g6, rfl, M6, -, -, hb⟩
  replace M6 := hide M6
  replace S9 := hide (Nat.le_trans S9.out hb.size)
  replace OWN := hide (OWN.out.below hb)
  replace Y := hide (Y.out.below hb)
  replace MX := hide (MX.out.below hb)
  replace OGN := hide (OGN.out.below hb)
  replace GB := hide (GB.out.below hb)
  replace BW := hide (BW.out.trans (hb.mono BW.out.size))
  clear hb
  go_wp2_with fail
  refine (eqInsInsS is gx g6 _ _ _ MX.out.row M6.out.row).mono ?_
  rintro e u7 ⟨rfl, hb⟩
  clear M6
  replace S9 := hide (Nat.le_trans S9.out hb.size)
  replace OWN := hide (OWN.out.below hb)
  replace Y := hide (Y.out.below hb)
  replace MX := hide (MX.out.below hb)
  replace OGN := hide (OGN.out.below hb)
  replace GB := hide (GB.out.below hb)
  replace BW := hide (BW.out.trans (hb.mono BW.out.size))
  clear hb
  go_wp2_with fail
  refine (markInsInsS 1 is.length _ gx _ _ MX.out (by omega) (by omega) (by have := HS.out; omega)).mono ?_
  rintro e u8 ⟨rfl, -, ht⟩
  clear MX
  replace OWN := hide (OWN.out.apart ht (fun G e => by have := SS.out.2.2 G e; have := XX.out; omega))
  replace OGN := hide (OGN.out.apart ht (fun G e => by have := YY.out.2 G e; have := XX.out; omega))
  replace Y := hide (Y.out.turn ht (by have := XX.out; omega))
  replace GB := hide (GB.out.turn ht (by have := XX.out; have := YY.out; omega))
  replace S9 := hide (Nat.le_trans S9.out ht.size)
  replace BW := hide (BW.out.trans (ht.below (by have := XX.out; have := SS.out; omega) BW.out.size))
  clear ht
  have kk0 : ¬ (1 : Int) + (is.length : Int) * 4 < 0 := by omega
  have kk1 : (1 : Int) + (is.length : Int) * 4 ≤ 10000000 := by have := HS.out; omega
  have gc0 := GB.out.cell 0 _ rfl
  have gc1 := GB.out.cell 1 _ rfl
  have gc2 := GB.out.cell 2 _ rfl
  have gc3 := GB.out.cell 3 _ rfl
  have gc4 := GB.out.cell 4 _ rfl
  have gc5 := GB.out.cell 5 _ rfl
  have gc6 := GB.out.cell 6 _ rfl
  have yc0 := Y.out.cell 0 _ rfl
  have yc1 := Y.out.cell 1 _ rfl
  have yc2 := Y.out.cell 2 _ rfl
  have yc3 := Y.out.cell 3 _ rfl
  have yc4 := Y.out.cell 4 _ rfl
  have yc5 := Y.out.cell 5 _ rfl
  have yc6 := Y.out.cell 6 _ rfl
  have E1 := hide (rbk_of (b := ⟨rpc, rln, ros, ren, rx, ry, rk⟩) OGN.out)
  have E2 := hide (rbk_of (b := ⟨rpc, rln, ros, ren, rx, ry, rk⟩) OWN.out)
  go_wp2_with fail
  refine (Ir.eqIrBlock ⟨rpc, rln, ros, ren, rx, ry, rk⟩ _ _ _ E1.out E2.out).mono ?_
  rintro e u9 ⟨rfl, hb⟩
  clear E1 E2
  clear gc0 gc1 gc2 gc3 gc4 gc5 gc6
  clear yc0 yc1 yc2 yc3 yc4 yc5 yc6
  replace S9 := hide (Nat.le_trans S9.out hb.size)
  replace OWN := hide (OWN.out.below hb)
  replace Y := hide (Y.out.below hb)
  replace OGN := hide (OGN.out.below hb)
  replace GB := hide (GB.out.below hb)
  replace BW := hide (BW.out.trans (hb.mono BW.out.size))
  clear hb
  clear kk0 kk1
  obtain ⟨gg, hMG, gq⟩ := own_w OGN.out u9.heap.size
  have MG := hide hMG
  have GG : Hid (u3.heap.size ≤ gg ∧ gg ≠ u4.heap.size) := by
    rcases gq with rfl | gq
    · have := S9.out; have := YY.out; exact ⟨by omega, by omega⟩
    · have := YY.out.2 gg gq; exact ⟨by omega, by omega⟩
  clear OGN hMG gq
  have gc0 := GB.out.cell 0 _ rfl
  have gc1 := GB.out.cell 1 _ rfl
  have gc2 := GB.out.cell 2 _ rfl
  have gc3 := GB.out.cell 3 _ rfl
  have gc4 := GB.out.cell 4 _ rfl
  have gc5 := GB.out.cell 5 _ rfl
  have gc6 := GB.out.cell 6 _ rfl
  go_wp2_with fail
  refine (markIrBlock 1 ⟨rpc, rln, ros, ren, rx, ry, rk⟩ _ gg _ _ _ _ MG.out (by omega) (by omega) (by omega)).mono ?_
  rintro e u10 ⟨rfl, MM, ht⟩
  clear MG
  clear gc0 gc1 gc2 gc3 gc4 gc5 gc6
  replace MM := hide MM
  replace OWN := hide (OWN.out.apart ht (fun G e => by have := SS.out.2.2 G e; have := XX.out; have := GG.out; omega))
  replace Y := hide (Y.out.turn ht (by have := XX.out; have := GG.out; omega))
  replace GB := hide (GB.out.turn ht (by have := GG.out; omega))
  replace BW := hide (BW.out.trans (ht.below (by have := GG.out; have := XX.out; have := SS.out; omega) BW.out.size))
  clear ht
  have gc0 := GB.out.cell 0 _ rfl
  have gc1 := GB.out.cell 1 _ rfl
  have gc2 := GB.out.cell 2 _ rfl
  have gc3 := GB.out.cell 3 _ rfl
  have gc4 := GB.out.cell 4 _ rfl
  have gc5 := GB.out.cell 5 _ rfl
  have gc6 := GB.out.cell 6 _ rfl
  go_wp2_with fail
  refine (heldIrBlock 1 ⟨rpc, rln, ros, ren, rx, ry, rk⟩ gg _ _ _ _ MM.out.row (by omega) (by omega) (by omega)).mono ?_
  rintro e u11 ⟨rfl, hb⟩
  clear gc0 gc1 gc2 gc3 gc4 gc5 gc6
  replace OWN := hide (OWN.out.below hb)
  replace Y := hide (Y.out.below hb)
  replace MM := hide (MM.out.below hb)
  replace GB := hide (GB.out.below hb)
  replace BW := hide (BW.out.trans (hb.mono BW.out.size))
  clear hb
  have nn : ¬ (1 : Int) + (ros.length : Int) * 5 < 0 := by omega
  have ne : ((1 : Int) + (ros.length : Int) * 5 != 1 + (ros.length : Int) * 5) = false := by simp
  go_wp2_with fail
  refine (toInsInsS is B _ _ (RM.out.below BW.out) HS.out).mono ?_
  rintro e u12 ⟨g9, rfl, M9, -, -, hb⟩
  replace M9 := hide M9
  replace OWN := hide (OWN.out.below hb)
  replace Y := hide (Y.out.below hb)
  replace MM := hide (MM.out.below hb)
  replace GB := hide (GB.out.below hb)
  replace BW := hide (BW.out.trans (hb.mono BW.out.size))
  clear hb
  go_wp2_with fail
  refine (implLower a0 is g9 _ _ M9.out.row HS.out).mono ?_
  rintro e u13 ⟨qh, ch, rfl, OH, hb⟩
  rw [ER.out] at OH ⊢
  unfold bx
  simp only [] at OH ⊢
  have OHN := hide OH
  clear M9 OH
  replace OWN := hide (OWN.out.below hb)
  replace Y := hide (Y.out.below hb)
  replace MM := hide (MM.out.below hb)
  replace GB := hide (GB.out.below hb)
  replace BW := hide (BW.out.trans (hb.mono BW.out.size))
  clear hb
  have hb : Below u13.heap.size u13 (u13.alloc (.cells #[.int .i64 rpc, .int .i64 rln, .slice qh ros.length ch, .int .i64 ren, .int .i64 rx, .int .i64 ry, .int .i64 rk] 42)) := (Below.refl _ _).alloc (Nat.le_refl _) _
  have HBX := hide (Rec.new u13 [.int .i64 rpc, .int .i64 rln, .slice qh ros.length ch, .int .i64 ren, .int .i64 rx, .int .i64 ry, .int .i64 rk] 42)
  have szHBX : Hid ((u13.alloc (.cells #[.int .i64 rpc, .int .i64 rln, .slice qh ros.length ch, .int .i64 ren, .int .i64 rx, .int .i64 ry, .int .i64 rk] 42)).heap.size = u13.heap.size + 1) := show _ = _ by simp
  replace OWN := hide (OWN.out.below hb)
  replace Y := hide (Y.out.below hb)
  replace MM := hide (MM.out.below hb)
  replace GB := hide (GB.out.below hb)
  replace OHN := hide (OHN.out.below hb)
  replace BW := hide (BW.out.trans (hb.mono BW.out.size))
  clear hb
  have gc0 := HBX.out.cell 0 _ rfl
  have gc1 := HBX.out.cell 1 _ rfl
  have gc2 := HBX.out.cell 2 _ rfl
  have gc3 := HBX.out.cell 3 _ rfl
  have gc4 := HBX.out.cell 4 _ rfl
  have gc5 := HBX.out.cell 5 _ rfl
  have gc6 := HBX.out.cell 6 _ rfl
  have yc0 := Y.out.cell 0 _ rfl
  have yc1 := Y.out.cell 1 _ rfl
  have yc2 := Y.out.cell 2 _ rfl
  have yc3 := Y.out.cell 3 _ rfl
  have yc4 := Y.out.cell 4 _ rfl
  have yc5 := Y.out.cell 5 _ rfl
  have yc6 := Y.out.cell 6 _ rfl
  have E1 := hide (rbk_of (b := ⟨rpc, rln, ros, ren, rx, ry, rk⟩) OHN.out)
  have E2 := hide (rbk_of (b := ⟨rpc, rln, ros, ren, rx, ry, rk⟩) OWN.out)
  go_wp2_with fail
  refine (Ir.eqIrBlock ⟨rpc, rln, ros, ren, rx, ry, rk⟩ _ _ _ E1.out E2.out).mono ?_
  rintro e u14 ⟨rfl, hb⟩
  clear E1 E2
  clear gc0 gc1 gc2 gc3 gc4 gc5 gc6
  clear yc0 yc1 yc2 yc3 yc4 yc5 yc6
  replace MM := hide (MM.out.below hb)
  replace GB := hide (GB.out.below hb)
  replace BW := hide (BW.out.trans (hb.mono BW.out.size))
  clear hb
  clear OHN OWN Y HBX
  have gc0 := GB.out.cell 0 _ rfl
  have gc1 := GB.out.cell 1 _ rfl
  have gc2 := GB.out.cell 2 _ rfl
  have gc3 := GB.out.cell 3 _ rfl
  have gc4 := GB.out.cell 4 _ rfl
  have gc5 := GB.out.cell 5 _ rfl
  have gc6 := GB.out.cell 6 _ rfl
  go_wp2_with fail
  refine (heldIrBlock 1 ⟨rpc, rln, ros, ren, rx, ry, rk⟩ gg _ _ _ _ MM.out.row (by omega) (by omega) (by omega)).mono ?_
  rintro e u15 ⟨rfl, hb⟩
  clear gc0 gc1 gc2 gc3 gc4 gc5 gc6
  replace BW := hide (BW.out.trans (hb.mono BW.out.size))
  clear hb
  clear MM GB
  go_wp2
  go_ret
  exact ⟨rfl, BW.out⟩

set_option maxRecDepth 100000 in
theorem lifted (os : Os) (started : os.Started) (H : Type) (enc : TypeId × Value → H) :
    ReturnsInHanded {} Try.checked os 5 .any (Rows.fnExactBlkLowerSpec.pre6 enc Try.prog Try.f5 Rows.fnExactBlkLowerRow.domain false) (Rows.fnExactBlkLowerSpec.post enc Try.prog Try.f5 false true false false) := by
  refine returnsInHanded_of_change (C := Try.checked) own started (by kernel_rfl) Try.func5
    (ChangeSpec.witness6 (enc := enc) (C := Try.checked) false ⟨#[], #[.int .i64 0, .slice none 0 0], []⟩ 8 (by kernel_rfl) (by kernel_rfl) (by kernel_rfl) (by kernel_rfl)) ?_
  intro W base args ds gs before hval0 hW hcnd hsz0
  have hval : ∀ (j : Nat) t v, Try.f5.params[j]? = some t → args[j]? = some v → Value.okWide Try.prog W .any base t v := hval0
  have hW' := hW
  obtain ⟨p, q, hA0, hV, rfl, hfz, hnd⟩ := hW
  have hA : DataW.TrodAll enc Try.prog W 0 (fun _ => true) true Try.f5.params.toList args.toList ds p := hA0
  rw [Try.params5] at hA hval
  obtain ⟨v0, vs0, d0, ds0, p0, q0, hargs, rfl, rfl, h0, r0⟩ := trodAll_cons hA
  obtain ⟨v1, vs1, d1, ds1, p1, q1, rfl, rfl, rfl, h1, r1⟩ := trodAll_cons r0
  obtain ⟨rfl, rfl, rfl⟩ := trodAll_nil r1
  obtain rfl : args = #[v0, v1] := by cases args; simp_all
  obtain ⟨rfl, rfl⟩ := trodVars_none hV
  have k0 := h0
  have lt0 : ∀ x ∈ p0, x.block < W.heap.size := by obtain ⟨m, hm⟩ := k0; exact DataW.trod_lt m _ _ _ hm
  obtain ⟨a0, rfl, rfl, rfl, w0⟩ := open_int Try.underlying3 (hval 0 3 v0 rfl rfl) h0
  have k1 := h1
  have lt1 : ∀ x ∈ p1, x.block < W.heap.size := by obtain ⟨m, hm⟩ := k1; exact DataW.trod_lt m _ _ _ hm
  obtain ⟨a1, len1, cap1, rfl⟩ := okWide_slice Try.underlying35 (hval 1 35 v1 rfl rfl)
  have w1 : Shape.Holds Try.prog W 9 35 [.slice a1 len1 cap1] := Shape.opened 9 h1
  clear hA0 hval0
  refine (walk a0 w0 a1 len1 cap1 W w1).mono fun e W' ⟨he, hnx⟩ => ?_
  subst he
  exact ⟨_, rfl, _, _, _, [], _, [], hW', trodAll_cons_mk (shut_bool Try.underlying4 _) trodAll_mk0, (trodAll_cons_mk (Below.trod laidOut (by kernel_rfl) (of_decide_eq_true (by kernel_rfl)) k0 hnx lt0) (trodAll_cons_mk (Below.trod laidOut (by kernel_rfl) (of_decide_eq_true (by kernel_rfl)) k1 hnx lt1) trodAll_mk0)), rfl, hnx.frame _, fun h => by cases h⟩

theorem over : Rows.fnExactBlkLowerRow.holds Try.pinned (OpenSpec.ofChange Rows.fnExactBlkLowerSpec) :=
  OpenClaim.holds_of_wide 5 Try.f5 rfl rfl rfl rfl rfl rfl rfl ⟨rfl, rfl, rfl, rfl, rfl⟩ rfl rfl rfl rfl rfl (by kernel_rfl) Try.func5 (by kernel_rfl)
    (of_decide_eq_true (by kernel_rfl)) (by unfold Func.isWrapper; first | (rw [if_pos (by decide +kernel)]; kernel_rfl) | (rw [if_neg (by decide +kernel)]; exact ⟨rfl, rfl⟩))
    (fun os started H enc _ => lifted os started H enc)

theorem proved : Rows.FnExactBlkLowerSaid := over
#print axioms proved
end Go.Proofs.Ytfjlnocikldhjaa.fnExactBlkLower
