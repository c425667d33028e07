/-
  Bytes: the program's IrRead.
-/
import Derived.Test.YtkeelacobknfbaaDoorWrI
namespace Go.Proofs.YtkeelacobknfbaaDoor.Wr
set_option linter.unusedVariables false
set_option linter.unusedSimpArgs false
open Go.ChangeShapes Go.WideShapes Go.ChangeAt Go.RowKit IntS Flat
open Ir Push
open Mch (Rec)
open Irk (flatO flatO_app)
open Dt (blkR toT bkOf New)
theorem own_wo {w : World} {lo n cap : Nat} {q : Option Addr} {os : List Opn} (h : OwnO w lo (.slice q n cap) os) : ∃ B, WORow w B (.slice q n cap) os ∧ (os = [] ∨ (lo ≤ B ∧ B < w.heap.size)) := by
  have e := lenO h
  subst e
  rcases h.form with ⟨e, e2, _⟩ | ⟨g, c, e, k1, k2, k3⟩
  · have e0 := List.length_eq_zero_iff.1 e2
    subst e0
    cases e
    exact ⟨0, ⟨none, 0, 0, rfl, Nat.le_refl _, by unfold maxLen; omega, fun _ => rfl, Or.inl rfl⟩, Or.inl rfl⟩
  · cases e
    exact ⟨g, Dt.wo_of k3, Or.inr ⟨k1, k2⟩⟩
theorem nil_owY (w : World) (A : Nat → Prop) : blkR.ow w A [.int .i64 0, .int .i64 0, .slice none 0 0, .int .i64 0, .int .i64 0, .int .i64 0, .int .i64 0] (toT nilB) :=
  ⟨0, ⟨none, 0, rfl, ⟨none, 0, 0, rfl, Nat.le_refl _, by unfold maxLen; omega, fun _ => rfl, Or.inl rfl⟩⟩, Or.inl rfl⟩
theorem wo_turn {w w' : World} {B T : Nat} {v : Value} {os : List Opn} (h : WORow w B v os) (ht : Turn T w w') (hB : os = [] ∨ B ≠ T) : WORow w' B v os := by
  by_cases e : os = []
  · obtain ⟨a, cap, off, h1, h2, h3, hz, h4⟩ := h
    exact ⟨a, cap, off, h1, h2, h3, hz, Or.inl e⟩
  · exact h.turn ht (hB.resolve_left e)
theorem ow_read {w : World} {A : Nat → Prop} {q' : Option Addr} {c' B : Nat} {b : Bk} (h : WORow w B (.slice q' b.ops.length c') b.ops) (hB : b.ops = [] ∨ A B) : blkR.ow w A [.int .i64 b.pc, .int .i64 b.ln, .slice q' b.ops.length c', .int .i64 b.en, .int .i64 b.x, .int .i64 b.y, .int .i64 b.k] (toT b) := ⟨B, ⟨q', c', rfl, h⟩, hB⟩
set_option maxRecDepth 8000 in
set_option maxHeartbeats 16000000 in
theorem implRead (ys : List Int) (B : Nat) (q : Option Addr) (n c : Nat) (af am an : Addr) (w : World) (h : BytS.Row w B (.slice q n c) ys) (hl : ys.length = n) (hn : n ≤ 1048576) (hy : ∀ y ∈ ys, 0 ≤ y ∧ y < 256) (hE : Ers w af am an) (ht : Tbs w) (hG : GZ w.heap.size) (hB : ys = [] ∨ B < w.heap.size) :
    Calls Tryd.prog 16 #[.slice q n c] w fun r w' => ∃ cs', r = .returned (.tuple #[.agg cs'.toArray, .bool (readOk ys)]) ∧ blkR.ow w' (New w w') cs' (toT (readB ys)) ∧ Below w.heap.size w w' := by
  have b1 : Below w.heap.size w (w.alloc (.cells #[.int .i64 0, .int .i64 0, .slice none 0 0, .int .i64 0, .int .i64 0, .int .i64 0, .int .i64 0] 25)) := (Below.refl _ _).alloc (Nat.le_refl _) _
  have b2 : Below w.heap.size w ((w.alloc (.cells #[.int .i64 0, .int .i64 0, .slice none 0 0, .int .i64 0, .int .i64 0, .int .i64 0, .int .i64 0] 25)).alloc (.cells #[.slice q n c, .int .i64 0, .nilIface] 63)) := b1.alloc b1.size _
  have RZ := hide ((Rec.new w [.int .i64 0, .int .i64 0, .slice none 0 0, .int .i64 0, .int .i64 0, .int .i64 0, .int .i64 0] 25).alloc (.cells #[.slice q n c, .int .i64 0, .nilIface] 63))
  have r2 := Rec.new (w.alloc (.cells #[.int .i64 0, .int .i64 0, .slice none 0 0, .int .i64 0, .int .i64 0, .int .i64 0, .int .i64 0] 25)) [.slice q n c, .int .i64 0, .nilIface] 63
  rw [World.size_alloc] at r2
  have H0 : Hid (RE ((w.alloc (.cells #[.int .i64 0, .int .i64 0, .slice none 0 0, .int .i64 0, .int .i64 0, .int .i64 0, .int .i64 0] 25)).alloc (.cells #[.slice q n c, .int .i64 0, .nilIface] 63)) (w.heap.size + 1) B q n c ys af am an ⟨0, none⟩) := ⟨⟨r2, h.below b2, hl, hn, hy, hB.imp id (fun e => by omega), Nat.zero_le _⟩, hE.below b2, ⟨Nat.lt_succ_of_lt hG.1, Nat.lt_succ_of_lt hG.2.1, Nat.lt_succ_of_lt hG.2.2⟩⟩
  have SZ : Hid (((w.alloc (.cells #[.int .i64 0, .int .i64 0, .slice none 0 0, .int .i64 0, .int .i64 0, .int .i64 0, .int .i64 0] 25)).alloc (.cells #[.slice q n c, .int .i64 0, .nilIface] 63)).heap.size = w.heap.size + 2) := by show _ = _; simp
  have BW := hide b2
  have TB := hide ht
  have NO : Hid (readOk ys = false → readB ys = nilB) := fun e => by show readB ys = nilB; unfold readB; rw [e]; rfl
  obtain ⟨ro, ero⟩ : ∃ z, readOk ys = z := ⟨_, rfl⟩
  obtain ⟨rb, erb⟩ : ∃ z, readB ys = z := ⟨_, rfl⟩
  rw [ero, erb] at NO ⊢
  have ERO := hide ero
  have ERB := hide erb
  clear h hl hn hy hE ht hG hB b1 b2 r2 ero erb
  go_enter Tryd.func16, Tryd.ntmps16
  go_wp2_with fail
  generalize ((w.alloc (.cells #[.int .i64 0, .int .i64 0, .slice none 0 0, .int .i64 0, .int .i64 0, .int .i64 0, .int .i64 0] 25)).alloc (.cells #[.slice q n c, .int .i64 0, .nilIface] 63)) = u0 at RZ H0 BW SZ ⊢
  try simp only [World.size_alloc]
  refine (codeE (w.heap.size + 1) B q n c ys af am an w u0 H0.out TB.out BW.out (by omega)).mono ?_
  rintro r u1 ⟨b, s, q', c', rfl, OO, R, LS, T⟩
  replace RZ := hide (RZ.out.turn T (by omega))
  replace BW := hide (BW.out.trans (T.below (by omega) BW.out.size))
  obtain ⟨Bo, wo, wB⟩ := own_wo OO
  have bC : Below u1.heap.size u1 (u1.alloc (.cells #[.int .i64 b.pc, .int .i64 b.ln, .slice q' b.ops.length c', .int .i64 b.en, .int .i64 b.x, .int .i64 b.y, .int .i64 b.k] 25)) := (Below.refl _ _).alloc (Nat.le_refl _) _
  have RC := hide (Rec.new u1 [.int .i64 b.pc, .int .i64 b.ln, .slice q' b.ops.length c', .int .i64 b.en, .int .i64 b.x, .int .i64 b.y, .int .i64 b.k] 25)
  have S0 := SZ.out
  have S1 : Hid (w.heap.size + 2 ≤ u1.heap.size) := by have := T.size; show _ ≤ _; omega
  have WO := hide (wo.below bC)
  have WB : Hid (b.ops = [] ∨ (w.heap.size + 2 ≤ Bo ∧ Bo < u1.heap.size)) := wB.imp id (fun h => by omega)
  have R2 := R.below bC
  replace RZ := hide (RZ.out.below bC)
  replace BW := hide (BW.out.trans (bC.mono BW.out.size))
  have BL : Hid (u1.heap.size < (u1.alloc (.cells #[.int .i64 b.pc, .int .i64 b.ln, .slice q' b.ops.length c', .int .i64 b.en, .int .i64 b.x, .int .i64 b.y, .int .i64 b.k] 25)).heap.size) := RC.out.lt
  obtain ⟨p, e⟩ := s
  have c2 := R2.r.box.cell 2 _ rfl
  simp only [] at c2 LS
  clear wo wB OO R T R2 bC H0 S0
  rcases LS with ⟨he, hr, hbk⟩ | ⟨he, hr⟩
  · subst he
    rw [ERB.out] at hbk
    have HBK := hide hbk
    obtain rfl : ro = true := by rw [← ERO.out]; exact hr
    simp only [evv] at c2
    have z0 := RC.out.cell 0 _ rfl
    have z1 := RC.out.cell 1 _ rfl
    have z2 := RC.out.cell 2 _ rfl
    have z3 := RC.out.cell 3 _ rfl
    have z4 := RC.out.cell 4 _ rfl
    have z5 := RC.out.cell 5 _ rfl
    have z6 := RC.out.cell 6 _ rfl
    clear hbk hr NO
    go_wp2_with (refine lay7 rfl rfl _ _ rfl w.heap.size _ _ _ _ _ _ _ RZ.out rfl _ _ _ _ _ _ _ _ _ rfl ?_; intro p1 RX TX; refine Hid.out ?_)
    have FIN : Hid (blkR.ow p1 (New w p1) [.int .i64 b.pc, .int .i64 b.ln, .slice q' b.ops.length c', .int .i64 b.en, .int .i64 b.x, .int .i64 b.y, .int .i64 b.k] (toT rb) ∧ Below w.heap.size w p1) := by
      refine ⟨?_, BW.out.trans (TX.out.below (Nat.le_refl _) BW.out.size)⟩
      rw [← HBK.out]
      refine ow_read (wo_turn WO.out TX.out (WB.out.imp id (fun h => by omega))) (WB.out.imp id (fun h => ⟨by omega, ?_⟩))
      have := TX.out.size
      have := BL.out
      omega
    clear TX RZ WO WB c2 z0 z1 z2 z3 z4 z5 z6 RC BW
    refine hide ?_
    have y0 := RX.out.cell 0 _ rfl
    have y1 := RX.out.cell 1 _ rfl
    have y2 := RX.out.cell 2 _ rfl
    have y3 := RX.out.cell 3 _ rfl
    have y4 := RX.out.cell 4 _ rfl
    have y5 := RX.out.cell 5 _ rfl
    have y6 := RX.out.cell 6 _ rfl
    go_wp2
    exact bodyPost_ret (v := .tuple #[.agg #[.int .i64 b.pc, .int .i64 b.ln, .slice q' b.ops.length c', .int .i64 b.en, .int .i64 b.x, .int .i64 b.y, .int .i64 b.k], .bool true]) (by simp [results, Tryd.results16, go_sem, y0, y1, y2, y3, y4, y5, y6]) rfl ⟨_, rfl, FIN.out⟩
  · obtain ⟨eb, rfl⟩ := Option.isSome_iff_exists.1 he
    obtain rfl : ro = false := by rw [← ERO.out]; exact hr
    obtain rfl := NO.out rfl
    simp only [evv] at c2
    clear hr NO he
    go_wp2_with (refine lay7 rfl rfl _ _ rfl w.heap.size _ _ _ _ _ _ _ RZ.out rfl _ _ _ _ _ _ _ _ _ rfl ?_; intro p1 RX TX; refine Hid.out ?_)
    have FIN : Hid (blkR.ow p1 (New w p1) [.int .i64 0, .int .i64 0, .slice none 0 0, .int .i64 0, .int .i64 0, .int .i64 0, .int .i64 0] (toT nilB) ∧ Below w.heap.size w p1) := ⟨nil_owY _ _, BW.out.trans (TX.out.below (Nat.le_refl _) BW.out.size)⟩
    clear TX RZ WO WB c2 RC BW
    refine hide ?_
    have y0 := RX.out.cell 0 _ rfl
    have y1 := RX.out.cell 1 _ rfl
    have y2 := RX.out.cell 2 _ rfl
    have y3 := RX.out.cell 3 _ rfl
    have y4 := RX.out.cell 4 _ rfl
    have y5 := RX.out.cell 5 _ rfl
    have y6 := RX.out.cell 6 _ rfl
    go_wp2
    exact bodyPost_ret (v := .tuple #[.agg #[.int .i64 0, .int .i64 0, .slice none 0 0, .int .i64 0, .int .i64 0, .int .i64 0, .int .i64 0], .bool false]) (by simp [results, Tryd.results16, go_sem, y0, y1, y2, y3, y4, y5, y6]) rfl ⟨_, rfl, FIN.out⟩
end Go.Proofs.YtkeelacobknfbaaDoor.Wr
