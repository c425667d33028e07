/-
  Bytes: the program's code: all bytes taken as one piece of code.
-/
import Derived.Test.YtkeelacobknfbaaDoorWrH
import Derived.Test.YtkeelacobknfbaaDoorIrIo
namespace Go.Proofs.YtkeelacobknfbaaDoor.Wr
set_option linter.unusedVariables false
set_option linter.unusedSimpArgs false
open Go.ChangeShapes Go.WideShapes Go.ChangeAt Go.RowKit IntS Flat
open Ir Push
open Mch (Rec)
open Irk (flatO flatO_app)
theorem rowO {w : World} {lo n cap : Nat} {q : Option Addr} {os : List Opn} (h : OwnO w lo (.slice q n cap) os) : ∃ B, ORow w B (.slice q n cap) os := by
  obtain ⟨B, h1⟩ := h.frow
  exact ⟨B, Irk.orow_of h1⟩
theorem lenO {w : World} {lo n cap : Nat} {q : Option Addr} {os : List Opn} (h : OwnO w lo (.slice q n cap) os) : os.length = n := by
  rcases h.form with ⟨e, e2, _⟩ | ⟨g, c, e, _⟩
  · cases e; exact e2
  · cases e; rfl
/-- How far the reader has to go. -/
def meas (Z n : Nat) (w : World) : Nat :=
  match w.cell? ⟨Z, 2, none⟩ with
  | some .nilIface => (match w.cell? ⟨Z, 1, none⟩ with | some (.int _ p) => n + 1 - p.toNat | _ => 0)
  | _ => 0
theorem meas_of {w : World} {Z B : Nat} {q : Option Addr} {n c : Nat} {ys : List Int} {s : Rs} (h : Rr w Z B q n c ys s) : meas Z n w = if s.e.isNone = true then n + 1 - s.p else 0 := by
  have c1 := h.box.cell 1 _ rfl
  have c2 := h.box.cell 2 _ rfl
  obtain ⟨p, e⟩ := s
  unfold meas
  cases e with
  | none => simp [c1, c2, evv]
  | some b => simp [c2, evv]
theorem RE.few {w : World} {Z B : Nat} {q : Option Addr} {n c : Nat} {ys : List Int} {af am an : Addr} {s : Rs} (h : RE w Z B q n c ys af am an s) : s.p ≤ n := h.r.few
theorem failE (Z B : Nat) (q : Option Addr) (n c : Nat) (ys : List Int) (s : Rs) (af am an a : Addr) (w : World) (h : RE w Z B q n c ys af am an s) :
    Calls Tryd.prog 67 #[.pointer (some ⟨Z, 0, none⟩), evv (some a)] w fun r w' => r = .returned (.tuple #[]) ∧ RE w' Z B q n c ys af am an ⟨s.p, orE s.e a⟩ ∧ Turn Z w w' := by
  refine (fail Z _ _ s.e a w h.r.box).mono ?_
  rintro r u ⟨rfl, R, T⟩
  exact ⟨rfl, ⟨⟨R, row_turn h.r.row T (h.r.far.imp id (fun e => by omega)), h.r.len, h.r.le, h.r.by_, h.r.far, h.r.few⟩, h.e.turn T h.g, h.g⟩, T⟩
theorem turn_up {Z T : Nat} {w v V : World} (h : Turn Z w v) (h2 : Turn T v V) (hT : w.heap.size ≤ T) : Turn Z w V :=
  ⟨h2.os.trans h.os, h2.tape.trans h.tape, h2.output.trans h.output, Nat.le_trans h.size h2.size, fun k hk hne => (h2.block k (Nat.lt_of_lt_of_le hk h.size) (by omega)).trans (h.block k hk hne)⟩
set_option maxRecDepth 8000 in
set_option maxHeartbeats 16000000 in
theorem codeE (Z B : Nat) (q : Option Addr) (n c : Nat) (ys : List Int) (af am an : Addr) (base w : World) (h : RE w Z B q n c ys af am an ⟨0, none⟩) (ht : Tbs base) (hb : Below base.heap.size base w) (hZ : base.heap.size ≤ Z) :
    Calls Tryd.prog 43 #[.pointer (some ⟨Z, 0, none⟩)] w fun r w' => ∃ (b : Bk) (s : Rs) (q' : Option Addr) (c' : Nat), r = .returned (.agg #[.int .i64 b.pc, .int .i64 b.ln, .slice q' b.ops.length c', .int .i64 b.en, .int .i64 b.x, .int .i64 b.y, .int .i64 b.k]) ∧ OwnO w' w.heap.size (.slice q' b.ops.length c') b.ops ∧ RE w' Z B q n c ys af am an s ∧ ((s.e = none ∧ readOk ys = true ∧ b = readB ys) ∨ (s.e.isSome = true ∧ readOk ys = false)) ∧ Turn Z w w' := by
  have b1 : Below w.heap.size w (w.alloc (.cells #[.int .i64 0, .int .i64 0, .slice none 0 0, .int .i64 0, .int .i64 0, .int .i64 0, .int .i64 0] 25)) := (Below.refl _ _).alloc (Nat.le_refl _) _
  have ZL : Hid (Z < w.heap.size) := h.r.box.lt
  have H0 := hide (h.below b1)
  have RZ := hide (Rec.new w [.int .i64 0, .int .i64 0, .slice none 0 0, .int .i64 0, .int .i64 0, .int .i64 0, .int .i64 0] 25)
  have TW : Hid (Turn Z w (w.alloc (.cells #[.int .i64 0, .int .i64 0, .slice none 0 0, .int .i64 0, .int .i64 0, .int .i64 0, .int .i64 0] 25))) := Turn.of_below b1
  have TB : Hid (∀ v, Turn Z w v → Tbs v) := fun v hv => ht.below (hb.trans (hv.below hZ hb.size))
  have LN := hide h.r.len
  have n0 := h.r.le
  clear h b1 ht hb hZ
  go_enter Tryd.func43, Tryd.ntmps43
  go_wp2_with fail
  generalize w.alloc (.cells #[.int .i64 0, .int .i64 0, .slice none 0 0, .int .i64 0, .int .i64 0, .int .i64 0, .int .i64 0] 25) = u0 at H0 RZ TW ⊢
  have SZ0 : Hid (w.heap.size < u0.heap.size) := RZ.out.lt
  refine (headE Z B q n c ys ⟨0, none⟩ af am an u0 H0.out).mono ?_
  rintro r u1 ⟨rfl, R, T⟩
  have INV := hide (Inv.start ys af)
  obtain ⟨s0, es0⟩ : ∃ z, st ys af ⟨0, none⟩ 7 = z := ⟨_, rfl⟩
  rw [es0] at R INV
  obtain ⟨pc, e1⟩ : ∃ z, vl ys af ⟨0, none⟩ 0 = z := ⟨_, rfl⟩
  obtain ⟨ln, e2⟩ : ∃ z, vl ys af ⟨0, none⟩ 1 = z := ⟨_, rfl⟩
  obtain ⟨en, e3⟩ : ∃ z, vl ys af ⟨0, none⟩ 2 = z := ⟨_, rfl⟩
  obtain ⟨x, e4⟩ : ∃ z, vl ys af ⟨0, none⟩ 3 = z := ⟨_, rfl⟩
  obtain ⟨y, e5⟩ : ∃ z, vl ys af ⟨0, none⟩ 4 = z := ⟨_, rfl⟩
  obtain ⟨k, e6⟩ : ∃ z, vl ys af ⟨0, none⟩ 5 * 256 + vl ys af ⟨0, none⟩ 6 = z := ⟨_, rfl⟩
  rw [e1, e2, e3, e4, e5, e6] at INV ⊢
  clear e1 e2 e3 e4 e5 e6 es0 H0
  have S1 : Hid (w.heap.size < u1.heap.size) := Nat.lt_of_lt_of_le SZ0.out T.size
  replace RZ := hide (RZ.out.turn T (by have := ZL.out; omega))
  replace TW := hide (TW.out.trans T)
  have bC : Below u1.heap.size u1 (u1.alloc (.cells #[.int .i64 pc, .int .i64 ln, .slice none 0 0, .int .i64 en, .int .i64 x, .int .i64 y, .int .i64 k] 25)) := (Below.refl _ _).alloc (Nat.le_refl _) _
  have RC := hide (Rec.new u1 [.int .i64 pc, .int .i64 ln, .slice none 0 0, .int .i64 en, .int .i64 x, .int .i64 y, .int .i64 k] 25)
  have H1 := hide (R.below bC)
  replace RZ := hide (RZ.out.below bC)
  replace TW := hide (TW.out.trans (Turn.of_below bC))
  have OO : Hid (OwnO (u1.alloc (.cells #[.int .i64 pc, .int .i64 ln, .slice none 0 0, .int .i64 en, .int .i64 x, .int .i64 y, .int .i64 k] 25)) (w.heap.size + 1) (.slice none 0 0) []) := OwnF.nil _ _ _ _
  clear R T bC
  go_wp2
  generalize u1.alloc (.cells #[.int .i64 pc, .int .i64 ln, .slice none 0 0, .int .i64 en, .int .i64 x, .int .i64 y, .int .i64 k] 25) = u2 at RC H1 RZ TW OO ⊢
  obtain ⟨Cb, eCb⟩ : ∃ z, u1.heap.size = z := ⟨_, rfl⟩
  rw [eCb] at RC S1 ⊢
  clear eCb
  go_loopw [] (fun wr => ∃ (s : Rs) (os : List Opn) (qo : Option Addr) (no co : Nat), Hid (RE wr Z B q n c ys af am an s) ∧ Hid (Inv ys s (⟨pc, ln, os, en, x, y, k⟩ : Bk)) ∧ Hid (OwnO wr (w.heap.size + 1) (.slice qo no co) os) ∧ Hid (Rec Cb [.int .i64 pc, .int .i64 ln, .slice qo no co, .int .i64 en, .int .i64 x, .int .i64 y, .int .i64 k] wr) ∧ Hid (Rec w.heap.size [.int .i64 0, .int .i64 0, .slice none 0 0, .int .i64 0, .int .i64 0, .int .i64 0, .int .i64 0] wr) ∧ Hid (Turn Z w wr) ∧ Hid (∀ G, qo = some ⟨G, 0, none⟩ → G ≠ Cb)) (fun wr => meas Z n wr)
  case atStart => exact ⟨s0, [], none, 0, 0, H1, INV, OO, RC, RZ, TW, fun G e => by cases e⟩
  case round =>
    clear H1 INV OO RC RZ TW
    obtain ⟨s, os, qo, no, co, H1, INV, OO, RC, RZ, TW, QC⟩ := hrel
    have M0 : Hid (meas Z n wr = if s.e.isNone = true then n + 1 - s.p else 0) := meas_of H1.out.r
    have CL : Hid (w.heap.size < Cb ∧ Z < w.heap.size ∧ w.heap.size < wr.heap.size) := ⟨S1.out, ZL.out, RZ.out.lt⟩
    have OL := hide (lenO OO.out)
    have L49 := INV.out.len
    simp only [] at L49
    rw [OL.out] at L49
    go_wp2_with fail
    refine (moreE Z B q n c ys s wr H1.out.r).mono ?_
    rintro r u ⟨rfl, hb⟩
    replace H1 := hide (H1.out.below hb)
    replace OO := hide (OO.out.below hb)
    replace RC := hide (RC.out.below hb)
    replace RZ := hide (RZ.out.below hb)
    replace TW := hide (TW.out.trans (Turn.of_below hb))
    clear hb
    obtain ⟨mb, em⟩ : ∃ z, (s.e.isNone && decide (s.p < n)) = z := ⟨_, rfl⟩
    rw [em]
    have EM := hide em
    clear em
    cases mb with
    | true =>
      have MM : Hid (s.e.isNone = true ∧ s.p < ys.length) := by
        have := EM.out
        simp only [Bool.and_eq_true, decide_eq_true_eq] at this
        exact ⟨this.1, by rw [LN.out]; exact this.2⟩
      have NX := hide (INV.out.next af am MM.out)
      simp only [] at NX
      rw [OL.out] at NX
      go_wp2_with fail
      refine (wpIn_wide (n := 0)).1 ?_
      have bA : Below u.heap.size u u.drew := (Below.refl _ _).drew
      replace H1 := hide (H1.out.below bA)
      replace OO := hide (OO.out.below bA)
      replace RC := hide (RC.out.below bA)
      replace RZ := hide (RZ.out.below bA)
      replace TW := hide (TW.out.trans (Turn.of_below bA))
      clear bA
      refine PhaseIn.region (S := fun v => Rec Cb [.int .i64 pc, .int .i64 ln, .slice qo no co, .int .i64 en, .int .i64 x, .int .i64 y, .int .i64 k] v) 5 (by kernel_rfl) ?_
      generalize u.drew = d1 at H1 OO RC RZ TW ⊢
      have hHeld : Rec Cb [.int .i64 pc, .int .i64 ln, .slice qo no co, .int .i64 en, .int .i64 x, .int .i64 y, .int .i64 k] d1 := RC.out
      clear RC
      refine PhaseIn.takeD (i := 0) (v := ?_) [0, 1, 5, 6, 7] 8 rfl (by rfl) (by kernel_rfl) (by kernel_rfl) (by kernel_rfl) (by kernel_rfl) (by kernel_rfl) (fun _ _ _ h => h) (Or.inl ⟨by kernel_rfl, ?_⟩) hHeld ?_
      rotate_left
      · intro w' hSw
        (try dsimp only at hSw)
        go_simp
        first | done | with_reducible rfl
      try simp only [Act.put, List.setIfInBounds_toArray, List.set]
      refine PhaseIn.takeD (i := 1) (v := ?_) [1, 5, 6, 7] 9 rfl (by rfl) (by kernel_rfl) (by kernel_rfl) (by kernel_rfl) (by kernel_rfl) (by kernel_rfl) (fun _ _ _ h => h) (Or.inl ⟨by kernel_rfl, ?_⟩) hHeld ?_
      rotate_left
      · intro w' hSw
        (try dsimp only at hSw)
        have z2 := hSw.cell 2 _ rfl
        go_simp
        first | done | with_reducible rfl
      try simp only [Act.put, List.setIfInBounds_toArray, List.set]
      refine PhaseIn.takeD (i := 2) (v := ?_) [2, 3, 4, 5, 6, 7] 10 rfl (by rfl) (by kernel_rfl) (by kernel_rfl) (by kernel_rfl) (by kernel_rfl) (by kernel_rfl) (fun _ _ _ h => h) (Or.inl ⟨by kernel_rfl, ?_⟩) hHeld ?_
      rotate_left
      · intro w' hSw
        (try dsimp only at hSw)
        go_simp
        first | done | with_reducible rfl
      try simp only [Act.put, List.setIfInBounds_toArray, List.set]
      refine PhaseIn.one (i := 3) (by kernel_rfl) rfl (by kernel_rfl) (fun K hK => ?_)
      unfold Oper.wpIn
      refine ⟨fun _ _ => trivial, ?_⟩
      go_simp
      refine ⟨rfl, (callsIn_wide.2 (opE Z B q n c ys s af am an d1 H1.out)).mono ?_⟩
      rintro r d2 ⟨rfl, R, T⟩
      replace hHeld := hHeld.turn T (by have := CL.out; omega)
      obtain ⟨kd, e0⟩ : ∃ z, vl ys af s 0 = z := ⟨_, rfl⟩
      obtain ⟨ox, e1⟩ : ∃ z, vl ys af s 1 = z := ⟨_, rfl⟩
      obtain ⟨oy, e2⟩ : ∃ z, vl ys af s 2 = z := ⟨_, rfl⟩
      obtain ⟨ok, e3⟩ : ∃ z, vl ys af s 3 * 256 + vl ys af s 4 = z := ⟨_, rfl⟩
      obtain ⟨ot, e5⟩ : ∃ z, vl ys af s 5 = z := ⟨_, rfl⟩
      rw [e0, e1, e2, e3, e5] at NX ⊢
      clear e0 e1 e2 e3 e5
      have H2 := hide R
      replace OO := hide (OO.out.turn T (Or.inl (by have := CL.out; omega)))
      replace RZ := hide (RZ.out.turn T (by have := CL.out; omega))
      replace TW := hide (TW.out.trans T)
      refine hK _ _ (fun _ => hHeld) ?_
      clear hK K R T H1
      try simp only [Act.put, List.setIfInBounds_toArray, List.set]
      refine PhaseIn.one (i := 4) (by kernel_rfl) rfl (by kernel_rfl) (fun K hK => ?_)
      unfold Oper.wpIn
      refine ⟨fun _ _ => trivial, ?_⟩
      go_simp
      have bP : Below d2.heap.size d2 (d2.alloc (.cells #[.int .i64 kd, .int .i64 ox, .int .i64 oy, .int .i64 ok, .int .i64 ot] 51)) := (Below.refl _ _).alloc (Nat.le_refl _) _
      have RX := hide (Rec.new d2 [.int .i64 kd, .int .i64 ox, .int .i64 oy, .int .i64 ok, .int .i64 ot] 51)
      replace hHeld := hHeld.below bP
      replace H2 := hide (H2.out.below bP)
      replace OO := hide (OO.out.below bP)
      replace RZ := hide (RZ.out.below bP)
      replace TW := hide (TW.out.trans (Turn.of_below bP))
      refine hK _ _ (fun _ => hHeld) ?_
      clear hK K bP
      try simp only [Act.put, List.setIfInBounds_toArray, List.set]
      generalize d2.alloc (.cells #[.int .i64 kd, .int .i64 ox, .int .i64 oy, .int .i64 ok, .int .i64 ot] 51) = d3 at hHeld H2 OO RZ TW RX ⊢
      generalize d2.heap.size = Xb at RX ⊢
      have SZ3 : w.heap.size < d3.heap.size := RZ.out.lt
      obtain ⟨g4, c4, w4, T4, hrun, O4, T4t, hT4, hlT4, hg4⟩ := run_pushOp (ty := 23) OO.out OL.out (by omega) (by omega) Xb ⟨kd, ox, oy, ok, ot⟩ RX.out
      have CT : Cb ≠ T4 := by
        rcases hT4 with e | e
        · exact fun h => QC.out T4 e h.symm
        · have := hHeld.lt; omega
      have CG : Hid (g4 ≠ Cb) := by
        rcases hg4 with e | e
        · exact QC.out g4 e
        · have := hHeld.lt
          show g4 ≠ Cb
          omega
      have OO4 := hide O4
      have RC4 := hHeld.turn T4t CT
      have H4 := hide (H2.out.turn T4t (by have := CL.out; omega))
      have RZ4 := hide (RZ.out.turn T4t (by omega))
      have TW4 := hide (turn_up TW.out T4t (by omega))
      refine PhaseIn.one (i := 5) (by kernel_rfl) rfl (by kernel_rfl) (fun K hK => ?_)
      refine push_in _ _ rfl rfl rfl hrun ?_
      refine hK _ _ (fun h => absurd h (by decide)) ?_
      clear hK K hrun O4 T4t hHeld OO RZ TW RX H2 hT4 hg4 CT SZ3 hlT4
      try simp only [Act.put, List.setIfInBounds_toArray, List.set]
      refine PhaseIn.late (i := 6) (v := ?_) (by kernel_rfl) rfl 14 (by rfl) (by omega) (Or.inl ⟨by kernel_rfl, ?_⟩) ?_
      rotate_left
      · intro w' hSw
        go_simp
        first | done | with_reducible rfl
      try simp only [Act.put, List.setIfInBounds_toArray, List.set]
      have z2 := RC4.cell 2 _ rfl
      have f2 := RC4.soft 2
      refine PhaseIn.one (i := 7) (by kernel_rfl) rfl (by kernel_rfl) (fun K hK => ?_)
      unfold Oper.wpIn
      refine ⟨fun _ _ => trivial, ?_⟩
      go_simp
      have T5 := (Turn.refl Cb w4).setCell (p := ⟨Cb, 2, none⟩) rfl (.slice (some ⟨g4, 0, none⟩) (no + 1) c4)
      have RC5 := hide (RC4.set 2 (.slice (some ⟨g4, 0, none⟩) (no + 1) c4) (by simp) (show _ = [.int .i64 pc, .int .i64 ln, .slice (some ⟨g4, 0, none⟩) (no + 1) c4, .int .i64 en, .int .i64 x, .int .i64 y, .int .i64 k] from rfl))
      have OO5 : Hid (OwnO (w4.setCell ⟨Cb, 2, none⟩ (.slice (some ⟨g4, 0, none⟩) (no + 1) c4)) (w.heap.size + 1) (.slice (some ⟨g4, 0, none⟩) (no + 1) c4) (os ++ [⟨kd, ox, oy, ok, ot⟩])) := by
        have h := OO4.out
        have e := lenO h
        unfold OwnO at h ⊢
        rw [e] at h ⊢
        exact OwnF.apart (q := some ⟨g4, 0, none⟩) h T5 (fun G e => by injection e with e; injection e with e1; rw [← e1]; exact CG.out)
      have H5 := hide (H4.out.turn T5 (by have := CL.out; omega))
      have RZ5 := hide (RZ4.out.turn T5 (by have := CL.out; omega))
      have TW5 := hide (turn_up TW4.out T5 (by have := CL.out; omega))
      refine hK _ _ (fun h => absurd h (by decide)) ?_
      clear hK K T5 RC4 OO4 H4 RZ4 TW4 z2 f2
      try simp only [Act.put, List.setIfInBounds_toArray, List.set]
      generalize w4.setCell ⟨Cb, 2, none⟩ (.slice (some ⟨g4, 0, none⟩) (no + 1) c4) = w5 at RC5 OO5 H5 RZ5 TW5 ⊢
      refine PhaseIn.done (by kernel_rfl) ?_ _
      have z2 := RC5.out.cell 2 _ rfl
      have QC5 : Hid (∀ G, (some ⟨g4, 0, none⟩ : Option Addr) = some ⟨G, 0, none⟩ → G ≠ Cb) := fun G e => by cases e; exact CG.out
      have pp := H5.out.few
      have MD : ∀ (v : World) (s' : Rs), RE v Z B q n c ys af am an s' → (s'.e.isSome = true ∨ s.p < s'.p) → meas Z n v < meas Z n wr := fun v s' hv hs => by
        have e1 := meas_of hv.r
        have e2 := M0.out
        obtain ⟨q1, q2⟩ := MM.out
        rw [LN.out] at q2
        rw [e1, e2, if_pos q1]
        rcases hs with hs | hs
        · rw [if_neg (by cases hq : s'.e <;> simp [hq] at hs ⊢)]
          omega
        · split <;> omega
      have MDH := hide MD
      have S6 : Hid ((st ys af s 6).e.isSome = true ∨ s.p < (st ys af s 6).p) := by
        obtain ⟨p0, e0⟩ := s
        obtain ⟨q1, q2⟩ := MM.out
        simp only [Option.isNone_iff_eq_none] at q1 q2
        subst q1
        by_cases h6 : p0 + 6 ≤ ys.length
        · exact Or.inr (by rw [st_ok af 6 h6]; show p0 < p0 + 6; omega)
        · exact Or.inl (st_short af (by omega) (by omega))
      clear MD
      by_cases h48 : no + 1 > 48
      · rw [if_pos h48] at NX
        have lk : ((48 : Int)) < (no : Int) + 1 := by omega
        have e2 := H5.out.e.many
        simp only [evv] at e2
        go_wp2_with fail
        refine (failE Z B q n c ys _ af am an am w5 H5.out).mono ?_
        rintro r w6 ⟨rfl, R, T⟩
        have FIN := hide (MDH.out w6 _ R (Or.inl (by cases (st ys af s 6).e <;> rfl)))
        have H6 := hide R
        have OO6 := hide (OO5.out.turn T (Or.inl (by have := CL.out; omega)))
        have RC6 := hide (RC5.out.turn T (by have := CL.out; omega))
        have RZ6 := hide (RZ5.out.turn T (by have := CL.out; omega))
        have TW6 := hide (TW5.out.trans T)
        clear R T H5 OO5 RC5 RZ5 TW5 e2 z2 S6 MDH
        go_wp2
        exact ⟨⟨_, _, _, _, _, H6, NX, OO6, RC6, RZ6, TW6, QC5⟩, FIN.out⟩
      · rw [if_neg h48] at NX
        have lk : ¬ ((48 : Int)) < (no : Int) + 1 := by omega
        have FIN := hide (MDH.out w5 _ H5.out S6.out)
        clear S6 MDH
        go_wp2
        exact ⟨⟨_, _, _, _, _, H5, NX, OO5, RC5, RZ5, TW5, QC5⟩, FIN.out⟩
    | false =>
      have MM : Hid (¬ (s.e.isNone = true ∧ s.p < ys.length)) := fun h => by
        have := EM.out
        rw [h.1, decide_eq_true (by rw [← LN.out]; exact h.2)] at this
        cases this
      have LS := hide (INV.out.last an MM.out)
      obtain ⟨bs, hrow⟩ := rowO OO.out
      have HR := hide hrow
      have TBS := hide (TB.out u TW.out)
      have z0 := RC.out.cell 0 _ rfl
      have z1 := RC.out.cell 1 _ rfl
      have z2 := RC.out.cell 2 _ rfl
      have z3 := RC.out.cell 3 _ rfl
      have z4 := RC.out.cell 4 _ rfl
      have z5 := RC.out.cell 5 _ rfl
      have z6 := RC.out.cell 6 _ rfl
      clear hrow INV
      go_wp2_with fail
      refine (implIrOk (⟨pc, ln, os, en, x, y, k⟩ : Bk) [.int .i64 pc, .int .i64 ln, .slice qo no co, .int .i64 en, .int .i64 x, .int .i64 y, .int .i64 k] u ⟨qo, co, bs, by unfold bv; rw [OL.out], by rw [OL.out]; exact HR.out⟩ TBS.out.1 TBS.out.2).mono ?_
      rintro r v ⟨rfl, hb⟩
      clear z0 z1 z2 z3 z4 z5 z6 HR TBS
      replace H1 := hide (H1.out.below hb)
      replace OO := hide (OO.out.below hb)
      replace RC := hide (RC.out.below hb)
      replace RZ := hide (RZ.out.below hb)
      replace TW := hide (TW.out.trans (Turn.of_below hb))
      clear hb
      obtain ⟨bo, eo⟩ : ∃ z, okB (⟨pc, ln, os, en, x, y, k⟩ : Bk) = z := ⟨_, rfl⟩
      rw [eo] at LS ⊢
      clear eo
      have REST : ∀ (V : World) (s' : Rs), Hid (RE V Z B q n c ys af am an s') → Hid (OwnO V (w.heap.size + 1) (.slice qo no co) os) → Hid (Rec Cb [.int .i64 pc, .int .i64 ln, .slice qo no co, .int .i64 en, .int .i64 x, .int .i64 y, .int .i64 k] V) → Hid (Rec w.heap.size [.int .i64 0, .int .i64 0, .slice none 0 0, .int .i64 0, .int .i64 0, .int .i64 0, .int .i64 0] V) → Hid (Turn Z w V) → Hid ((s'.e = none ∧ readOk ys = true ∧ (⟨pc, ln, os, en, x, y, k⟩ : Bk) = readB ys) ∨ (s'.e.isSome = true ∧ readOk ys = false)) → ∀ v', Hid (Rec w.heap.size [.int .i64 pc, .int .i64 ln, .slice qo no co, .int .i64 en, .int .i64 x, .int .i64 y, .int .i64 k] v') → Hid (Turn w.heap.size V v') →
          ∃ (b : Bk) (s : Rs) (q' : Option Addr) (c' : Nat), (Ending.returned (.agg #[.int .i64 pc, .int .i64 ln, .slice qo no co, .int .i64 en, .int .i64 x, .int .i64 y, .int .i64 k])) = .returned (.agg #[.int .i64 b.pc, .int .i64 b.ln, .slice q' b.ops.length c', .int .i64 b.en, .int .i64 b.x, .int .i64 b.y, .int .i64 b.k]) ∧ OwnO v' w.heap.size (.slice q' b.ops.length c') b.ops ∧ RE v' Z B q n c ys af am an s ∧ ((s.e = none ∧ readOk ys = true ∧ b = readB ys) ∨ (s.e.isSome = true ∧ readOk ys = false)) ∧ Turn Z w v' := fun V s' G1 G2 G3 G4 G5 G6 v' G7 G8 =>
        ⟨(⟨pc, ln, os, en, x, y, k⟩ : Bk), s', qo, co, by rw [OL.out], by rw [OL.out]; exact (G2.out.turn G8.out (Or.inl (by omega))).mono (by omega), G1.out.turn G8.out (by have := CL.out; omega), G6.out, turn_up G5.out G8.out (Nat.le_refl _)⟩
      have RH := hide REST
      clear REST
      cases bo with
      | true =>
        rw [if_pos rfl] at LS
        have z0 := RC.out.cell 0 _ rfl
        have z1 := RC.out.cell 1 _ rfl
        have z2 := RC.out.cell 2 _ rfl
        have z3 := RC.out.cell 3 _ rfl
        have z4 := RC.out.cell 4 _ rfl
        have z5 := RC.out.cell 5 _ rfl
        have z6 := RC.out.cell 6 _ rfl
        go_wp2_with (refine lay7 rfl rfl _ _ rfl w.heap.size _ _ _ _ _ _ _ RZ.out rfl _ _ _ _ _ _ _ _ _ rfl ?_; intro p1 RB TX; refine Hid.out ?_)
        have FIN := hide (RH.out v _ H1 OO RC RZ TW LS p1 RB TX)
        clear TX RZ H1 OO TW z0 z1 z2 z3 z4 z5 z6
        refine hide ?_
        have y0 := RB.out.cell 0 _ rfl
        have y1 := RB.out.cell 1 _ rfl
        have y2 := RB.out.cell 2 _ rfl
        have y3 := RB.out.cell 3 _ rfl
        have y4 := RB.out.cell 4 _ rfl
        have y5 := RB.out.cell 5 _ rfl
        have y6 := RB.out.cell 6 _ rfl
        go_wp2
        exact bodyPost_ret (v := .agg #[.int .i64 pc, .int .i64 ln, .slice qo no co, .int .i64 en, .int .i64 x, .int .i64 y, .int .i64 k]) (by simp [results, Tryd.results43, go_sem, y0, y1, y2, y3, y4, y5, y6]) rfl FIN.out
      | false =>
        rw [if_neg (by decide)] at LS
        have e2 := H1.out.e.notOk
        simp only [evv] at e2
        go_wp2_with fail
        refine (failE Z B q n c ys _ af am an an v H1.out).mono ?_
        rintro r v2 ⟨rfl, R, T⟩
        have H6 := hide R
        have OO6 := hide (OO.out.turn T (Or.inl (by have := CL.out; omega)))
        have RC6 := hide (RC.out.turn T (by have := CL.out; omega))
        have RZ6 := hide (RZ.out.turn T (by have := CL.out; omega))
        have TW6 := hide (TW.out.trans T)
        clear R T H1 OO RC RZ TW e2
        have z0 := RC6.out.cell 0 _ rfl
        have z1 := RC6.out.cell 1 _ rfl
        have z2 := RC6.out.cell 2 _ rfl
        have z3 := RC6.out.cell 3 _ rfl
        have z4 := RC6.out.cell 4 _ rfl
        have z5 := RC6.out.cell 5 _ rfl
        have z6 := RC6.out.cell 6 _ rfl
        go_wp2_with (refine lay7 rfl rfl _ _ rfl w.heap.size _ _ _ _ _ _ _ RZ6.out rfl _ _ _ _ _ _ _ _ _ rfl ?_; intro p1 RB TX; refine Hid.out ?_)
        have FIN := hide (RH.out v2 _ H6 OO6 RC6 RZ6 TW6 LS p1 RB TX)
        clear TX RZ6 H6 OO6 TW6 z0 z1 z2 z3 z4 z5 z6
        refine hide ?_
        have y0 := RB.out.cell 0 _ rfl
        have y1 := RB.out.cell 1 _ rfl
        have y2 := RB.out.cell 2 _ rfl
        have y3 := RB.out.cell 3 _ rfl
        have y4 := RB.out.cell 4 _ rfl
        have y5 := RB.out.cell 5 _ rfl
        have y6 := RB.out.cell 6 _ rfl
        go_wp2
        exact bodyPost_ret (v := .agg #[.int .i64 pc, .int .i64 ln, .slice qo no co, .int .i64 en, .int .i64 x, .int .i64 y, .int .i64 k]) (by simp [results, Tryd.results43, go_sem, y0, y1, y2, y3, y4, y5, y6]) rfl FIN.out
end Go.Proofs.YtkeelacobknfbaaDoor.Wr
