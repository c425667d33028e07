/-
  At every code of bytes the law FnMchNew returns true (P19: a machine begins with the words that it is given, at place 0, with noughts in its registers and behind the words, nothing went out, and no interrupt is let in); no condition.
  The frame (the steps lifted, over, proved) is the guide's shell, written by its program; the walk and the lemmas ahead of it are mine.
-/
import Derived.Test.YtpbpabcokfblfaaRows
import Derived.WalkKit
import Derived.ProofKit
import Derived.OpenShut
import Derived.Test.YtpbpabcokfblfaaNwD
import Derived.Test.YtpbpabcokfblfaaMchN
import Derived.Test.YtpbpabcokfblfaaMchO
import Derived.Test.YtpbpabcokfblfaaMchI
import Derived.Test.YtpbpabcokfblfaaLaM
import Derived.Test.YtpbpabcokfblfaaPhaseIn
import Derived.ShutString
import Derived.ChangeOld
import Derived.Below
namespace Go.Proofs.Ytpbpabcokfblfaa.fnMchNew
open Go.ChangeShapes Go.WideShapes Go.ChangeAt Go.RowKit
open Go.ChangeMaps (open_string shut_string)
set_option linter.unusedVariables false

theorem own : ownKnob Try.prog.godebug = none := by kernel_rfl
theorem laidOut : laidOutB Try.prog = true := by kernel_rfl

def IsRow (k : IntKind) (w : World) (a : Option Addr) (len cap : Nat) (zs : List Int) : Prop :=
  (a = none ∧ len = 0 ∧ cap = 0 ∧ zs = []) ∨
  ∃ x, a = some x ∧ len ≤ cap ∧ cap ≤ maxLen ∧ zs.length = cap ∧ (∀ i, i < zs.length → w.cell? (x.add i) = some (.int k (zs.getD i 0))) ∧ ∀ n ∈ zs, (Lit.int k n).wf = true

open IntS Mch
set_option linter.unusedVariables false
set_option linter.unusedSimpArgs false
theorem rforms {w : World} {c : List Value} {m : M} (h : RMach w c m) : ∃ q1 q2 q3 q4 k1 k2 k3 k4, c = mv m (.slice q1 m.regs.length k1) (.slice q2 m.mem.length k2) (.slice q3 m.ins.length k3) (.slice q4 m.outs.length k4) := by
  obtain ⟨r, e, i, o, b1, b2, b3, b4, hc, h1, h2, h3, h4⟩ := h
  obtain ⟨q1, k1, _, rfl, _⟩ := h1
  obtain ⟨q2, k2, _, rfl, _⟩ := h2
  obtain ⟨q3, k3, _, rfl, _⟩ := h3
  obtain ⟨q4, k4, _, rfl, _⟩ := h4
  exact ⟨q1, q2, q3, q4, k1, k2, k3, k4, hc⟩
theorem rrows {w : World} {m : M} {q1 q2 q3 q4 : Option Addr} {n1 n2 n3 n4 k1 k2 k3 k4 : Nat} (h : RMach w (mv m (.slice q1 n1 k1) (.slice q2 n2 k2) (.slice q3 n3 k3) (.slice q4 n4 k4)) m) : (∃ B, Row w B (.slice q1 n1 k1) m.regs) ∧ (∃ B, Row w B (.slice q2 n2 k2) m.mem) ∧ (∃ B, Row w B (.slice q3 n3 k3) m.ins) := by
  obtain ⟨r, e, i, o, b1, b2, b3, b4, hc, h1, h2, h3, h4⟩ := h
  simp only [mv, List.cons.injEq, and_true, true_and] at hc
  obtain ⟨rfl, rfl, rfl, rfl⟩ := hc
  exact ⟨⟨b1, h1⟩, ⟨b2, h2⟩, ⟨b3, h3⟩⟩
theorem row_take {w : World} {B m c N : Nat} {q : Option Addr} {ws : List Int} (h : Row w B (.slice q m c) ws) (hN : N ≤ m) : Row w B (.slice q N c) (ws.take N) := by
  obtain ⟨a, cap, off, h1, h2, h3, hz, h4⟩ := h
  injection h1 with i1 i2 i3
  subst i1 i2 i3
  have el : (ws.take N).length = N := by simp; omega
  refine ⟨q, c, off, by rw [el], by omega, h3, hz, ?_⟩
  rcases h4 with rfl | ⟨e, hc⟩
  · left; simp
  · refine Or.inr ⟨e, fun i x hx => hc i x ?_⟩
    have hi := (List.getElem?_eq_some_iff.1 hx).1
    rw [el] at hi
    rw [List.getElem?_take_of_lt hi] at hx
    exact hx
theorem row_cap {w : World} {B m c : Nat} {q : Option Addr} {ws : List Int} (h : Row w B (.slice q m c) ws) : m ≤ c ∧ c ≤ maxLen := by
  obtain ⟨a, cap, off, h1, h2, h3, _⟩ := h
  injection h1 with i1 i2 i3
  subst i2 i3
  exact ⟨h2, h3⟩
theorem row_form {w : World} {B m c : Nat} {q : Option Addr} {ws : List Int} (h : Row w B (.slice q m c) ws) (hm : 0 < m) : ∃ off, q = some ⟨B, off, none⟩ ∧ ∀ (i : Nat) x, ws[i]? = some x → w.cell? ⟨B, off + i, none⟩ = some (.int .i64 x) := by
  obtain ⟨a, cap, off, h1, h2, h3, hz, h4⟩ := h
  injection h1 with i1 i2 i3
  subst i1 i2 i3
  rcases h4 with rfl | ⟨e, hc⟩
  · simp at hm
  · exact ⟨off, e, hc⟩
theorem zeros {ws : List Int} {n k : Nat} (hn : ws.length = n) (h1 : n ≤ k) (h2 : k < 64) : (ws ++ List.replicate (64 - ws.length) (0 : Int))[k]? = some 0 := by
  rw [List.getElem?_append_right (by omega), List.getElem?_replicate]
  simp
  omega
theorem memlen {ws : List Int} (h : ws.length ≤ 64) : (ws ++ List.replicate (64 - ws.length) (0 : Int)).length = 64 := by simp; omega
theorem memtake {ws : List Int} {n : Nat} (h : ws.length = n) : (ws ++ List.replicate (64 - ws.length) (0 : Int)).take n = ws := by
  subst h
  simp
theorem new_okM {ws is : List Int} (h1 : ws.length ≤ 64) (h2 : wordsB ws = true) (h3 : wordsB is = true) : okM (newM ws is) = true := by
  unfold wordsB at h2 h3
  unfold okM newM wordsB
  simp only [List.all_append, h2, h3, List.all_replicate, List.length_append, List.length_replicate]
  have e : ws.length + (64 - ws.length) = 64 := by omega
  rw [e]
  simp [Wrd.wok, Ins.inB]
theorem drew_below (w : World) : Below w.heap.size w w.drew := (Below.refl _ _).drew
theorem lit4 (w : World) : Row (w.alloc (.cells #[.int .i64 0, .int .i64 0, .int .i64 0, .int .i64 0] 3)) w.heap.size (.slice (some ⟨w.heap.size, 0, none⟩) 4 4) [0, 0, 0, 0] :=
  ⟨some ⟨w.heap.size, 0, none⟩, 4, 0, rfl, Nat.le_refl _, by unfold maxLen; omega, (fun e => by cases e), Or.inr ⟨rfl, fun i x hx => by
    rw [World.cell?_alloc_new, Nat.zero_add]
    match i, hx with
    | 0, hx => cases hx; rfl
    | 1, hx => cases hx; rfl
    | 2, hx => cases hx; rfl
    | 3, hx => cases hx; rfl
    | i + 4, hx => simp at hx⟩⟩

set_option maxRecDepth 8000 in
set_option maxHeartbeats 16000000 in
theorem walk (a0 : Option Addr) (len0 cap0 : Nat) (z0 : List Int) (w : World) (w0 : IsRow .u8 w a0 len0 cap0 z0) :
    Calls Try.prog 3 #[.slice a0 len0 cap0] w fun e w' => e = .returned (.bool true) ∧ Below w.heap.size w w' := by
  obtain ⟨hlc, hm, hc⟩ := Draw.code_row w a0 len0 cap0 z0 w0
  by_cases hl : 1048576 < len0
  · unfold maxLen at hm
    go_enter Try.func3, Try.ntmps3
    go_wp2
    go_ret
    exact ⟨rfl, Below.refl _ _⟩
  clear w0
  go_enter Try.func3, Try.ntmps3
  go_wp2_with fail
  refine (Draw.drawNew a0 len0 cap0 _ hlc hm hc).mono ?_
  rintro e va ⟨g1, n1, c1, ws, g2, n2, c2, is, B1, B2, rfl, l1, n66, l2, n4, r1, r2, hb⟩
  have R1 := hide r1
  have R2 := hide r2
  have BW := hide hb
  have E1 := hide l1
  have E2 := hide l2
  clear hc hm hlc r1 r2 hb
  go_wp2_with fail
  refine (MchI.mchNew ws is B1 B2 _ _ va R1.out R2.out (by rw [E2.out]; omega)).mono ?_
  rintro e vb ⟨c, rfl, WM, hb⟩
  have RM := WM.read
  replace R1 := hide (R1.out.below hb)
  replace R2 := hide (R2.out.below hb)
  replace BW := hide (BW.out.trans (hb.mono BW.out.size))
  clear hb WM l1 l2
  cases hk : (decide (ws.length ≤ 64) && wordsB ws && wordsB is) with
  | false =>
    have NE := hide (new_no hk)
    clear hk
    rw [NE.out] at RM
    obtain ⟨q1, q2, q3, q4, k1, k2, k3, k4, rfl⟩ := rforms RM
    have RC : RMach vb [.slice q1 0 k1, .int .i64 0, .slice q2 0 k2, .int .i64 0, .bool false, .bool false, .int .i64 0, .slice q3 0 k3, .slice q4 0 k4, .int .i64 0] (emptyM) := RM
    clear RM
    have RM := hide RC
    clear RC
    show _
    have Z := hide (Rec.new vb [.slice q1 0 k1, .int .i64 0, .slice q2 0 k2, .int .i64 0, .bool false, .bool false, .int .i64 0, .slice q3 0 k3, .slice q4 0 k4, .int .i64 0] 27)
    have b1 : Below vb.heap.size vb (vb.alloc (.cells #[.slice q1 0 k1, .int .i64 0, .slice q2 0 k2, .int .i64 0, .bool false, .bool false, .int .i64 0, .slice q3 0 k3, .slice q4 0 k4, .int .i64 0] 27)) := (Below.refl _ _).alloc (Nat.le_refl _) _
    replace RM := hide (RM.out.below b1)
    replace R1 := hide (R1.out.below b1)
    replace R2 := hide (R2.out.below b1)
    replace BW := hide (BW.out.trans (b1.mono BW.out.size))
    clear b1
    simp only [mv, newM, emptyM]
    go_wp2_with fail
    generalize hX : vb.heap.size = X at Z ⊢
    clear hX
    generalize vb.alloc (.cells #[.slice q1 0 k1, .int .i64 0, .slice q2 0 k2, .int .i64 0, .bool false, .bool false, .int .i64 0, .slice q3 0 k3, .slice q4 0 k4, .int .i64 0] 27) = vc at Z RM R1 R2 BW ⊢
    replace Z := hide Z.out.drew
    replace RM := hide (RM.out.below (drew_below vc))
    replace R1 := hide (R1.out.below (drew_below vc))
    replace R2 := hide (R2.out.below (drew_below vc))
    replace BW := hide (BW.out.trans ((drew_below vc).mono BW.out.size))
    refine (wpIn_wide (n := 0)).1 ?_
    refine PhaseIn.region (S := fun v => Rec X [.slice q1 0 k1, .int .i64 0, .slice q2 0 k2, .int .i64 0, .bool false, .bool false, .int .i64 0, .slice q3 0 k3, .slice q4 0 k4, .int .i64 0] v) 6 (by kernel_rfl) ?_
    generalize vc.drew = vd at *
    have hHeld := Z.out
    clear Z
    refine PhaseIn.takeD (i := 0) (v := ?_) [0, 4, 5] 18 rfl (by rfl) (by kernel_rfl) (by kernel_rfl) (by kernel_rfl) (by kernel_rfl) (by kernel_rfl) (fun _ _ _ h => h) (Or.inl ⟨by kernel_rfl, ?_⟩) hHeld ?_
    rotate_left
    · intro w' hSw
      (try dsimp only at hSw)
      have z0 := hSw.cell 0 _ rfl
      have z1 := hSw.cell 1 _ rfl
      have z2 := hSw.cell 2 _ rfl
      have z3 := hSw.cell 3 _ rfl
      have z4 := hSw.cell 4 _ rfl
      have z5 := hSw.cell 5 _ rfl
      have z6 := hSw.cell 6 _ rfl
      have z7 := hSw.cell 7 _ rfl
      have z8 := hSw.cell 8 _ rfl
      have z9 := hSw.cell 9 _ rfl
      go_simp
      first | done | with_reducible rfl
    try simp only [Act.put, List.setIfInBounds_toArray, List.set]
    refine PhaseIn.takeD (i := 1) (v := ?_) [1, 3, 4, 5] 19 rfl (by rfl) (by kernel_rfl) (by kernel_rfl) (by kernel_rfl) (by kernel_rfl) (by kernel_rfl) (fun _ _ _ h => h) (Or.inl ⟨by kernel_rfl, ?_⟩) hHeld ?_
    rotate_left
    · intro w' hSw
      (try dsimp only at hSw)
      go_simp
      first | done | with_reducible rfl
    try simp only [Act.put, List.setIfInBounds_toArray, List.set]
    refine PhaseIn.takeD (i := 2) (v := ?_) [2, 3, 4, 5] 20 rfl (by rfl) (by kernel_rfl) (by kernel_rfl) (by kernel_rfl) (by kernel_rfl) (by kernel_rfl) (fun _ _ _ h => h) (Or.inl ⟨by kernel_rfl, ?_⟩) hHeld ?_
    rotate_left
    · intro w' hSw
      (try dsimp only at hSw)
      go_simp
      first | done | with_reducible rfl
    try simp only [Act.put, List.setIfInBounds_toArray, List.set]
    refine PhaseIn.one (i := 3) (by kernel_rfl) rfl (by kernel_rfl) (fun K hK => ?_)
    unfold Oper.wpIn
    refine ⟨fun _ _ => trivial, ?_⟩
    go_simp
    refine ⟨rfl, (callsIn_wide.2 (specNew ws is B1 B2 _ _ vd R1.out R2.out (by rw [E2.out]; omega))).mono ?_⟩
    rintro e ve ⟨c', rfl, WM, hb⟩
    have RN := WM.read
    rw [NE.out] at RN
    replace RM := hide (RM.out.below hb)
    replace R1 := hide (R1.out.below hb)
    replace R2 := hide (R2.out.below hb)
    replace BW := hide (BW.out.trans (hb.mono BW.out.size))
    replace hHeld := hHeld.below hb
    clear hb WM
    refine hK _ _ (fun _ => hHeld) ?_
    clear hK K
    try simp only [Act.put, List.setIfInBounds_toArray, List.set]
    refine PhaseIn.one (i := 4) (by kernel_rfl) rfl (by kernel_rfl) (fun K hK => ?_)
    unfold Oper.wpIn
    refine ⟨fun _ _ => trivial, ?_⟩
    go_simp
    refine ⟨rfl, (callsIn_wide.2 (La.laMach (emptyM) [.slice q1 0 k1, .int .i64 0, .slice q2 0 k2, .int .i64 0, .bool false, .bool false, .int .i64 0, .slice q3 0 k3, .slice q4 0 k4, .int .i64 0] c' ve RM.out RN)).mono ?_⟩
    rintro e vf ⟨rfl, hb⟩
    replace RM := hide (RM.out.below hb)
    replace R1 := hide (R1.out.below hb)
    replace R2 := hide (R2.out.below hb)
    replace BW := hide (BW.out.trans (hb.mono BW.out.size))
    replace hHeld := hHeld.below hb
    clear hb RN
    refine hK _ _ (fun _ => hHeld) ?_
    clear hK K
    try simp only [Act.put, List.setIfInBounds_toArray, List.set]
    refine PhaseIn.takeD (i := 5) (v := ?_) [5] 23 rfl (by rfl) (by kernel_rfl) (by kernel_rfl) (by kernel_rfl) (by kernel_rfl) (by kernel_rfl) (fun _ _ _ h => h) (Or.inl ⟨by kernel_rfl, ?_⟩) hHeld ?_
    rotate_left
    · intro w' hSw
      (try dsimp only at hSw)
      go_simp
      first | done | with_reducible rfl
    try simp only [Act.put, List.setIfInBounds_toArray, List.set]
    refine PhaseIn.done (by kernel_rfl) ?_ _
    have Z := hide hHeld
    clear hHeld
    have z0 := Z.out.cell 0 _ rfl
    have z2 := Z.out.cell 2 _ rfl
    clear RM R1 R2 NE E1 E2
    go_wp2_with fail
    refine (La.laOk vf).mono ?_
    rintro e wz ⟨rfl, rfl⟩
    go_wp2
    go_ret
    exact ⟨rfl, BW.out⟩
  | true =>
    simp only [Bool.and_eq_true, decide_eq_true_eq] at hk
    obtain ⟨⟨h64, hw1⟩, hw2⟩ := hk
    have NE := hide (new_yes h64 hw1 hw2)
    have OK := hide (new_okM h64 hw1 hw2)
    clear hw1 hw2
    rw [NE.out] at RM
    obtain ⟨q1, q2, q3, q4, k1, k2, k3, k4, rfl⟩ := rforms RM
    have e1 : (newM ws is).regs.length = 4 := rfl
    have e2 : (newM ws is).mem.length = 64 := memlen h64
    have e3 : (newM ws is).ins.length = n2 := E2.out
    have e4 : (newM ws is).outs.length = 0 := rfl
    rw [e1, e2, e3, e4] at RM ⊢
    clear e1 e2 e3 e4
    have RC : RMach vb [.slice q1 4 k1, .int .i64 0, .slice q2 64 k2, .int .i64 0, .bool false, .bool false, .int .i64 0, .slice q3 n2 k3, .slice q4 0 k4, .int .i64 0] (newM ws is) := RM
    clear RM
    have RM := hide RC
    clear RC
    show _
    have Z := hide (Rec.new vb [.slice q1 4 k1, .int .i64 0, .slice q2 64 k2, .int .i64 0, .bool false, .bool false, .int .i64 0, .slice q3 n2 k3, .slice q4 0 k4, .int .i64 0] 27)
    have b1 : Below vb.heap.size vb (vb.alloc (.cells #[.slice q1 4 k1, .int .i64 0, .slice q2 64 k2, .int .i64 0, .bool false, .bool false, .int .i64 0, .slice q3 n2 k3, .slice q4 0 k4, .int .i64 0] 27)) := (Below.refl _ _).alloc (Nat.le_refl _) _
    replace RM := hide (RM.out.below b1)
    replace R1 := hide (R1.out.below b1)
    replace R2 := hide (R2.out.below b1)
    replace BW := hide (BW.out.trans (b1.mono BW.out.size))
    clear b1
    simp only [mv, newM, emptyM]
    go_wp2_with fail
    generalize hX : vb.heap.size = X at Z ⊢
    clear hX
    generalize vb.alloc (.cells #[.slice q1 4 k1, .int .i64 0, .slice q2 64 k2, .int .i64 0, .bool false, .bool false, .int .i64 0, .slice q3 n2 k3, .slice q4 0 k4, .int .i64 0] 27) = vc at Z RM R1 R2 BW ⊢
    replace Z := hide Z.out.drew
    replace RM := hide (RM.out.below (drew_below vc))
    replace R1 := hide (R1.out.below (drew_below vc))
    replace R2 := hide (R2.out.below (drew_below vc))
    replace BW := hide (BW.out.trans ((drew_below vc).mono BW.out.size))
    refine (wpIn_wide (n := 0)).1 ?_
    refine PhaseIn.region (S := fun v => Rec X [.slice q1 4 k1, .int .i64 0, .slice q2 64 k2, .int .i64 0, .bool false, .bool false, .int .i64 0, .slice q3 n2 k3, .slice q4 0 k4, .int .i64 0] v) 6 (by kernel_rfl) ?_
    generalize vc.drew = vd at *
    have hHeld := Z.out
    clear Z
    refine PhaseIn.takeD (i := 0) (v := ?_) [0, 4, 5] 18 rfl (by rfl) (by kernel_rfl) (by kernel_rfl) (by kernel_rfl) (by kernel_rfl) (by kernel_rfl) (fun _ _ _ h => h) (Or.inl ⟨by kernel_rfl, ?_⟩) hHeld ?_
    rotate_left
    · intro w' hSw
      (try dsimp only at hSw)
      have z0 := hSw.cell 0 _ rfl
      have z1 := hSw.cell 1 _ rfl
      have z2 := hSw.cell 2 _ rfl
      have z3 := hSw.cell 3 _ rfl
      have z4 := hSw.cell 4 _ rfl
      have z5 := hSw.cell 5 _ rfl
      have z6 := hSw.cell 6 _ rfl
      have z7 := hSw.cell 7 _ rfl
      have z8 := hSw.cell 8 _ rfl
      have z9 := hSw.cell 9 _ rfl
      go_simp
      first | done | with_reducible rfl
    try simp only [Act.put, List.setIfInBounds_toArray, List.set]
    refine PhaseIn.takeD (i := 1) (v := ?_) [1, 3, 4, 5] 19 rfl (by rfl) (by kernel_rfl) (by kernel_rfl) (by kernel_rfl) (by kernel_rfl) (by kernel_rfl) (fun _ _ _ h => h) (Or.inl ⟨by kernel_rfl, ?_⟩) hHeld ?_
    rotate_left
    · intro w' hSw
      (try dsimp only at hSw)
      go_simp
      first | done | with_reducible rfl
    try simp only [Act.put, List.setIfInBounds_toArray, List.set]
    refine PhaseIn.takeD (i := 2) (v := ?_) [2, 3, 4, 5] 20 rfl (by rfl) (by kernel_rfl) (by kernel_rfl) (by kernel_rfl) (by kernel_rfl) (by kernel_rfl) (fun _ _ _ h => h) (Or.inl ⟨by kernel_rfl, ?_⟩) hHeld ?_
    rotate_left
    · intro w' hSw
      (try dsimp only at hSw)
      go_simp
      first | done | with_reducible rfl
    try simp only [Act.put, List.setIfInBounds_toArray, List.set]
    refine PhaseIn.one (i := 3) (by kernel_rfl) rfl (by kernel_rfl) (fun K hK => ?_)
    unfold Oper.wpIn
    refine ⟨fun _ _ => trivial, ?_⟩
    go_simp
    refine ⟨rfl, (callsIn_wide.2 (specNew ws is B1 B2 _ _ vd R1.out R2.out (by rw [E2.out]; omega))).mono ?_⟩
    rintro e ve ⟨c', rfl, WM, hb⟩
    have RN := WM.read
    rw [NE.out] at RN
    replace RM := hide (RM.out.below hb)
    replace R1 := hide (R1.out.below hb)
    replace R2 := hide (R2.out.below hb)
    replace BW := hide (BW.out.trans (hb.mono BW.out.size))
    replace hHeld := hHeld.below hb
    clear hb WM
    refine hK _ _ (fun _ => hHeld) ?_
    clear hK K
    try simp only [Act.put, List.setIfInBounds_toArray, List.set]
    refine PhaseIn.one (i := 4) (by kernel_rfl) rfl (by kernel_rfl) (fun K hK => ?_)
    unfold Oper.wpIn
    refine ⟨fun _ _ => trivial, ?_⟩
    go_simp
    refine ⟨rfl, (callsIn_wide.2 (La.laMach (newM ws is) [.slice q1 4 k1, .int .i64 0, .slice q2 64 k2, .int .i64 0, .bool false, .bool false, .int .i64 0, .slice q3 n2 k3, .slice q4 0 k4, .int .i64 0] c' ve RM.out RN)).mono ?_⟩
    rintro e vf ⟨rfl, hb⟩
    replace RM := hide (RM.out.below hb)
    replace R1 := hide (R1.out.below hb)
    replace R2 := hide (R2.out.below hb)
    replace BW := hide (BW.out.trans (hb.mono BW.out.size))
    replace hHeld := hHeld.below hb
    clear hb RN
    refine hK _ _ (fun _ => hHeld) ?_
    clear hK K
    try simp only [Act.put, List.setIfInBounds_toArray, List.set]
    refine PhaseIn.takeD (i := 5) (v := ?_) [5] 23 rfl (by rfl) (by kernel_rfl) (by kernel_rfl) (by kernel_rfl) (by kernel_rfl) (by kernel_rfl) (fun _ _ _ h => h) (Or.inl ⟨by kernel_rfl, ?_⟩) hHeld ?_
    rotate_left
    · intro w' hSw
      (try dsimp only at hSw)
      go_simp
      first | done | with_reducible rfl
    try simp only [Act.put, List.setIfInBounds_toArray, List.set]
    refine PhaseIn.done (by kernel_rfl) ?_ _
    have Z := hide hHeld
    clear hHeld
    have z0 := Z.out.cell 0 _ rfl
    have z2 := Z.out.cell 2 _ rfl
    have n64 : n1 ≤ 64 := by have := E1.out; omega
    obtain ⟨⟨D1, t1⟩, ⟨D2, t2⟩, ⟨D3, t3⟩⟩ := rrows (m := newM ws is) RM.out
    obtain ⟨off, rfl, hcell⟩ := row_form t2 (by omega)
    have HC := hide hcell
    have T1 := hide t1
    have T2 := hide (row_take t2 n64)
    have T3 := hide t3
    obtain ⟨cc1, cc2⟩ := row_cap t2
    unfold maxLen at cc2
    have TK := hide (memtake E1.out)
    have CC := hide (And.intro cc1 cc2)
    have N64 := hide n64
    have EW := hide E1.out
    have RMH := RM
    clear t1 t2 t3 hcell RM z0 cc1 cc2
    go_wp2
    go_loopw [6] (fun i wr => ∃ k : Nat, n1 ≤ k ∧ k ≤ 64 ∧ i = .int .i64 (k : Int) ∧ wr = vf) (fun i _ => 64 - (intOf i).toNat)
    case atStart => exact ⟨n1, Nat.le_refl _, n64, rfl, rfl⟩
    case round =>
      obtain ⟨k, hk1, hk2, rfl, rfl⟩ := hrel
      by_cases hlt : k < 64
      · have lk : (k : Int) < 64 := by omega
        have ck := HC.out k 0 (zeros EW.out hk1 hlt)
        go_wp2
        exact ⟨⟨k + 1, by omega, by omega, by go_num, trivial⟩, by simp [intOf]; omega⟩
      · have lk : ¬ (k : Int) < 64 := by omega
        have z0 := Z.out.cell 0 _ rfl
        have z1 := Z.out.cell 1 _ rfl
        have z3 := Z.out.cell 3 _ rfl
        have z4 := Z.out.cell 4 _ rfl
        have z5 := Z.out.cell 5 _ rfl
        have z6 := Z.out.cell 6 _ rfl
        have z7 := Z.out.cell 7 _ rfl
        have z8 := Z.out.cell 8 _ rfl
        have z9 := Z.out.cell 9 _ rfl
        have RMM : RMach wr [.slice q1 4 k1, .int .i64 0, .slice (some ⟨D2, off, none⟩) 64 k2, .int .i64 0, .bool false, .bool false, .int .i64 0, .slice q3 n2 k3, .slice q4 0 k4, .int .i64 0] (newM ws is) := RMH.out
        go_wp2_with fail
        refine (MchI.mchOk (newM ws is) _ wr RMM).mono ?_
        rintro e u1 ⟨he, hb⟩
        rw [OK.out] at he
        subst he
        clear RMM z0 z1 z2 z3 z4 z5 z6 z7 z8 z9
        replace Z := hide (Z.out.below hb)
        replace T1 := hide (T1.out.below hb)
        replace T2 := hide (T2.out.below hb)
        replace T3 := hide (T3.out.below hb)
        replace R1 := hide (R1.out.below hb)
        replace R2 := hide (R2.out.below hb)
        replace BW := hide (BW.out.trans (hb.mono BW.out.size))
        clear hb
        have z2 := Z.out.cell 2 _ rfl
        have c64 := CC.out.1
        have cmx := CC.out.2
        go_wp2_with fail
        refine (La.laInts _ ws D2 B1 _ _ u1 T2.out R1.out).mono ?_
        rintro e u2 ⟨he, hb⟩
        rw [show decide (List.take n1 (newM ws is).mem = ws) = true from decide_eq_true TK.out] at he
        subst he
        clear z2 c64 cmx
        replace Z := hide (Z.out.below hb)
        replace T1 := hide (T1.out.below hb)
        replace T2 := hide (T2.out.below hb)
        replace T3 := hide (T3.out.below hb)
        replace R1 := hide (R1.out.below hb)
        replace R2 := hide (R2.out.below hb)
        replace BW := hide (BW.out.trans (hb.mono BW.out.size))
        clear hb
        have z7 := Z.out.cell 7 _ rfl
        go_wp2_with fail
        refine (La.laInts is is D3 B2 _ _ u2 T3.out R2.out).mono ?_
        rintro e u3 ⟨he, hb⟩
        rw [show decide (is = is) = true from decide_eq_true rfl] at he
        subst he
        clear z7
        replace Z := hide (Z.out.below hb)
        replace T1 := hide (T1.out.below hb)
        replace T2 := hide (T2.out.below hb)
        replace T3 := hide (T3.out.below hb)
        replace R1 := hide (R1.out.below hb)
        replace R2 := hide (R2.out.below hb)
        replace BW := hide (BW.out.trans (hb.mono BW.out.size))
        clear hb
        have z0 := Z.out.cell 0 _ rfl
        have b2 : Below u3.heap.size u3 (u3.alloc (.cells #[.int .i64 0, .int .i64 0, .int .i64 0, .int .i64 0] 3)) := (Below.refl _ _).alloc (Nat.le_refl _) _
        have RL := hide (lit4 u3)
        replace T1 := hide (T1.out.below b2)
        replace Z := hide (Z.out.below b2)
        replace BW := hide (BW.out.trans (b2.mono BW.out.size))
        clear b2
        go_wp2_with fail
        refine (La.laInts [0, 0, 0, 0] [0, 0, 0, 0] D1 _ _ _ _ T1.out RL.out).mono ?_
        rintro e u4 ⟨he, hb⟩
        rw [show decide (([0, 0, 0, 0] : List Int) = [0, 0, 0, 0]) = true from by decide] at he
        subst he
        clear z0 RL
        replace Z := hide (Z.out.below hb)
        replace BW := hide (BW.out.trans (hb.mono BW.out.size))
        clear hb
        have z1 := Z.out.cell 1 _ rfl
        have z4 := Z.out.cell 4 _ rfl
        have z9 := Z.out.cell 9 _ rfl
        clear T1 T2 T3 R1 R2
        go_wp2
        go_ret
        exact ⟨rfl, BW.out⟩

set_option maxRecDepth 100000 in
theorem lifted (os : Os) (started : os.Started) (H : Type) (enc : TypeId × Value → H) :
    ReturnsInHanded {} Try.checked os 3 .any (Rows.fnMchNewSpec.pre6 enc Try.prog Try.f3 Rows.fnMchNewRow.domain false) (Rows.fnMchNewSpec.post enc Try.prog Try.f3 false true false false) := by
  refine returnsInHanded_of_change (C := Try.checked) own started (by kernel_rfl) Try.func3
    (ChangeSpec.witness6 (enc := enc) (C := Try.checked) false ⟨#[], #[.slice none 0 0], []⟩ 8 (by kernel_rfl) (by kernel_rfl) (by kernel_rfl) (by kernel_rfl)) ?_
  intro W base args ds gs before hval0 hW hcnd _
  have hval : ∀ (j : Nat) t v, Try.f3.params[j]? = some t → args[j]? = some v → Value.okWide Try.prog W .any base t v := hval0
  have hW' := hW
  obtain ⟨p, q, hA0, hV, rfl, hfz, hnd⟩ := hW
  have hA : DataW.TrodAll enc Try.prog W 0 (fun _ => true) true Try.f3.params.toList args.toList ds p := hA0
  rw [Try.params3] at hA hval
  obtain ⟨v0, vs0, d0, ds0, p0, q0, hargs, rfl, rfl, h0, r0⟩ := trodAll_cons hA
  obtain ⟨rfl, rfl, rfl⟩ := trodAll_nil r0
  obtain rfl : args = #[v0] := by cases args; simp_all
  obtain ⟨rfl, rfl⟩ := trodVars_none hV
  obtain ⟨a0, len0, cap0, rfl⟩ := okWide_slice Try.underlying22 (hval 0 22 v0 rfl rfl)
  have k0 := h0
  have lt0 : ∀ x ∈ p0, x.block < W.heap.size := by obtain ⟨m, hm⟩ := k0; exact DataW.trod_lt m _ _ _ hm
  obtain ⟨z0, w0⟩ : ∃ zs, IsRow .u8 W a0 len0 cap0 zs := by
    obtain ⟨fuel, hf⟩ := h0
    rcases open_ints Try.underlying22 Try.underlying5 (by kernel_rfl) hf with ⟨hcs, _⟩ | ⟨x, l, c, zs, hcs, _, hl, hm, hz, _, hcell, hwz⟩
    · simp [Value.cells] at hcs
      obtain ⟨rfl, rfl, rfl⟩ := hcs
      exact ⟨[], .inl ⟨rfl, rfl, rfl, rfl⟩⟩
    · simp [Value.cells] at hcs
      obtain ⟨rfl, rfl, rfl⟩ := hcs
      exact ⟨zs, .inr ⟨_, rfl, hl, hm, by simpa using hz, hcell, hwz⟩⟩
  clear hA0 hval0
  refine (walk a0 len0 cap0 z0 W w0).mono fun e W' ⟨he, bel⟩ => ?_
  subst he
  exact ⟨_, rfl, _, _, _, [], _, [], hW', trodAll_mk1 (shut_bool Try.underlying4 _), (trodAll_cons_mk (Below.trod laidOut (by kernel_rfl) (of_decide_eq_true (by kernel_rfl)) k0 bel lt0) trodAll_mk0), rfl, bel.frame _, fun h => by cases h⟩

theorem over : Rows.fnMchNewRow.holds Try.pinned (OpenSpec.ofChange Rows.fnMchNewSpec) :=
  OpenClaim.holds_of_wide 3 Try.f3 rfl rfl rfl rfl rfl rfl rfl ⟨rfl, rfl, rfl, rfl, rfl⟩ rfl rfl rfl rfl rfl (by kernel_rfl) Try.func3 (by kernel_rfl)
    (of_decide_eq_true (by kernel_rfl)) (by unfold Func.isWrapper; first | (rw [if_pos (by decide +kernel)]; kernel_rfl) | (rw [if_neg (by decide +kernel)]; exact ⟨rfl, rfl⟩))
    (fun os started H enc _ => lifted os started H enc)

theorem proved : Rows.FnMchNewSaid := over
#print axioms proved
end Go.Proofs.Ytpbpabcokfblfaa.fnMchNew
