/-
  Our own hand, the program's moved, movedOp, moveEnd.
-/
import Derived.Test.YtflhehofgplcoaaDoorOiW
import Derived.Test.YtflhehofgplcoaaDoorOsD
import Derived.Test.YtflhehofgplcoaaDoorPhaseN
namespace Go.Proofs.YtflhehofgplcoaaDoor.Op
set_option linter.unusedVariables false
set_option linter.unusedSimpArgs false
open Go.ChangeShapes Go.WideShapes Go.ChangeAt Go.RowKit IntS Flat Irk
open Ir Dt
open Mch (Rec)
open Pol (Keep)
/-- The places that a shape has are places of a list. -/
def Ins (s : Sh) (x y : Int) (al : List Int) : Prop := (s.x = true → ∃ m : Nat, x = m ∧ m < al.length) ∧ (s.y = true → ∃ m : Nat, y = m ∧ m < al.length)
def mvx (s : Sh) (x : Int) (al : List Int) : Int := if s.x = true then atL al x else x
def mvy (s : Sh) (y : Int) (al : List Int) : Int := if s.y = true then atL al y else y
set_option maxRecDepth 8000 in
set_option maxHeartbeats 8000000 in
theorem moved (s : Sh) (x y : Int) (al : List Int) (B : Nat) (v : Value) (w : World) (h : Row w B v al) (hI : Ins s x y al) :
    Calls Tryd.prog 70 #[.agg #[.bool s.x, .bool s.y, .bool s.a, .int .i64 s.l, .int .i64 s.m], .int .i64 x, .int .i64 y, v] w fun e w' => e = .returned (.tuple #[.int .i64 (mvx s x al), .int .i64 (mvy s y al)]) ∧ Below w.heap.size w w' := by
  obtain ⟨sx, sy, sa, sl, sm⟩ := s
  obtain ⟨hX, hY⟩ := hI
  unfold mvx mvy
  simp only [] at hX hY ⊢
  have b1 : Below w.heap.size w (w.alloc (.cells #[.bool sx, .bool sy, .bool sa, .int .i64 sl, .int .i64 sm] 71)) := (Below.refl _ _).alloc (Nat.le_refl _) _
  obtain ⟨a, cap, off0, hv, l1, l2, -, -⟩ := h.ex
  unfold maxLen at l2
  have HR := hide (h.below b1)
  subst hv
  have BW := hide b1
  clear b1 h
  cases sx with
  | true =>
    obtain ⟨mx, rfl, lx⟩ := hX rfl
    obtain ⟨vx, ex⟩ : ∃ v, al[mx]? = some v := ⟨_, List.getElem?_eq_getElem lx⟩
    obtain ⟨off, rfl, cx, -, -, -⟩ := row_at HR.out rfl ex
    have lx2 : ((mx : Nat) : Int) < (al.length : Nat) := by omega
    rw [if_pos rfl, atL_get ex]
    clear ex hX
    cases sy with
    | true =>
      obtain ⟨my, rfl, ly⟩ := hY rfl
      obtain ⟨vy, ey⟩ : ∃ v, al[my]? = some v := ⟨_, List.getElem?_eq_getElem ly⟩
      obtain ⟨off2, e2, cy, -, -, -⟩ := row_at HR.out rfl ey
      cases e2
      have ly2 : ((my : Nat) : Int) < (al.length : Nat) := by omega
      rw [if_pos rfl, atL_get ey]
      clear ey hY
      clear HR
      go_enter Tryd.func70, Tryd.ntmps70
      go_wp2
      exact bodyPost_ret (v := .tuple #[.int .i64 vx, .int .i64 vy]) (by simp [results, Tryd.results70, go_sem]) rfl ⟨rfl, BW.out⟩
    | false =>
      rw [if_neg (by decide)]
      clear hY
      clear HR
      go_enter Tryd.func70, Tryd.ntmps70
      go_wp2
      exact bodyPost_ret (v := .tuple #[.int .i64 vx, .int .i64 y]) (by simp [results, Tryd.results70, go_sem]) rfl ⟨rfl, BW.out⟩
  | false =>
    rw [if_neg (by decide)]
    clear hX
    cases sy with
    | true =>
      obtain ⟨my, rfl, ly⟩ := hY rfl
      obtain ⟨vy, ey⟩ : ∃ v, al[my]? = some v := ⟨_, List.getElem?_eq_getElem ly⟩
      obtain ⟨off2, e2, cy, -, -, -⟩ := row_at HR.out rfl ey
      subst e2
      have ly2 : ((my : Nat) : Int) < (al.length : Nat) := by omega
      rw [if_pos rfl, atL_get ey]
      clear ey hY
      clear HR
      go_enter Tryd.func70, Tryd.ntmps70
      go_wp2
      exact bodyPost_ret (v := .tuple #[.int .i64 x, .int .i64 vy]) (by simp [results, Tryd.results70, go_sem]) rfl ⟨rfl, BW.out⟩
    | false =>
      rw [if_neg (by decide)]
      clear hY
      clear HR
      go_enter Tryd.func70, Tryd.ntmps70
      go_wp2
      exact bodyPost_ret (v := .tuple #[.int .i64 x, .int .i64 y]) (by simp [results, Tryd.results70, go_sem]) rfl ⟨rfl, BW.out⟩
theorem op_shape {k : Int} (h1 : 1 ≤ k) (h8 : k ≤ 8) : ∃ (m : Nat) (s : Sh), k = m ∧ m < 9 ∧ opL[m]? = some s ∧ s.x = mvX k ∧ s.y = mvY k := by
  have : k = 1 ∨ k = 2 ∨ k = 3 ∨ k = 4 ∨ k = 5 ∨ k = 6 ∨ k = 7 ∨ k = 8 := by omega
  rcases this with rfl | rfl | rfl | rfl | rfl | rfl | rfl | rfl
  · exact ⟨1, _, rfl, by decide, rfl, rfl, rfl⟩
  · exact ⟨2, _, rfl, by decide, rfl, rfl, rfl⟩
  · exact ⟨3, _, rfl, by decide, rfl, rfl, rfl⟩
  · exact ⟨4, _, rfl, by decide, rfl, rfl, rfl⟩
  · exact ⟨5, _, rfl, by decide, rfl, rfl, rfl⟩
  · exact ⟨6, _, rfl, by decide, rfl, rfl, rfl⟩
  · exact ⟨7, _, rfl, by decide, rfl, rfl, rfl⟩
  · exact ⟨8, _, rfl, by decide, rfl, rfl, rfl⟩
theorem en_shape {k : Int} (h1 : 1 ≤ k) (h8 : k ≤ 4) : ∃ (m : Nat) (s : Sh), k = m ∧ m < 5 ∧ enL[m]? = some s ∧ s.x = decide (k ≠ 1) ∧ s.y = decide (k = 3 ∨ k = 4) := by
  have : k = 1 ∨ k = 2 ∨ k = 3 ∨ k = 4 := by omega
  rcases this with rfl | rfl | rfl | rfl
  · exact ⟨1, _, rfl, by decide, rfl, rfl, rfl⟩
  · exact ⟨2, _, rfl, by decide, rfl, rfl, rfl⟩
  · exact ⟨3, _, rfl, by decide, rfl, rfl, rfl⟩
  · exact ⟨4, _, rfl, by decide, rfl, rfl, rfl⟩
/-- A table's row of one kind, where it is read. -/
structure Rd (w : World) (G b o c n m : Nat) (s : Sh) : Prop where
  g : w.cell? ⟨G, 0, none⟩ = some (.slice (some ⟨b, o, none⟩) n c)
  s : ShAt w b (o + m * 5) s
theorem Rd.below {w w' : World} {G b o c n m : Nat} {s : Sh} (h : Rd w G b o c n m s) (hb : Below w.heap.size w w') : Rd w' G b o c n m s := ⟨cell_below hb h.g, h.s.below hb⟩
theorem Rd.of {w : World} {G : Nat} {L : List Sh} (h : Tb w G L) {m : Nat} {s : Sh} (hs : L[m]? = some s) : ∃ b o c, L.length ≤ c ∧ c ≤ maxLen ∧ Rd w G b o c L.length m s := by
  obtain ⟨b, o, c, h1, h2, h3, h4⟩ := h
  exact ⟨b, o, c, h1, h2, h3, h4 m s hs⟩
set_option maxRecDepth 8000 in
set_option maxHeartbeats 16000000 in
theorem movedOpM (m : Nat) (s : Sh) (ox oy ok ot : Int) (al : List Int) (B : Nat) (v : Value) (w : World) (h : Row w B v al) (ht : Tbs w) (hs : opL[m]? = some s) (hI : Ins s ox oy al) :
    Calls Tryd.prog 59 #[.agg #[.int .i64 (m : Int), .int .i64 ox, .int .i64 oy, .int .i64 ok, .int .i64 ot], v] w fun e w' => e = .returned (.agg #[.int .i64 (m : Int), .int .i64 (mvx s ox al), .int .i64 (mvy s oy al), .int .i64 ok, .int .i64 ot]) ∧ Below w.heap.size w w' := by
  have b2 : Below w.heap.size w ((w.alloc (.cells #[.int .i64 (m : Int), .int .i64 ox, .int .i64 oy, .int .i64 ok, .int .i64 ot] 41)).alloc (.cells #[.int .i64 0, .int .i64 0, .int .i64 0, .int .i64 0, .int .i64 0] 41)) := ((Below.refl _ _).alloc (Nat.le_refl _) _).alloc (by simp) _
  have r1 := (Rec.new w [.int .i64 (m : Int), .int .i64 ox, .int .i64 oy, .int .i64 ok, .int .i64 ot] 41).alloc (.cells #[.int .i64 0, .int .i64 0, .int .i64 0, .int .i64 0, .int .i64 0] 41)
  have r2 := Rec.new (w.alloc (.cells #[.int .i64 (m : Int), .int .i64 ox, .int .i64 oy, .int .i64 ok, .int .i64 ot] 41)) [.int .i64 0, .int .i64 0, .int .i64 0, .int .i64 0, .int .i64 0] 41
  rw [show (w.alloc (.cells #[.int .i64 (m : Int), .int .i64 ox, .int .i64 oy, .int .i64 ok, .int .i64 ot] 41)).heap.size = w.heap.size + 1 by simp] at r2
  obtain ⟨tb, to, tc, t1, t2, RD0⟩ := Rd.of ht.1 hs
  have m9 : m < 9 := (List.getElem?_eq_some_iff.1 hs).1
  have m9i : ((m : Nat) : Int) < 9 := by omega
  change 9 ≤ tc at t1
  unfold maxLen at t2
  have RD := hide (RD0.below b2)
  change Hid (Rd _ _ tb to tc 9 m s) at RD
  have RA := hide r1
  have RZ := hide r2
  have BW := hide b2
  have HR := hide (h.below b2)
  have HI := hide hI
  clear b2 r1 r2 RD0 h ht hs hI
  go_enter Tryd.func59, Tryd.ntmps59
  go_wp2_with fail
  generalize ((w.alloc (.cells #[.int .i64 (m : Int), .int .i64 ox, .int .i64 oy, .int .i64 ok, .int .i64 ot] 41)).alloc (.cells #[.int .i64 0, .int .i64 0, .int .i64 0, .int .i64 0, .int .i64 0] 41)) = W0 at RD RA RZ BW HR ⊢
  refine (wpIn_wide (n := 0)).1 ?_
  have bA : Below W0.heap.size W0 W0.drew := (Below.refl _ _).drew
  replace RD := hide (RD.out.below bA)
  replace RA := hide (RA.out.below bA)
  replace RZ := hide (RZ.out.below bA)
  replace HR := hide (HR.out.below bA)
  replace BW := hide (BW.out.trans (bA.mono BW.out.size))
  clear bA
  refine PhaseN.region (S := fun v => Rd v 0 tb to tc 9 m s ∧ Rec w.heap.size [.int .i64 (m : Int), .int .i64 ox, .int .i64 oy, .int .i64 ok, .int .i64 ot] v) (fun i => [0, 1, 2, 3, 4, 5, 6, 7, 8, 9, 10, 11].contains i) (by kernel_rfl) ?_
  generalize W0.drew = d1 at RD RA RZ HR BW ⊢
  have hHeld : Rd d1 0 tb to tc 9 m s ∧ Rec w.heap.size [.int .i64 (m : Int), .int .i64 ox, .int .i64 oy, .int .i64 ok, .int .i64 ot] d1 := ⟨RD.out, RA.out⟩
  refine PhaseN.takeD (i := 0) (v := ?_) [0, 3, 4, 10, 11, 12, 13, 14, 15, 16, 17] 6 rfl (by rfl) (by kernel_rfl) (by kernel_rfl) (by kernel_rfl) (by kernel_rfl) (by kernel_rfl) (fun _ _ _ h => h) (Or.inl ⟨by kernel_rfl, ?_⟩) hHeld ?_
  rotate_left
  · intro w' hSw
    (try dsimp only at hSw)
    have g0 := hSw.1.g
    go_simp
    first | done | with_reducible rfl
  try simp only [Act.put, List.setIfInBounds_toArray, List.set]
  refine PhaseN.takeD (i := 1) (v := ?_) [1, 2, 3, 4, 10, 11, 12, 13, 14, 15, 16, 17] 7 rfl (by rfl) (by kernel_rfl) (by kernel_rfl) (by kernel_rfl) (by kernel_rfl) (by kernel_rfl) (fun _ _ _ h => h) (Or.inl ⟨by kernel_rfl, ?_⟩) hHeld ?_
  rotate_left
  · intro w' hSw
    (try dsimp only at hSw)
    go_simp
    first | done | with_reducible rfl
  try simp only [Act.put, List.setIfInBounds_toArray, List.set]
  refine PhaseN.takeD (i := 2) (v := ?_) [2, 3, 4, 10, 11, 12, 13, 14, 15, 16, 17] 8 rfl (by rfl) (by kernel_rfl) (by kernel_rfl) (by kernel_rfl) (by kernel_rfl) (by kernel_rfl) (fun _ _ _ h => h) (Or.inl ⟨by kernel_rfl, ?_⟩) hHeld ?_
  rotate_left
  · intro w' hSw
    (try dsimp only at hSw)
    have z0 := hSw.2.cell 0 _ rfl
    go_simp
    first | done | with_reducible rfl
  try simp only [Act.put, List.setIfInBounds_toArray, List.set]
  refine PhaseN.takeD (i := 3) (v := ?_) [3, 4, 10, 11, 12, 13, 14, 15, 16, 17] 9 rfl (by rfl) (by kernel_rfl) (by kernel_rfl) (by kernel_rfl) (by kernel_rfl) (by kernel_rfl) (fun _ _ _ h => h) (Or.inl ⟨by kernel_rfl, ?_⟩) hHeld ?_
  rotate_left
  · intro w' hSw
    (try dsimp only at hSw)
    go_simp
    first | done | with_reducible rfl
  try simp only [Act.put, List.setIfInBounds_toArray, List.set]
  refine PhaseN.takeD (i := 4) (v := ?_) [4, 10, 11, 12, 13, 14, 15, 16, 17] 10 rfl (by rfl) (by kernel_rfl) (by kernel_rfl) (by kernel_rfl) (by kernel_rfl) (by kernel_rfl) (fun _ _ _ h => h) (Or.inl ⟨by kernel_rfl, ?_⟩) hHeld ?_
  rotate_left
  · intro w' hSw
    (try dsimp only at hSw)
    obtain ⟨s0, s1, s2, s3, s4⟩ := hSw.1.s
    go_simp
    first | done | with_reducible rfl
  try simp only [Act.put, List.setIfInBounds_toArray, List.set]
  refine PhaseN.takeD (i := 5) (v := ?_) [5, 6, 10, 11, 12, 13, 14, 15, 16, 17] 11 rfl (by rfl) (by kernel_rfl) (by kernel_rfl) (by kernel_rfl) (by kernel_rfl) (by kernel_rfl) (fun _ _ _ h => h) (Or.inl ⟨by kernel_rfl, ?_⟩) hHeld ?_
  rotate_left
  · intro w' hSw
    (try dsimp only at hSw)
    go_simp
    first | done | with_reducible rfl
  try simp only [Act.put, List.setIfInBounds_toArray, List.set]
  refine PhaseN.takeD (i := 6) (v := ?_) [6, 10, 11, 12, 13, 14, 15, 16, 17] 12 rfl (by rfl) (by kernel_rfl) (by kernel_rfl) (by kernel_rfl) (by kernel_rfl) (by kernel_rfl) (fun _ _ _ h => h) (Or.inl ⟨by kernel_rfl, ?_⟩) hHeld ?_
  rotate_left
  · intro w' hSw
    (try dsimp only at hSw)
    have z1 := hSw.2.cell 1 _ rfl
    go_simp
    first | done | with_reducible rfl
  try simp only [Act.put, List.setIfInBounds_toArray, List.set]
  refine PhaseN.takeD (i := 7) (v := ?_) [7, 8, 10, 11, 12, 13, 14, 15, 16, 17] 13 rfl (by rfl) (by kernel_rfl) (by kernel_rfl) (by kernel_rfl) (by kernel_rfl) (by kernel_rfl) (fun _ _ _ h => h) (Or.inl ⟨by kernel_rfl, ?_⟩) hHeld ?_
  rotate_left
  · intro w' hSw
    (try dsimp only at hSw)
    go_simp
    first | done | with_reducible rfl
  try simp only [Act.put, List.setIfInBounds_toArray, List.set]
  refine PhaseN.takeD (i := 8) (v := ?_) [8, 10, 11, 12, 13, 14, 15, 16, 17] 14 rfl (by rfl) (by kernel_rfl) (by kernel_rfl) (by kernel_rfl) (by kernel_rfl) (by kernel_rfl) (fun _ _ _ h => h) (Or.inl ⟨by kernel_rfl, ?_⟩) hHeld ?_
  rotate_left
  · intro w' hSw
    (try dsimp only at hSw)
    have z2 := hSw.2.cell 2 _ rfl
    go_simp
    first | done | with_reducible rfl
  try simp only [Act.put, List.setIfInBounds_toArray, List.set]
  refine PhaseN.takeD (i := 9) (v := ?_) [9, 10, 11, 12, 13, 14, 15, 16, 17] 15 rfl (by rfl) (by kernel_rfl) (by kernel_rfl) (by kernel_rfl) (by kernel_rfl) (by kernel_rfl) (fun _ _ _ h => h) (Or.inl ⟨by kernel_rfl, ?_⟩) hHeld ?_
  rotate_left
  · intro w' hSw
    (try dsimp only at hSw)
    go_simp
    first | done | with_reducible rfl
  try simp only [Act.put, List.setIfInBounds_toArray, List.set]
  refine PhaseN.one (i := 10) (by kernel_rfl) rfl (by kernel_rfl) (fun K hK => ?_)
  unfold Oper.wpIn
  refine ⟨fun _ _ => trivial, ?_⟩
  go_simp
  refine ⟨rfl, (callsIn_wide.2 (moved s ox oy al B _ _ HR.out HI.out)).mono ?_⟩
  rintro e d2 ⟨rfl, hb⟩
  replace RD := hide (RD.out.below hb)
  replace RA := hide (RA.out.below hb)
  replace RZ := hide (RZ.out.below hb)
  replace BW := hide (BW.out.trans (hb.mono BW.out.size))
  clear hb hHeld
  have hHeld : Rd d2 0 tb to tc 9 m s ∧ Rec w.heap.size [.int .i64 (m : Int), .int .i64 ox, .int .i64 oy, .int .i64 ok, .int .i64 ot] d2 := ⟨RD.out, RA.out⟩
  refine hK _ _ (fun _ _ => hHeld) ?_
  clear hK K
  obtain ⟨vx, evx⟩ : ∃ z, mvx s ox al = z := ⟨_, rfl⟩
  obtain ⟨vy, evy⟩ : ∃ z, mvy s oy al = z := ⟨_, rfl⟩
  have EV := hide (And.intro evx evy)
  rw [evx, evy]
  clear evx evy
  try simp only [Act.put, List.setIfInBounds_toArray, List.set]
  refine PhaseN.takeD (i := 11) (v := ?_) [11, 12, 13, 14, 15, 16, 17] 5 rfl (by rfl) (by kernel_rfl) (by kernel_rfl) (by kernel_rfl) (by kernel_rfl) (by kernel_rfl) (fun _ _ _ h => h) (Or.inl ⟨by kernel_rfl, ?_⟩) hHeld ?_
  rotate_left
  · intro w' hSw
    (try dsimp only at hSw)
    go_simp
    first | done | with_reducible rfl
  try simp only [Act.put, List.setIfInBounds_toArray, List.set]
  clear hHeld HR HI
  refine PhaseN.takeP (i := 12) (v := ?_) 17 rfl (by rfl) (by kernel_rfl) (by kernel_rfl) (by kernel_rfl) (fun _ _ _ h => h) (Or.inl ⟨by kernel_rfl, ?_⟩) ?_
  rotate_left
  · intro w' hSw
    go_simp
    first | done | with_reducible rfl
  try simp only [Act.put, List.setIfInBounds_toArray, List.set]
  refine PhaseN.takeP (i := 13) (v := ?_) 18 rfl (by rfl) (by kernel_rfl) (by kernel_rfl) (by kernel_rfl) (fun _ _ _ h => h) (Or.inl ⟨by kernel_rfl, ?_⟩) ?_
  rotate_left
  · intro w' hSw
    go_simp
    first | done | with_reducible rfl
  try simp only [Act.put, List.setIfInBounds_toArray, List.set]
  refine PhaseN.takeP (i := 14) (v := ?_) 19 rfl (by rfl) (by kernel_rfl) (by kernel_rfl) (by kernel_rfl) (fun _ _ _ h => h) (Or.inl ⟨by kernel_rfl, ?_⟩) ?_
  rotate_left
  · intro w' hSw
    go_simp
    first | done | with_reducible rfl
  try simp only [Act.put, List.setIfInBounds_toArray, List.set]
  have z1 := RA.out.cell 1 _ rfl
  have f1 := RA.out.soft 1
  refine PhaseN.one (i := 15) (by kernel_rfl) rfl (by kernel_rfl) (fun K hK => ?_)
  unfold Oper.wpIn
  refine ⟨fun _ _ => trivial, ?_⟩
  go_simp
  have R3 := hide (RA.out.set 1 (.int .i64 vx) (by simp) (show _ = [.int .i64 (m : Int), .int .i64 vx, .int .i64 oy, .int .i64 ok, .int .i64 ot] from rfl))
  have T3 := (Turn.refl w.heap.size d2).setCell (p := ⟨w.heap.size, 1, none⟩) rfl (.int .i64 vx)
  replace RZ := hide (RZ.out.turn T3 (by omega))
  replace BW := hide (BW.out.trans (T3.below (Nat.le_refl _) BW.out.size))
  refine hK _ _ (fun h => absurd h (by decide)) ?_
  clear hK K T3 RA RD z1 f1
  try simp only [Act.put, List.setIfInBounds_toArray, List.set]
  generalize d2.setCell ⟨w.heap.size, 1, none⟩ (.int .i64 vx) = d3 at R3 RZ BW ⊢
  refine PhaseN.takeP (i := 16) (v := ?_) 20 rfl (by rfl) (by kernel_rfl) (by kernel_rfl) (by kernel_rfl) (fun _ _ _ h => h) (Or.inl ⟨by kernel_rfl, ?_⟩) ?_
  rotate_left
  · intro w' hSw
    go_simp
    first | done | with_reducible rfl
  try simp only [Act.put, List.setIfInBounds_toArray, List.set]
  have z2 := R3.out.cell 2 _ rfl
  have f2 := R3.out.soft 2
  refine PhaseN.one (i := 17) (by kernel_rfl) rfl (by kernel_rfl) (fun K hK => ?_)
  unfold Oper.wpIn
  refine ⟨fun _ _ => trivial, ?_⟩
  go_simp
  have R4 := hide (R3.out.set 2 (.int .i64 vy) (by simp) (show _ = [.int .i64 (m : Int), .int .i64 vx, .int .i64 vy, .int .i64 ok, .int .i64 ot] from rfl))
  have T4 := (Turn.refl w.heap.size d3).setCell (p := ⟨w.heap.size, 2, none⟩) rfl (.int .i64 vy)
  replace RZ := hide (RZ.out.turn T4 (by omega))
  replace BW := hide (BW.out.trans (T4.below (Nat.le_refl _) BW.out.size))
  refine hK _ _ (fun h => absurd h (by decide)) ?_
  clear hK K T4 R3 z2 f2
  try simp only [Act.put, List.setIfInBounds_toArray, List.set]
  generalize d3.setCell ⟨w.heap.size, 2, none⟩ (.int .i64 vy) = d4 at R4 RZ BW ⊢
  refine PhaseN.done (by kernel_rfl) ?_ _
  have z0 := R4.out.cell 0 _ rfl
  have z1 := R4.out.cell 1 _ rfl
  have z2 := R4.out.cell 2 _ rfl
  have z3 := R4.out.cell 3 _ rfl
  have z4 := R4.out.cell 4 _ rfl
  have y0 := RZ.out.cell 0 _ rfl
  have y1 := RZ.out.cell 1 _ rfl
  have y2 := RZ.out.cell 2 _ rfl
  have y3 := RZ.out.cell 3 _ rfl
  have y4 := RZ.out.cell 4 _ rfl
  have g0 := RZ.out.soft 0
  have g1 := RZ.out.soft 1
  have g2 := RZ.out.soft 2
  have g3 := RZ.out.soft 3
  have g4 := RZ.out.soft 4
  have R5 := rec_fiveS RZ.out (.int .i64 (m : Int)) (.int .i64 vx) (.int .i64 vy) (.int .i64 ok) (.int .i64 ot)
  have T5 := set5_turn d4 (w.heap.size + 1) 0 (.int .i64 (m : Int)) (.int .i64 vx) (.int .i64 vy) (.int .i64 ok) (.int .i64 ot)
  have BM := hide (BW.out.trans (T5.below (by omega) BW.out.size))
  unfold set5 at BM R5
  have R6 := hide R5
  clear T5 R5
  go_wp2
  have q0 := R6.out.cell 0 _ rfl
  have q1 := R6.out.cell 1 _ rfl
  have q2 := R6.out.cell 2 _ rfl
  have q3 := R6.out.cell 3 _ rfl
  have q4 := R6.out.cell 4 _ rfl
  exact bodyPost_ret (v := .agg #[.int .i64 (m : Int), .int .i64 vx, .int .i64 vy, .int .i64 ok, .int .i64 ot]) (by simp [results, Tryd.results59, go_sem, q0, q1, q2, q3, q4]) rfl ⟨by rw [EV.out.1, EV.out.2], BM.out⟩
theorem movedOp (o : Opn) (al : List Int) (B : Nat) (v : Value) (w : World) (h : Row w B v al) (ht : Tbs w) (hk : 1 ≤ o.kd ∧ o.kd ≤ 8) (hX : mvX o.kd = true → ∃ m : Nat, o.x = m ∧ m < al.length) (hY : mvY o.kd = true → ∃ m : Nat, o.y = m ∧ m < al.length) :
    Calls Tryd.prog 59 #[.agg #[.int .i64 o.kd, .int .i64 o.x, .int .i64 o.y, .int .i64 o.k, .int .i64 o.t], v] w fun e w' => e = .returned (.agg #[.int .i64 (aliasO o al).kd, .int .i64 (aliasO o al).x, .int .i64 (aliasO o al).y, .int .i64 (aliasO o al).k, .int .i64 (aliasO o al).t]) ∧ Below w.heap.size w w' := by
  obtain ⟨m, s, e1, e2, e3, e4, e5⟩ := op_shape hk.1 hk.2
  have := movedOpM m s o.x o.y o.k o.t al B v w h ht e3 ⟨fun hx => hX (by rw [← e4]; exact hx), fun hy => hY (by rw [← e5]; exact hy)⟩
  unfold mvx mvy at this
  rw [e4, e5, ← e1] at this
  exact this
set_option maxRecDepth 8000 in
set_option maxHeartbeats 16000000 in
theorem moveEndM (m : Nat) (s : Sh) (pc ln bx by_ bk : Int) (q : Option Addr) (n c Z : Nat) (al : List Int) (B : Nat) (v : Value) (w : World) (hB : Rec Z [.int .i64 pc, .int .i64 ln, .slice q n c, .int .i64 (m : Int), .int .i64 bx, .int .i64 by_, .int .i64 bk] w) (h : Row w B v al) (ht : Tbs w) (hs : enL[m]? = some s) (hI : Ins s bx by_ al) :
    Calls Tryd.prog 60 #[.pointer (some ⟨Z, 0, none⟩), v] w fun e w' => e = .returned (.tuple #[]) ∧ Rec Z [.int .i64 pc, .int .i64 ln, .slice q n c, .int .i64 (m : Int), .int .i64 (mvx s bx al), .int .i64 (mvy s by_ al), .int .i64 bk] w' ∧ Turn Z w w' := by
  obtain ⟨tb, to, tc, t1, t2, RD0⟩ := Rd.of ht.2 hs
  have m9 : m < 5 := (List.getElem?_eq_some_iff.1 hs).1
  have m9i : ((m : Nat) : Int) < 5 := by omega
  change 5 ≤ tc at t1
  unfold maxLen at t2
  have RD := hide RD0
  change Hid (Rd _ _ tb to tc 5 m s) at RD
  have RA := hide hB
  have HR := hide h
  have HI := hide hI
  clear RD0 h ht hs hI hB
  go_enter Tryd.func60, Tryd.ntmps60
  go_wp2_with fail
  refine (wpIn_wide (n := 0)).1 ?_
  have bA : Below w.heap.size w w.drew := (Below.refl _ _).drew
  replace RD := hide (RD.out.below bA)
  replace RA := hide (RA.out.below bA)
  replace HR := hide (HR.out.below bA)
  have TW : Hid (Turn Z w w.drew) := Turn.of_below bA
  clear bA
  refine PhaseN.region (S := fun v => Rd v 1 tb to tc 5 m s ∧ Rec Z [.int .i64 pc, .int .i64 ln, .slice q n c, .int .i64 (m : Int), .int .i64 bx, .int .i64 by_, .int .i64 bk] v) (fun i => [0, 1, 2, 3, 4, 5, 6, 7, 8, 9, 10, 11, 12, 13, 14, 15, 16, 17, 18, 19, 20, 21, 22].contains i) (by kernel_rfl) ?_
  generalize w.drew = d1 at RD RA HR TW ⊢
  have hHeld : Rd d1 1 tb to tc 5 m s ∧ Rec Z [.int .i64 pc, .int .i64 ln, .slice q n c, .int .i64 (m : Int), .int .i64 bx, .int .i64 by_, .int .i64 bk] d1 := ⟨RD.out, RA.out⟩
  refine PhaseN.takeP (i := 0) (v := ?_) 5 rfl (by rfl) (by kernel_rfl) (by kernel_rfl) (by kernel_rfl) (fun _ _ _ h => h) (Or.inl ⟨by kernel_rfl, ?_⟩) ?_
  rotate_left
  · intro w' hSw
    go_simp
    first | done | with_reducible rfl
  try simp only [Act.put, List.setIfInBounds_toArray, List.set]
  refine PhaseN.takeP (i := 1) (v := ?_) 6 rfl (by rfl) (by kernel_rfl) (by kernel_rfl) (by kernel_rfl) (fun _ _ _ h => h) (Or.inl ⟨by kernel_rfl, ?_⟩) ?_
  rotate_left
  · intro w' hSw
    go_simp
    first | done | with_reducible rfl
  try simp only [Act.put, List.setIfInBounds_toArray, List.set]
  refine PhaseN.takeD (i := 2) (v := ?_) [2, 8, 9, 21, 22, 23, 24, 25, 26, 27, 28, 29, 30, 31, 32] 7 rfl (by rfl) (by kernel_rfl) (by kernel_rfl) (by kernel_rfl) (by kernel_rfl) (by kernel_rfl) (fun _ _ _ h => h) (Or.inl ⟨by kernel_rfl, ?_⟩) hHeld ?_
  rotate_left
  · intro w' hSw
    (try dsimp only at hSw)
    have g0 := hSw.1.g
    go_simp
    first | done | with_reducible rfl
  try simp only [Act.put, List.setIfInBounds_toArray, List.set]
  refine PhaseN.takeD (i := 3) (v := ?_) [3, 4, 5, 6, 7, 8, 9, 21, 22, 23, 24, 25, 26, 27, 28, 29, 30, 31, 32] 8 rfl (by rfl) (by kernel_rfl) (by kernel_rfl) (by kernel_rfl) (by kernel_rfl) (by kernel_rfl) (fun _ _ _ h => h) (Or.inl ⟨by kernel_rfl, ?_⟩) hHeld ?_
  rotate_left
  · intro w' hSw
    (try dsimp only at hSw)
    go_simp
    first | done | with_reducible rfl
  try simp only [Act.put, List.setIfInBounds_toArray, List.set]
  refine PhaseN.takeD (i := 4) (v := ?_) [4, 5, 6, 7, 8, 9, 21, 22, 23, 24, 25, 26, 27, 28, 29, 30, 31, 32] 9 rfl (by rfl) (by kernel_rfl) (by kernel_rfl) (by kernel_rfl) (by kernel_rfl) (by kernel_rfl) (fun _ _ _ h => h) (Or.inl ⟨by kernel_rfl, ?_⟩) hHeld ?_
  rotate_left
  · intro w' hSw
    (try dsimp only at hSw)
    go_simp
    first | done | with_reducible rfl
  try simp only [Act.put, List.setIfInBounds_toArray, List.set]
  refine PhaseN.takeD (i := 5) (v := ?_) [5, 6, 7, 8, 9, 21, 22, 23, 24, 25, 26, 27, 28, 29, 30, 31, 32] 10 rfl (by rfl) (by kernel_rfl) (by kernel_rfl) (by kernel_rfl) (by kernel_rfl) (by kernel_rfl) (fun _ _ _ h => h) (Or.inl ⟨by kernel_rfl, ?_⟩) hHeld ?_
  rotate_left
  · intro w' hSw
    (try dsimp only at hSw)
    go_simp
    first | done | with_reducible rfl
  try simp only [Act.put, List.setIfInBounds_toArray, List.set]
  refine PhaseN.takeD (i := 6) (v := ?_) [6, 7, 8, 9, 21, 22, 23, 24, 25, 26, 27, 28, 29, 30, 31, 32] 11 rfl (by rfl) (by kernel_rfl) (by kernel_rfl) (by kernel_rfl) (by kernel_rfl) (by kernel_rfl) (fun _ _ _ h => h) (Or.inl ⟨by kernel_rfl, ?_⟩) hHeld ?_
  rotate_left
  · intro w' hSw
    (try dsimp only at hSw)
    go_simp
    first | done | with_reducible rfl
  try simp only [Act.put, List.setIfInBounds_toArray, List.set]
  refine PhaseN.takeD (i := 7) (v := ?_) [7, 8, 9, 21, 22, 23, 24, 25, 26, 27, 28, 29, 30, 31, 32] 12 rfl (by rfl) (by kernel_rfl) (by kernel_rfl) (by kernel_rfl) (by kernel_rfl) (by kernel_rfl) (fun _ _ _ h => h) (Or.inl ⟨by kernel_rfl, ?_⟩) hHeld ?_
  rotate_left
  · intro w' hSw
    (try dsimp only at hSw)
    have z3 := hSw.2.cell 3 _ rfl
    go_simp
    first | done | with_reducible rfl
  try simp only [Act.put, List.setIfInBounds_toArray, List.set]
  refine PhaseN.takeD (i := 8) (v := ?_) [8, 9, 21, 22, 23, 24, 25, 26, 27, 28, 29, 30, 31, 32] 13 rfl (by rfl) (by kernel_rfl) (by kernel_rfl) (by kernel_rfl) (by kernel_rfl) (by kernel_rfl) (fun _ _ _ h => h) (Or.inl ⟨by kernel_rfl, ?_⟩) hHeld ?_
  rotate_left
  · intro w' hSw
    (try dsimp only at hSw)
    go_simp
    first | done | with_reducible rfl
  try simp only [Act.put, List.setIfInBounds_toArray, List.set]
  refine PhaseN.takeD (i := 9) (v := ?_) [9, 21, 22, 23, 24, 25, 26, 27, 28, 29, 30, 31, 32] 14 rfl (by rfl) (by kernel_rfl) (by kernel_rfl) (by kernel_rfl) (by kernel_rfl) (by kernel_rfl) (fun _ _ _ h => h) (Or.inl ⟨by kernel_rfl, ?_⟩) hHeld ?_
  rotate_left
  · intro w' hSw
    (try dsimp only at hSw)
    obtain ⟨s0, s1, s2, s3, s4⟩ := hSw.1.s
    go_simp
    first | done | with_reducible rfl
  try simp only [Act.put, List.setIfInBounds_toArray, List.set]
  refine PhaseN.takeD (i := 10) (v := ?_) [10, 11, 12, 13, 14, 21, 22, 23, 24, 25, 26, 27, 28, 29, 30, 31, 32] 15 rfl (by rfl) (by kernel_rfl) (by kernel_rfl) (by kernel_rfl) (by kernel_rfl) (by kernel_rfl) (fun _ _ _ h => h) (Or.inl ⟨by kernel_rfl, ?_⟩) hHeld ?_
  rotate_left
  · intro w' hSw
    (try dsimp only at hSw)
    go_simp
    first | done | with_reducible rfl
  try simp only [Act.put, List.setIfInBounds_toArray, List.set]
  refine PhaseN.takeD (i := 11) (v := ?_) [11, 12, 13, 14, 21, 22, 23, 24, 25, 26, 27, 28, 29, 30, 31, 32] 16 rfl (by rfl) (by kernel_rfl) (by kernel_rfl) (by kernel_rfl) (by kernel_rfl) (by kernel_rfl) (fun _ _ _ h => h) (Or.inl ⟨by kernel_rfl, ?_⟩) hHeld ?_
  rotate_left
  · intro w' hSw
    (try dsimp only at hSw)
    go_simp
    first | done | with_reducible rfl
  try simp only [Act.put, List.setIfInBounds_toArray, List.set]
  refine PhaseN.takeD (i := 12) (v := ?_) [12, 13, 14, 21, 22, 23, 24, 25, 26, 27, 28, 29, 30, 31, 32] 17 rfl (by rfl) (by kernel_rfl) (by kernel_rfl) (by kernel_rfl) (by kernel_rfl) (by kernel_rfl) (fun _ _ _ h => h) (Or.inl ⟨by kernel_rfl, ?_⟩) hHeld ?_
  rotate_left
  · intro w' hSw
    (try dsimp only at hSw)
    go_simp
    first | done | with_reducible rfl
  try simp only [Act.put, List.setIfInBounds_toArray, List.set]
  refine PhaseN.takeD (i := 13) (v := ?_) [13, 14, 21, 22, 23, 24, 25, 26, 27, 28, 29, 30, 31, 32] 18 rfl (by rfl) (by kernel_rfl) (by kernel_rfl) (by kernel_rfl) (by kernel_rfl) (by kernel_rfl) (fun _ _ _ h => h) (Or.inl ⟨by kernel_rfl, ?_⟩) hHeld ?_
  rotate_left
  · intro w' hSw
    (try dsimp only at hSw)
    go_simp
    first | done | with_reducible rfl
  try simp only [Act.put, List.setIfInBounds_toArray, List.set]
  refine PhaseN.takeD (i := 14) (v := ?_) [14, 21, 22, 23, 24, 25, 26, 27, 28, 29, 30, 31, 32] 19 rfl (by rfl) (by kernel_rfl) (by kernel_rfl) (by kernel_rfl) (by kernel_rfl) (by kernel_rfl) (fun _ _ _ h => h) (Or.inl ⟨by kernel_rfl, ?_⟩) hHeld ?_
  rotate_left
  · intro w' hSw
    (try dsimp only at hSw)
    have z4 := hSw.2.cell 4 _ rfl
    go_simp
    first | done | with_reducible rfl
  try simp only [Act.put, List.setIfInBounds_toArray, List.set]
  refine PhaseN.takeD (i := 15) (v := ?_) [15, 16, 17, 18, 19, 21, 22, 23, 24, 25, 26, 27, 28, 29, 30, 31, 32] 20 rfl (by rfl) (by kernel_rfl) (by kernel_rfl) (by kernel_rfl) (by kernel_rfl) (by kernel_rfl) (fun _ _ _ h => h) (Or.inl ⟨by kernel_rfl, ?_⟩) hHeld ?_
  rotate_left
  · intro w' hSw
    (try dsimp only at hSw)
    go_simp
    first | done | with_reducible rfl
  try simp only [Act.put, List.setIfInBounds_toArray, List.set]
  refine PhaseN.takeD (i := 16) (v := ?_) [16, 17, 18, 19, 21, 22, 23, 24, 25, 26, 27, 28, 29, 30, 31, 32] 21 rfl (by rfl) (by kernel_rfl) (by kernel_rfl) (by kernel_rfl) (by kernel_rfl) (by kernel_rfl) (fun _ _ _ h => h) (Or.inl ⟨by kernel_rfl, ?_⟩) hHeld ?_
  rotate_left
  · intro w' hSw
    (try dsimp only at hSw)
    go_simp
    first | done | with_reducible rfl
  try simp only [Act.put, List.setIfInBounds_toArray, List.set]
  refine PhaseN.takeD (i := 17) (v := ?_) [17, 18, 19, 21, 22, 23, 24, 25, 26, 27, 28, 29, 30, 31, 32] 22 rfl (by rfl) (by kernel_rfl) (by kernel_rfl) (by kernel_rfl) (by kernel_rfl) (by kernel_rfl) (fun _ _ _ h => h) (Or.inl ⟨by kernel_rfl, ?_⟩) hHeld ?_
  rotate_left
  · intro w' hSw
    (try dsimp only at hSw)
    go_simp
    first | done | with_reducible rfl
  try simp only [Act.put, List.setIfInBounds_toArray, List.set]
  refine PhaseN.takeD (i := 18) (v := ?_) [18, 19, 21, 22, 23, 24, 25, 26, 27, 28, 29, 30, 31, 32] 23 rfl (by rfl) (by kernel_rfl) (by kernel_rfl) (by kernel_rfl) (by kernel_rfl) (by kernel_rfl) (fun _ _ _ h => h) (Or.inl ⟨by kernel_rfl, ?_⟩) hHeld ?_
  rotate_left
  · intro w' hSw
    (try dsimp only at hSw)
    go_simp
    first | done | with_reducible rfl
  try simp only [Act.put, List.setIfInBounds_toArray, List.set]
  refine PhaseN.takeD (i := 19) (v := ?_) [19, 21, 22, 23, 24, 25, 26, 27, 28, 29, 30, 31, 32] 24 rfl (by rfl) (by kernel_rfl) (by kernel_rfl) (by kernel_rfl) (by kernel_rfl) (by kernel_rfl) (fun _ _ _ h => h) (Or.inl ⟨by kernel_rfl, ?_⟩) hHeld ?_
  rotate_left
  · intro w' hSw
    (try dsimp only at hSw)
    have z5 := hSw.2.cell 5 _ rfl
    go_simp
    first | done | with_reducible rfl
  try simp only [Act.put, List.setIfInBounds_toArray, List.set]
  refine PhaseN.takeD (i := 20) (v := ?_) [20, 21, 22, 23, 24, 25, 26, 27, 28, 29, 30, 31, 32] 25 rfl (by rfl) (by kernel_rfl) (by kernel_rfl) (by kernel_rfl) (by kernel_rfl) (by kernel_rfl) (fun _ _ _ h => h) (Or.inl ⟨by kernel_rfl, ?_⟩) hHeld ?_
  rotate_left
  · intro w' hSw
    (try dsimp only at hSw)
    go_simp
    first | done | with_reducible rfl
  try simp only [Act.put, List.setIfInBounds_toArray, List.set]
  refine PhaseN.one (i := 21) (by kernel_rfl) rfl (by kernel_rfl) (fun K hK => ?_)
  unfold Oper.wpIn
  refine ⟨fun _ _ => trivial, ?_⟩
  go_simp
  refine ⟨rfl, (callsIn_wide.2 (moved s bx by_ al B _ _ HR.out HI.out)).mono ?_⟩
  rintro e d2 ⟨rfl, hb⟩
  replace RD := hide (RD.out.below hb)
  replace RA := hide (RA.out.below hb)
  replace TW := hide (TW.out.trans (Turn.of_below hb))
  clear hb hHeld
  have hHeld : Rd d2 1 tb to tc 5 m s ∧ Rec Z [.int .i64 pc, .int .i64 ln, .slice q n c, .int .i64 (m : Int), .int .i64 bx, .int .i64 by_, .int .i64 bk] d2 := ⟨RD.out, RA.out⟩
  refine hK _ _ (fun _ _ => hHeld) ?_
  clear hK K
  obtain ⟨vx, evx⟩ : ∃ z, mvx s bx al = z := ⟨_, rfl⟩
  obtain ⟨vy, evy⟩ : ∃ z, mvy s by_ al = z := ⟨_, rfl⟩
  have EV := hide (And.intro evx evy)
  rw [evx, evy]
  clear evx evy
  try simp only [Act.put, List.setIfInBounds_toArray, List.set]
  refine PhaseN.takeD (i := 22) (v := ?_) [22, 23, 24, 25, 26, 27, 28, 29, 30, 31, 32] 4 rfl (by rfl) (by kernel_rfl) (by kernel_rfl) (by kernel_rfl) (by kernel_rfl) (by kernel_rfl) (fun _ _ _ h => h) (Or.inl ⟨by kernel_rfl, ?_⟩) hHeld ?_
  rotate_left
  · intro w' hSw
    (try dsimp only at hSw)
    go_simp
    first | done | with_reducible rfl
  try simp only [Act.put, List.setIfInBounds_toArray, List.set]
  clear hHeld HR HI
  refine PhaseN.takeP (i := 23) (v := ?_) 27 rfl (by rfl) (by kernel_rfl) (by kernel_rfl) (by kernel_rfl) (fun _ _ _ h => h) (Or.inl ⟨by kernel_rfl, ?_⟩) ?_
  rotate_left
  · intro w' hSw
    go_simp
    first | done | with_reducible rfl
  try simp only [Act.put, List.setIfInBounds_toArray, List.set]
  refine PhaseN.takeP (i := 24) (v := ?_) 28 rfl (by rfl) (by kernel_rfl) (by kernel_rfl) (by kernel_rfl) (fun _ _ _ h => h) (Or.inl ⟨by kernel_rfl, ?_⟩) ?_
  rotate_left
  · intro w' hSw
    go_simp
    first | done | with_reducible rfl
  try simp only [Act.put, List.setIfInBounds_toArray, List.set]
  refine PhaseN.takeP (i := 25) (v := ?_) 29 rfl (by rfl) (by kernel_rfl) (by kernel_rfl) (by kernel_rfl) (fun _ _ _ h => h) (Or.inl ⟨by kernel_rfl, ?_⟩) ?_
  rotate_left
  · intro w' hSw
    go_simp
    first | done | with_reducible rfl
  try simp only [Act.put, List.setIfInBounds_toArray, List.set]
  refine PhaseN.takeP (i := 26) (v := ?_) 30 rfl (by rfl) (by kernel_rfl) (by kernel_rfl) (by kernel_rfl) (fun _ _ _ h => h) (Or.inl ⟨by kernel_rfl, ?_⟩) ?_
  rotate_left
  · intro w' hSw
    go_simp
    first | done | with_reducible rfl
  try simp only [Act.put, List.setIfInBounds_toArray, List.set]
  refine PhaseN.takeP (i := 27) (v := ?_) 31 rfl (by rfl) (by kernel_rfl) (by kernel_rfl) (by kernel_rfl) (fun _ _ _ h => h) (Or.inl ⟨by kernel_rfl, ?_⟩) ?_
  rotate_left
  · intro w' hSw
    go_simp
    first | done | with_reducible rfl
  try simp only [Act.put, List.setIfInBounds_toArray, List.set]
  have z4 := RA.out.cell 4 _ rfl
  have f4 := RA.out.soft 4
  refine PhaseN.one (i := 28) (by kernel_rfl) rfl (by kernel_rfl) (fun K hK => ?_)
  unfold Oper.wpIn
  refine ⟨fun _ _ => trivial, ?_⟩
  go_simp
  have R3 := hide (RA.out.set 4 (.int .i64 vx) (by simp) (show _ = [.int .i64 pc, .int .i64 ln, .slice q n c, .int .i64 (m : Int), .int .i64 vx, .int .i64 by_, .int .i64 bk] from rfl))
  have T3 := (Turn.refl Z d2).setCell (p := ⟨Z, 4, none⟩) rfl (.int .i64 vx)
  replace TW := hide (TW.out.trans T3)
  refine hK _ _ (fun h => absurd h (by decide)) ?_
  clear hK K T3 RA RD z4 f4
  try simp only [Act.put, List.setIfInBounds_toArray, List.set]
  generalize d2.setCell ⟨Z, 4, none⟩ (.int .i64 vx) = d3 at R3 TW ⊢
  refine PhaseN.takeP (i := 29) (v := ?_) 32 rfl (by rfl) (by kernel_rfl) (by kernel_rfl) (by kernel_rfl) (fun _ _ _ h => h) (Or.inl ⟨by kernel_rfl, ?_⟩) ?_
  rotate_left
  · intro w' hSw
    go_simp
    first | done | with_reducible rfl
  try simp only [Act.put, List.setIfInBounds_toArray, List.set]
  refine PhaseN.takeP (i := 30) (v := ?_) 33 rfl (by rfl) (by kernel_rfl) (by kernel_rfl) (by kernel_rfl) (fun _ _ _ h => h) (Or.inl ⟨by kernel_rfl, ?_⟩) ?_
  rotate_left
  · intro w' hSw
    go_simp
    first | done | with_reducible rfl
  try simp only [Act.put, List.setIfInBounds_toArray, List.set]
  refine PhaseN.takeP (i := 31) (v := ?_) 34 rfl (by rfl) (by kernel_rfl) (by kernel_rfl) (by kernel_rfl) (fun _ _ _ h => h) (Or.inl ⟨by kernel_rfl, ?_⟩) ?_
  rotate_left
  · intro w' hSw
    go_simp
    first | done | with_reducible rfl
  try simp only [Act.put, List.setIfInBounds_toArray, List.set]
  have z5 := R3.out.cell 5 _ rfl
  have f5 := R3.out.soft 5
  refine PhaseN.one (i := 32) (by kernel_rfl) rfl (by kernel_rfl) (fun K hK => ?_)
  unfold Oper.wpIn
  refine ⟨fun _ _ => trivial, ?_⟩
  go_simp
  have R4 := hide (R3.out.set 5 (.int .i64 vy) (by simp) (show _ = [.int .i64 pc, .int .i64 ln, .slice q n c, .int .i64 (m : Int), .int .i64 vx, .int .i64 vy, .int .i64 bk] from rfl))
  have T4 := (Turn.refl Z d3).setCell (p := ⟨Z, 5, none⟩) rfl (.int .i64 vy)
  replace TW := hide (TW.out.trans T4)
  refine hK _ _ (fun h => absurd h (by decide)) ?_
  clear hK K T4 R3 z5 f5
  try simp only [Act.put, List.setIfInBounds_toArray, List.set]
  generalize d3.setCell ⟨Z, 5, none⟩ (.int .i64 vy) = d4 at R4 TW ⊢
  refine PhaseN.done (by kernel_rfl) ?_ _
  go_wp2
  exact bodyPost_end (v := .tuple #[]) (by simp [results, Tryd.results60, go_sem]) rfl ⟨rfl, by rw [EV.out.1, EV.out.2]; exact R4.out, TW.out⟩
theorem moveEnd (b : Bk) (ops' : List Opn) (q : Option Addr) (n c Z : Nat) (al : List Int) (B : Nat) (v : Value) (w : World) (hB : Rec Z [.int .i64 b.pc, .int .i64 b.ln, .slice q n c, .int .i64 b.en, .int .i64 b.x, .int .i64 b.y, .int .i64 b.k] w) (h : Row w B v al) (ht : Tbs w) (he : 1 ≤ b.en ∧ b.en ≤ 4) (hX : b.en ≠ 1 → ∃ m : Nat, b.x = m ∧ m < al.length) (hY : b.en = 3 ∨ b.en = 4 → ∃ m : Nat, b.y = m ∧ m < al.length) :
    Calls Tryd.prog 60 #[.pointer (some ⟨Z, 0, none⟩), v] w fun e w' => e = .returned (.tuple #[]) ∧ Rec Z [.int .i64 (endO b ops' al).pc, .int .i64 (endO b ops' al).ln, .slice q n c, .int .i64 (endO b ops' al).en, .int .i64 (endO b ops' al).x, .int .i64 (endO b ops' al).y, .int .i64 (endO b ops' al).k] w' ∧ Turn Z w w' := by
  obtain ⟨m, s, e1, e2, e3, e4, e5⟩ := en_shape he.1 he.2
  rw [e1] at hB
  have := moveEndM m s b.pc b.ln b.x b.y b.k q n c Z al B v w hB h ht e3 ⟨fun hx => hX (by rw [e4] at hx; exact of_decide_eq_true hx), fun hy => hY (by rw [e5] at hy; exact of_decide_eq_true hy)⟩
  have ex : mvx s b.x al = (endO b ops' al).x := by
    unfold mvx endO
    simp only []
    rw [e4]
    by_cases h1 : b.en = 1
    · rw [if_pos h1, if_neg (by simp [h1])]
    · rw [if_neg h1, if_pos (by simp [h1])]
  have ey : mvy s b.y al = (endO b ops' al).y := by
    unfold mvy endO
    simp only []
    rw [e5]
    by_cases h1 : b.en = 3 ∨ b.en = 4
    · rw [if_pos h1, if_pos (by simp [h1])]
    · rw [if_neg h1, if_neg (by simp [h1])]
  rw [ex, ey, ← e1] at this
  exact this
end Go.Proofs.YtflhehofgplcoaaDoor.Op
