/-
  Bytes: the program's reader: fail, next, word, more.
-/
import Derived.Test.YtkeelacobknfbaaDoorWrD
namespace Go.Proofs.YtkeelacobknfbaaDoor.Wr
set_option linter.unusedVariables false
set_option linter.unusedSimpArgs false
open Go.ChangeShapes Go.WideShapes Go.ChangeAt Go.RowKit IntS Flat
open Ir Push
open Mch (Rec)
/-- An error, or none. -/
def evv : Option Addr → Value
  | none => .nilIface
  | some a => .iface 121 (.pointer (some a))
/-- The first error stays. -/
def orE : Option Addr → Addr → Option Addr
  | some b, _ => some b
  | none, a => some a
/-- A reader: its place, and its error. -/
structure Rs where
  p : Nat
  e : Option Addr
/-- One byte is taken. -/
def nx (ys : List Int) (af : Addr) (s : Rs) : Int × Rs :=
  match s.e with
  | some _ => (0, s)
  | none => match ys[s.p]? with
    | some y => (y, ⟨s.p + 1, none⟩)
    | none => (0, ⟨s.p, some af⟩)
def wd (ys : List Int) (af : Addr) (s : Rs) : Int × Rs := ((nx ys af s).1 * 256 + (nx ys af (nx ys af s).2).1, (nx ys af (nx ys af s).2).2)
/-- The reader behind its pointer, the bytes that it reads, and where the first error stands. -/
structure Rr (w : World) (Z B : Nat) (q : Option Addr) (n c : Nat) (ys : List Int) (s : Rs) : Prop where
  box : Rec Z [.slice q n c, .int .i64 (s.p : Int), evv s.e] w
  row : BytS.Row w B (.slice q n c) ys
  len : ys.length = n
  le : n ≤ 1048576
  by_ : ∀ y ∈ ys, 0 ≤ y ∧ y < 256
  far : ys = [] ∨ B < Z
  few : s.p ≤ n
theorem row_turn {w w' : World} {B T : Nat} {v : Value} {xs : List Int} (h : BytS.Row w B v xs) (ht : Turn T w w') (hB : xs = [] ∨ B ≠ T) : BytS.Row w' B v xs := by
  obtain ⟨a, cap, off, h1, h2, h3, hz, h4⟩ := h
  refine ⟨a, cap, off, h1, h2, h3, hz, ?_⟩
  rcases h4 with h4 | ⟨h4, h5⟩
  · exact Or.inl h4
  · by_cases e : xs = []
    · exact Or.inl e
    · refine Or.inr ⟨h4, fun i x hx => ?_⟩
      have hc := h5 i x hx
      exact (ht.cell (p := ⟨B, off + i, none⟩) (World.block_lt_of_cell? w _ hc) (hB.resolve_left e)).trans hc
theorem Rr.turn {w w' : World} {Z B T : Nat} {q : Option Addr} {n c : Nat} {ys : List Int} {s : Rs} (h : Rr w Z B q n c ys s) (ht : Turn T w w') (hZ : Z < T) : Rr w' Z B q n c ys s :=
  ⟨h.box.turn ht (by omega), row_turn h.row ht (h.far.imp id (fun e => by omega)), h.len, h.le, h.by_, h.far, h.few⟩
theorem Rr.below {w w' : World} {Z B : Nat} {q : Option Addr} {n c : Nat} {ys : List Int} {s : Rs} (h : Rr w Z B q n c ys s) (hb : Below w.heap.size w w') : Rr w' Z B q n c ys s :=
  ⟨h.box.below hb, h.row.below hb, h.len, h.le, h.by_, h.far, h.few⟩
/-- Where the program's errors stand. -/
structure Ers (w : World) (af am an : Addr) : Prop where
  few : w.cell? ⟨4, 0, none⟩ = some (evv (some af))
  many : w.cell? ⟨2, 0, none⟩ = some (evv (some am))
  notOk : w.cell? ⟨3, 0, none⟩ = some (evv (some an))
theorem Ers.below {w w' : World} {af am an : Addr} (h : Ers w af am an) (hb : Below w.heap.size w w') : Ers w' af am an := ⟨cell_below hb h.few, cell_below hb h.many, cell_below hb h.notOk⟩
theorem Ers.turn {w w' : World} {af am an : Addr} {T : Nat} (h : Ers w af am an) (ht : Turn T w w') (hT : 4 < T ∧ 2 < T ∧ 3 < T) : Ers w' af am an :=
  ⟨(ht.cell (p := ⟨_, 0, none⟩) (World.block_lt_of_cell? w _ h.few) (Nat.ne_of_lt hT.1)).trans h.few, (ht.cell (p := ⟨_, 0, none⟩) (World.block_lt_of_cell? w _ h.many) (Nat.ne_of_lt hT.2.1)).trans h.many, (ht.cell (p := ⟨_, 0, none⟩) (World.block_lt_of_cell? w _ h.notOk) (Nat.ne_of_lt hT.2.2)).trans h.notOk⟩
set_option maxRecDepth 8000 in
theorem fail (Z : Nat) (v0 v1 : Value) (e : Option Addr) (a : Addr) (w : World) (h : Rec Z [v0, v1, evv e] w) :
    Calls Tryd.prog 67 #[.pointer (some ⟨Z, 0, none⟩), evv (some a)] w fun r w' => r = .returned (.tuple #[]) ∧ Rec Z [v0, v1, evv (orE e a)] w' ∧ Turn Z w w' := by
  have c2 := h.cell 2 _ rfl
  have f2 := h.soft 2
  have H := hide h
  cases e with
  | none =>
    have FIN : Hid (Rec Z [v0, v1, evv (some a)] (w.setCell ⟨Z, 2, none⟩ (evv (some a))) ∧ Turn Z w (w.setCell ⟨Z, 2, none⟩ (evv (some a)))) := ⟨H.out.set 2 _ (by simp) rfl, (Turn.refl Z w).setCell rfl _⟩
    clear h
    simp only [evv, orE] at c2 FIN ⊢
    go_enter Tryd.func67, Tryd.ntmps67
    go_wp2
    exact bodyPost_end (v := .tuple #[]) (by simp [results, Tryd.results67, go_sem]) rfl ⟨rfl, FIN.out⟩
  | some b =>
    have FIN : Hid (Rec Z [v0, v1, evv (some b)] w ∧ Turn Z w w) := ⟨H.out, Turn.refl Z w⟩
    clear h
    simp only [evv, orE] at c2 FIN ⊢
    go_enter Tryd.func67, Tryd.ntmps67
    go_wp2
    exact bodyPost_end (v := .tuple #[]) (by simp [results, Tryd.results67, go_sem]) rfl ⟨rfl, FIN.out⟩
set_option maxRecDepth 8000 in
set_option maxHeartbeats 4000000 in
theorem next (Z B : Nat) (q : Option Addr) (n c : Nat) (ys : List Int) (s : Rs) (af am an : Addr) (w : World) (h : Rr w Z B q n c ys s) (he : Ers w af am an) :
    Calls Tryd.prog 81 #[.pointer (some ⟨Z, 0, none⟩)] w fun r w' => r = .returned (.int .i64 (nx ys af s).1) ∧ Rr w' Z B q n c ys (nx ys af s).2 ∧ Turn Z w w' := by
  obtain ⟨p, e⟩ := s
  have H := hide h
  have c0 := h.box.cell 0 _ rfl
  have c1 := h.box.cell 1 _ rfl
  have c2 := h.box.cell 2 _ rfl
  have f1 := h.box.soft 1
  have e4 := he.few
  have hn := h.le
  have hp := h.few
  have hl := h.len
  obtain ⟨a, cap, off, hv, g2, g3, -, g4⟩ := h.row
  injection hv with i1 i2 i3
  subst i1
  subst i3
  unfold maxLen at g3
  rw [hl] at g2
  simp only [] at c1 c2 hp
  have BY := hide h.by_
  clear h he i2
  have bA : Below w.heap.size w w.drew := (Below.refl _ _).drew
  have HL := hide hl
  clear hl
  cases e with
  | some b =>
    have N0 : nx ys af ⟨p, some b⟩ = (0, ⟨p, some b⟩) := rfl
    rw [N0]
    have H2 := hide (H.out.below bA)
    have d2 := H2.out.box.cell 2 _ rfl
    simp only [evv] at c2 e4 d2
    by_cases hlt : p < n
    · have lk : ¬ ((n : Nat) : Int) ≤ (p : Nat) := by omega
      have FIN : Hid (Rr w.drew Z B q n c ys ⟨p, some b⟩ ∧ Turn Z w w.drew) := ⟨H2.out, Turn.of_below bA⟩
      clear g4 H H2 bA HL BY
      go_enter Tryd.func81, Tryd.ntmps81
      go_wp2_with fail
      go_still (by kernel_rfl)
      go_wp2
      go_ret
      exact ⟨rfl, FIN.out⟩
    · have lk : ((n : Nat) : Int) ≤ (p : Nat) := by omega
      have e5 := cell_below bA e4
      have TD : Hid (Turn Z w w.drew) := Turn.of_below bA
      clear g4 H bA HL BY
      go_enter Tryd.func81, Tryd.ntmps81
      go_wp2_with fail
      go_still (by kernel_rfl)
      go_wp2_with fail
      refine (fail Z _ _ (some b) af w.drew H2.out.box).mono ?_
      rintro r u ⟨rfl, RZ, TZ⟩
      have y2 := RZ.cell 2 _ rfl
      simp only [evv, orE] at y2
      have FIN : Hid (Rr u Z B q n c ys ⟨p, some b⟩ ∧ Turn Z w u) := ⟨⟨RZ, row_turn H2.out.row TZ (H2.out.far.imp id (fun e => by omega)), H2.out.len, H2.out.le, H2.out.by_, H2.out.far, H2.out.few⟩, TD.out.trans TZ⟩
      clear RZ TZ H2 TD d2 e5
      go_wp2
      go_ret
      exact ⟨rfl, FIN.out⟩
  | none =>
    have H2 := hide (H.out.below bA)
    have d2 := H2.out.box.cell 2 _ rfl
    simp only [evv] at c2 e4 d2
    by_cases hlt : p < n
    · have lk : ¬ ((n : Nat) : Int) ≤ (p : Nat) := by omega
      obtain ⟨y, ey⟩ : ∃ y, ys[p]? = some y := ⟨_, List.getElem?_eq_getElem (by rw [HL.out]; exact hlt)⟩
      have N0 : nx ys af ⟨p, none⟩ = (y, ⟨p + 1, none⟩) := by unfold nx; simp only [ey]
      rw [N0]
      obtain ⟨y0, y1⟩ := BY.out y (List.mem_of_getElem? ey)
      obtain ⟨rfl, g5⟩ := g4.resolve_left (fun e => by rw [e] at ey; simp at ey)
      have cy := g5 p y ey
      have bB : Below w.heap.size w w.drew.drew := bA.drew
      have H3 := hide (H.out.below bB)
      have cy1 := cell_below bA cy
      have x0 := H2.out.box.cell 0 _ rfl
      have x1 := H2.out.box.cell 1 _ rfl
      have z1 := H3.out.box.cell 1 _ rfl
      have zs := H3.out.box.soft 1
      simp only [] at x1 z1
      have FIN : Hid (Rr (w.drew.drew.setCell ⟨Z, 1, none⟩ (.int .i64 ((p + 1 : Nat) : Int))) Z B (some ⟨B, off, none⟩) n c ys ⟨p + 1, none⟩ ∧ Turn Z w (w.drew.drew.setCell ⟨Z, 1, none⟩ (.int .i64 ((p + 1 : Nat) : Int)))) := by
        have t := (Turn.refl Z w.drew.drew).setCell (p := ⟨Z, 1, none⟩) rfl (.int .i64 ((p + 1 : Nat) : Int))
        exact ⟨⟨H3.out.box.set 1 _ (by simp) rfl, row_turn H3.out.row t (H3.out.far.imp id (fun e => by omega)), H3.out.len, H3.out.le, H3.out.by_, H3.out.far, hlt⟩, (Turn.of_below bB).trans t⟩
      have lk2 : ((p : Nat) : Int) < (n : Nat) := by omega
      rw [show (((p + 1 : Nat)) : Int) = (p : Int) + 1 by omega] at FIN
      clear g4 g5 H H2 H3 bA bB HL BY N0 ey
      go_enter Tryd.func81, Tryd.ntmps81
      go_wp2_with fail
      go_still (by kernel_rfl)
      go_wp2_with fail
      clear c0 c1 c2 cy f1 e4
      generalize w.drew = v at x0 x1 cy1 d2 FIN z1 zs ⊢
      go_still (by kernel_rfl)
      go_wp2
      go_ret
      exact ⟨rfl, FIN.out⟩
    · have lk : ((n : Nat) : Int) ≤ (p : Nat) := by omega
      have N0 : nx ys af ⟨p, none⟩ = (0, ⟨p, some af⟩) := by unfold nx; simp only [List.getElem?_eq_none (by rw [HL.out]; omega : ys.length ≤ p)]
      rw [N0]
      have e5 := cell_below bA e4
      have TD : Hid (Turn Z w w.drew) := Turn.of_below bA
      clear g4 H bA HL BY N0
      go_enter Tryd.func81, Tryd.ntmps81
      go_wp2_with fail
      go_still (by kernel_rfl)
      go_wp2_with fail
      refine (fail Z _ _ none af w.drew H2.out.box).mono ?_
      rintro r u ⟨rfl, RZ, TZ⟩
      have y2 := RZ.cell 2 _ rfl
      simp only [evv, orE] at y2
      have FIN : Hid (Rr u Z B q n c ys ⟨p, some af⟩ ∧ Turn Z w u) := ⟨⟨RZ, row_turn H2.out.row TZ (H2.out.far.imp id (fun e => by omega)), H2.out.len, H2.out.le, H2.out.by_, H2.out.far, H2.out.few⟩, TD.out.trans TZ⟩
      clear RZ TZ H2 TD d2 e5
      go_wp2
      go_ret
      exact ⟨rfl, FIN.out⟩
end Go.Proofs.YtkeelacobknfbaaDoor.Wr
