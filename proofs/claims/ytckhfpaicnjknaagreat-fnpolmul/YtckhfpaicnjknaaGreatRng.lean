/-
  A range over a function whose iterator makes what it hands over: the round is told what holds of it in the round's own world.
-/
import Derived.RangeFuncNested
import Derived.RangeFuncBound
import Derived.RangeFuncCalls
import Derived.RangeFuncLeaves
import Derived.RangeFuncWrites
import Derived.Shelf.Abstract
import Derived.Shelf.RegionOpen
import Derived.WalkKit
import Derived.OwnWalkIn
import Derived.TacticsInMore
import Derived.LoopNIn
import Derived.LoopIn
namespace Go.Proofs.YtckhfpaicnjknaaGreat.Rng
set_option linter.unusedVariables false
open Go Go.RowKit
/-- The world has grown; what lay below block B, and every block that holds cells, is as it was. -/
structure Mild (B : Nat) (A A' : World) : Prop where
  os : A'.os = A.os
  tape : A'.tape = A.tape
  output : A'.output = A.output
  size : A.heap.size ≤ A'.heap.size
  low : ∀ k : Nat, k < B → k < A.heap.size → A'.heap[k]? = A.heap[k]?
  cells : ∀ (k : Nat) cs t z, A.heap[k]? = some (Obj.cells cs t z) → A'.heap[k]? = some (Obj.cells cs t z)
theorem Mild.refl (B : Nat) (A : World) : Mild B A A := ⟨rfl, rfl, rfl, Nat.le_refl _, fun _ _ _ => rfl, fun _ _ _ _ h => h⟩
theorem Mild.trans {B : Nat} {A A' A'' : World} (h : Mild B A A') (k : Mild B A' A'') : Mild B A A'' :=
  ⟨k.os.trans h.os, k.tape.trans h.tape, k.output.trans h.output, Nat.le_trans h.size k.size, fun i hi hl => (k.low i hi (Nat.lt_of_lt_of_le hl h.size)).trans (h.low i hi hl), fun i cs t z e => k.cells i cs t z (h.cells i cs t z e)⟩
theorem lt_of_some {A : World} {k : Nat} {o : Obj} (h : A.heap[k]? = some o) : k < A.heap.size := (Array.getElem?_eq_some_iff.1 h).1
theorem Mild.of_below {B : Nat} {A A' : World} (h : Below A.heap.size A A') : Mild B A A' :=
  ⟨h.os, h.tape, h.output, h.size, fun k _ hl => h.block k hl, fun k cs t z e => (h.block k (lt_of_some e)).trans e⟩
theorem Mild.put {B : Nat} {A : World} {l : Nat} {o : Obj} (o' : Obj) (hB : B ≤ l) (hl : A.heap[l]? = some o) (ho : o.isCells = false) : Mild B A (A.putObj l o') :=
  ⟨rfl, rfl, rfl, by simp, fun k hk _ => World.putObj_heap_other (by omega), fun k cs t z e => by
    have : k ≠ l := fun e2 => by subst e2; rw [hl] at e; cases e; cases ho
    rw [World.putObj_heap_other this]
    exact e⟩
theorem Mild.alloc {B : Nat} (A : World) (o : Obj) : Mild B A (A.alloc o) := Mild.of_below ((Below.refl _ A).alloc (Nat.le_refl _) _)
theorem Mild.below {B : Nat} {w A A' : World} (h : Below B w A) (hm : Mild B A A') (hB : B ≤ w.heap.size) : Below B w A' :=
  ⟨hm.os.trans h.os, hm.tape.trans h.tape, hm.output.trans h.output, Nat.le_trans h.size hm.size, fun k hk => (hm.low k hk (Nat.lt_of_lt_of_le (Nat.lt_of_lt_of_le hk hB) h.size)).trans (h.block k hk)⟩
theorem Mild.cell {B : Nat} {A A' : World} (h : Mild B A A') {a : Addr} {v : Value} (hc : A.cell? a = some v) : A'.cell? a = some v := by
  unfold World.cell? at hc ⊢
  cases ho : A.heap[a.block]? with
  | none => simp [ho] at hc
  | some o =>
    cases o with
    | cells cs t z => rw [h.cells _ _ _ _ ho]; simpa [ho] using hc
    | _ => simp [ho] at hc
/-- Blocks of cells of these types are as they were. -/
def Kept (kt : TypeId → Prop) (A A' : World) : Prop := ∀ (k : Nat) cs t z, kt t → A.heap[k]? = some (Obj.cells cs t z) → A'.heap[k]? = some (Obj.cells cs t z)
theorem Kept.trans {kt : TypeId → Prop} {A B C : World} (h : Kept kt A B) (k : Kept kt B C) : Kept kt A C := fun i cs t z ht e => k i cs t z ht (h i cs t z ht e)
theorem Kept.refl {kt : TypeId → Prop} (A : World) : Kept kt A A := fun _ _ _ _ _ h => h
theorem Mild.kept {B : Nat} {kt : TypeId → Prop} {A A' : World} (h : Mild B A A') : Kept kt A A' := fun i cs t z _ e => h.cells i cs t z e
/-- What an iterator promises: each round is asked in a world that has grown out of one in which the caller's invariant held, and Fact holds of what it is handed. -/
def Tells {α : Type} (P : Program) (gf : Nat) (lb : Array Value) (encs : α → Array Value) (Src : World → Prop) (Fact : List α → α → World → World → Prop) (S : List α → Prop) (kt : TypeId → Prop) : Prop :=
  ∀ (l : Nat) (J Jx : List α → World → Prop) (W : World), (∀ pre A, J pre A → Src A) → (∀ pre A A', J pre A → Below A.heap.size A A' → J pre A') →
    (∀ pre x A₀ A, J pre A₀ → Below A₀.heap.size A₀ A → Fact pre x A₀ A → YieldAt Fence.wide 0 P l (encs x) A fun e A' => (e = .returned (.bool true) ∧ J (pre ++ [x]) A' ∧ Kept kt A A') ∨ (e = .returned (.bool false) ∧ Jx (pre ++ [x]) A')) →
    J [] W → CallsIn Fence.wide 0 P gf (#[.func (.yield l) #[] #[]] ++ lb) W fun e A => (∃ v, e = .returned v) ∧ ((∃ xs, S xs ∧ J xs A) ∨ ∃ pre, Jx pre A)
/-- How a round's body ends. -/
def roundEnds {α : Type} (B : Nat) (kt : TypeId → Prop) (I Ix : List α → World → Prop) (xs : List α) (A : World) : Exit → Act → World → Prop
  | .normal, _, A' => KeepsFrom B A A' ∧ I xs A' ∧ Kept kt A A'
  | .ret, _, A' => KeepsFrom B A A' ∧ Ix xs A'
  | _, _, _ => False
theorem range {P : Program} {α : Type} {g : Operand} {ps : Array Tmp} {assign body : Code} {Q : Exit → Act → World → Prop} {a : Act} {w : World}
    {gf : Nat} {lb : Array Value} (hg : a.eval g = .func (.func gf) #[] lb) (eg : ∀ args w, (callFunc gf args).run P w = .ok (.enter gf args) w)
    {encs : α → Array Value} {Src : World → Prop} {Fact : List α → α → World → World → Prop} {S : List α → Prop} {kt : TypeId → Prop} (T : Tells P gf lb encs Src Fact S kt) (hps : ∀ x, (encs x).size = ps.size)
    (I Ix : List α → World → Prop) (Ax : List α → α → Act → World → Prop) (hS : ∀ pre A, I pre A → Src A)
    (hI : ∀ pre A A', I pre A → Mild w.heap.size A A' → I pre A') (hIx : ∀ pre A A', Ix pre A → Mild w.heap.size A A' → Ix pre A')
    (hA : ∀ pre x a₁ A A', Ax pre x a₁ A → Mild w.heap.size A A' → Ax pre x a₁ A') (h0 : I [] w)
    (hassign : ∀ (l : Nat) (pre : List α) (x : α) (A₀ A : World) (K : Act → World → Prop), I pre A₀ → Below A₀.heap.size A₀ A → Fact pre x A₀ A → (∀ a₁ A₁, KeepsFrom w.heap.size A A₁ → Kept kt A A₁ → Ax pre x a₁ A₁ → K a₁ A₁) →
      assign.wpIn (Fence.wide.inRound l) 0 P (Exit.then K (fun _ _ _ => False)) { tmps := (ps.zip (encs x)).foldl (fun t (p, v) => t.setIfInBounds p v) a.tmps, defers := [] } A)
    (hbody : ∀ (l : Nat) (pre : List α) (x : α) (a₁ : Act) (A : World), Ax pre x a₁ A → body.wpIn (Fence.wide.inRound l) 0 P (roundEnds w.heap.size kt I Ix (pre ++ [x]) A) a₁ A)
    (hdone : ∀ (D : Nat) (xs : List α) (A : World), w.heap.size ≤ D → S xs → I xs A → A.heap[D]? = some (.deferred (some [])) → Q .normal { a with defers := { target := .collected D, args := #[] } :: a.defers } A)
    (hstop : ∀ (D : Nat) (pre : List α) (A : World), w.heap.size ≤ D → Ix pre A → A.heap[D]? = some (.deferred (some [])) → Q .ret { a with defers := { target := .collected D, args := #[] } :: a.defers } A) :
    (Code.rangeFunc g ps assign body).wpIn Fence.wide 0 P Q a w := by
  refine wpIn_rangeFunc ?_
  intro fn hfn
  obtain ⟨rec, hrec⟩ : ∃ rec : LoopState → Option Code → Loop, rec = fun st pe => { state := st, pending := pe, fn, tmps := a.tmps, params := ps, assign, body, defers := w.heap.size } := ⟨_, rfl⟩
  obtain ⟨l, el⟩ : ∃ l, l = w.heap.size + 1 := ⟨_, rfl⟩
  obtain ⟨W1, hW1⟩ : ∃ W1, (w.alloc (.deferred (some []))).alloc (.loop (rec .ready none)) = W1 := ⟨_, rfl⟩
  have hL1 : W1.heap[l]? = some (.loop (rec .ready none)) := by
    have h := World.alloc_heap_new (w.alloc (.deferred (some []))) (.loop (rec .ready none))
    rw [World.size_alloc] at h
    rw [← hW1, el]
    exact h
  have hK1 : W1.heap[w.heap.size]? = some (.deferred (some [])) := by
    rw [← hW1]
    exact (Below.heap_alloc _ _ _ (by simp)).trans (World.alloc_heap_new w _)
  have hI1 : I [] W1 := by
    rw [← hW1]
    exact hI _ _ _ h0 ((Mild.alloc w _).trans (Mild.alloc _ _))
  refine ⟨l, [{ target := .collected w.heap.size, args := #[] }], W1, { target := .fn (.func gf) lb, args := #[.func (.yield l) #[] #[]] }, W1, gf, #[.func (.yield l) #[] #[]] ++ lb, W1, ?_, ?_, fun f' _ => trivial, ?_, (fun h => by cases h), ?_⟩
  · rw [← hW1, hrec, el]
    exact run_enterLoop_outer _ _ _ _ _
  · simp only [resolve, hg]
    simp [go_sem]
  · simp [invoke, go_sem, eg]
  · refine (T l (fun pre A => I pre A ∧ A.heap[l]? = some (.loop (rec .ready none)) ∧ A.heap[w.heap.size]? = some (.deferred (some [])))
      (fun pre A => Ix pre A ∧ A.heap[l]? = some (.loop (rec .done (some .ret))) ∧ A.heap[w.heap.size]? = some (.deferred (some []))) W1
      (fun pre A h => hS pre A h.1)
      (fun pre A A' h hb => ⟨hI _ _ _ h.1 (Mild.of_below hb), (hb.block l (lt_of_some h.2.1)).trans h.2.1, (hb.block _ (lt_of_some h.2.2)).trans h.2.2⟩) ?_ ⟨hI1, hL1, hK1⟩).mono ?_
    · rintro pre x A₀ A ⟨hi, hl0, hk0⟩ hb0 hf
      have hl := (hb0.block l (lt_of_some hl0)).trans hl0
      have hk := (hb0.block _ (lt_of_some hk0)).trans hk0
      have hy := run_yield (P := P) (args := encs x) hl (by rw [hrec]; exact hps x)
      rw [hrec] at hy
      refine ⟨fn, _, assign, body, hy, roundIn_of_wpIn hfn (hassign l pre x A₀ A _ hi hb0 hf fun a₁ A₁ hk1 hk1' hax => ?_)⟩
      have hl1 := hk1.same l _ (by omega) hl rfl
      have hd1 := hk1.same w.heap.size _ (Nat.le_refl _) hk rfl
      have hlt1 := lt_of_some hl1
      obtain ⟨A₂, hA2⟩ : ∃ A₂, A₁.putObj l (.loop { rec .ready none with state := .busy }) = A₂ := ⟨_, rfl⟩
      refine ⟨A₂, by rw [← hA2]; exact run_beginRound hl1 (by rw [hrec]), ?_⟩
      have hl2 : A₂.heap[l]? = some (.loop { rec .ready none with state := .busy }) := by rw [← hA2]; exact World.putObj_heap_same hlt1
      have hd2 : A₂.heap[w.heap.size]? = some (.deferred (some [])) := by rw [← hA2]; exact (World.putObj_heap_other (by omega)).trans hd1
      have hkt2 : Kept kt A A₂ := hk1'.trans (by rw [← hA2]; exact (Mild.put (B := w.heap.size) _ (by omega) hl1 rfl).kept)
      have hax2 : Ax pre x a₁ A₂ := by rw [← hA2]; exact hA _ _ _ _ _ hax (Mild.put _ (by omega) hl1 rfl)
      refine wpIn_mono (hbody l pre x a₁ A₂ hax2) ?_
      have fin : ∀ (jump : Option Code) (A₃ : World), KeepsFrom w.heap.size A₂ A₃ → ∃ A₄, (Instr.endRound l jump).run P A₃ = .ok (.bool jump.isNone) A₄ ∧ Mild w.heap.size A₃ A₄ ∧
          A₄.heap[l]? = some (.loop (rec (if jump.isNone then .ready else .done) jump)) ∧ A₄.heap[w.heap.size]? = some (.deferred (some [])) := fun jump A₃ h3 => by
        have hl3 := h3.same l _ (by omega) hl2 rfl
        have hd3 := h3.same w.heap.size _ (Nat.le_refl _) hd2 rfl
        have hr := run_endRound (P := P) jump hl3
        rw [hrec] at hr ⊢
        exact ⟨_, hr, Mild.put _ (by omega) hl3 rfl, World.putObj_heap_same (lt_of_some hl3), (World.putObj_heap_other (by omega)).trans hd3⟩
      rintro e a3 A₃ hp
      cases e with
      | normal =>
        obtain ⟨A₄, hr, hm, hl4, hd4⟩ := fin none A₃ hp.1
        exact ⟨_, _, hr, .inl ⟨rfl, ⟨hI _ _ _ hp.2.1 hm, hl4, hd4⟩, (hkt2.trans hp.2.2).trans hm.kept⟩⟩
      | ret =>
        obtain ⟨A₄, hr, hm, hl4, hd4⟩ := fin (some .ret) A₃ hp.1
        exact ⟨_, _, hr, .inr ⟨rfl, hIx _ _ _ hp.2 hm, hl4, hd4⟩⟩
      | exit id => exact hp.elim
      | goto t => exact hp.elim
      | panic ch => exact hp.elim
      | outgrown => exact hp.elim
    · rintro e A ⟨⟨v, rfl⟩, (⟨xs, hs, hi, hl, hk⟩ | ⟨pre, hi, hl, hk⟩)⟩
      · refine ⟨none, _, by have := run_endLoop (P := P) hl (by rw [hrec]; simp); rw [hrec] at this; exact this, hdone _ xs _ (Nat.le_refl _) hs (hI _ _ _ hi (Mild.put _ (by omega) hl rfl)) ((World.putObj_heap_other (by omega)).trans hk)⟩
      · refine ⟨some .ret, _, by have := run_endLoop (P := P) hl (by rw [hrec]; simp); rw [hrec] at this; exact this, wpIn_ret (hstop _ pre _ (Nat.le_refl _) (hIx _ _ _ hi (Mild.put _ (by omega) hl rfl)) ((World.putObj_heap_other (by omega)).trans hk))⟩
end Go.Proofs.YtckhfpaicnjknaaGreat.Rng
