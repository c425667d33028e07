/-
  Plain data that came in (integers, bools, strings, structs by value, slices of such, at any depth), opened at once: from the reading of an argument to what its cells hold, to whatever depth. Over any program.
-/
import Derived.ProofKit
import Derived.Deep.Slices
namespace Go.Proofs.Ytmmlhmhlfmafgaa.Shape
open Go Go.ChangeShapes Go.WideShapes Go.RowKit

/-- What a row of cells of a type holds, to a depth. -/
def Holds (P : Program) (w : World) : Nat → TypeId → List Value → Prop
  | 0, _, _ => True
  | n + 1, t, cs => match P.underlying t with
    | some (.int k) => ∃ x, cs = [.int k x] ∧ (Lit.int k x).wf = true
    | some .bool => ∃ b, cs = [.bool b]
    | some .string => ∃ s : ByteArray, cs = [.string s] ∧ s.size ≤ maxLen
    | some (.slice e) => cs = [.slice none 0 0] ∨ ∃ a len cap, cs = [.slice (some a) len cap] ∧ len ≤ cap ∧ cap ≤ maxLen ∧
        ∀ i, i < cap → ∃ xs, xs.length = P.cellsOf e ∧ (∀ j, j < P.cellsOf e → w.cell? (a.add (i * P.cellsOf e + j)) = xs[j]?) ∧ Holds P w n e xs
    | some (.struct fs) => cs.length = P.cellsOf t ∧ ∀ f, f ∈ fs.toList → Holds P w n f.type ((cs.drop f.offset).take (P.cellsOf f.type))
    | _ => True

theorem mapM_len {α β : Type} {f : α → Option β} : ∀ {l : List α} {r : List β}, l.mapM f = some r → r.length = l.length ∧ ∀ (i : Nat) (a : α), l[i]? = some a → f a = r[i]?
  | [], r, h => by
    simp at h
    subst h
    exact ⟨rfl, fun i a ha => by simp at ha⟩
  | x :: l, r, h => by
    simp only [List.mapM_cons, Option.bind_eq_bind, Option.bind_eq_some_iff, Option.pure_def, Option.some.injEq] at h
    obtain ⟨b, hb, r', hr', rfl⟩ := h
    obtain ⟨h1, h2⟩ := mapM_len hr'
    refine ⟨by simp [h1], fun i a ha => ?_⟩
    cases i with
    | zero =>
      simp only [List.getElem?_cons_zero, Option.some.injEq] at ha
      subst ha
      simpa using hb
    | succ i => simpa using h2 i a (by simpa using ha)
theorem add_add (a : Addr) (i j : Nat) : (a.add i).add j = a.add (i + j) := by
  unfold Addr.add
  by_cases hi : i = 0
  · subst hi; simp
  · by_cases hj : j = 0
    · subst hj; simp
    · simp [hi, hj]; omega
theorem cells_at {w : World} {a : Addr} {n : Nat} {xs : List Value} (h : w.cells? 0 a n = some xs) : xs.length = n ∧ ∀ j, j < n → w.cell? (a.add j) = xs[j]? := by
  unfold World.cells? at h
  rw [if_pos (Nat.zero_le _)] at h
  obtain ⟨h1, h2⟩ := mapM_len h
  simp only [List.length_range] at h1
  refine ⟨h1, fun j hj => h2 j j (by rw [List.getElem?_range hj])⟩

theorem holds_of {H : Type} {enc : TypeId × Value → H} {P : Program} {w : World} : ∀ (n : Nat) (t : TypeId) (cs : List Value) (fuel : Nat) (x : DataW H × List MemPlace),
    DataW.trod enc P w 0 (fun _ => true) true fuel t cs = some x → Holds P w n t cs := by
  intro n
  induction n with
  | zero => intro t cs fuel x h; trivial
  | succ n ih =>
    intro t cs fuel x h
    unfold Holds
    split
    · rename_i k hu
      obtain ⟨y, hc, _, hw⟩ := DataW.trod_int hu h
      exact ⟨y, hc, hw⟩
    · rename_i hu
      obtain ⟨b, hc, _⟩ := DataW.trod_bool hu h
      exact ⟨b, hc⟩
    · rename_i hu
      obtain ⟨b, hc, _, hs⟩ := DataW.trod_string hu h
      exact ⟨b, hc, hs⟩
    · rename_i e hu
      rcases Deep.open_slice hu h with ⟨h0, _⟩ | ⟨a, len, cap, m, k, D, Pl, hcs, _, hl, hm, hmm, _, hx⟩
      · exact Or.inl h0
      · refine Or.inr ⟨a, len, cap, hcs, hl, hm, fun i hi => ?_⟩
        rw [if_pos rfl] at hmm
        obtain ⟨xs, h1, h2⟩ := hx i (by omega)
        obtain ⟨g1, g2⟩ := cells_at h1
        refine ⟨xs, g1, fun j hj => ?_, ih e xs k _ h2⟩
        rw [← add_add]
        exact g2 j hj
    · rename_i fs hu
      obtain ⟨xs, k, _, _, hlen, hxl, hall⟩ := DataW.trod_struct hu h
      refine ⟨hlen, fun f hm => ?_⟩
      obtain ⟨i, hi, hif⟩ := List.mem_iff_getElem.1 hm
      have h1 := hall i f (by rw [← Array.getElem?_toList, List.getElem?_eq_getElem hi, hif])
      have hi' : i < xs.length := by rw [hxl]; simpa using hi
      rw [List.getElem?_eq_getElem hi'] at h1
      exact ih _ _ k _ h1
    · trivial

/-- AN ARGUMENT, OPENED. -/
theorem opened {H : Type} {enc : TypeId × Value → H} {P : Program} {w : World} {t : TypeId} {v : Value} {d : DataW H} {p : List MemPlace} (n : Nat) (h : DataW.Trod enc P w 0 (fun _ => true) true t v d p) : Holds P w n t v.cells.toList := by
  obtain ⟨fuel, h⟩ := h
  exact holds_of n t _ fuel _ h
theorem holds_int {P : Program} {w : World} {n : Nat} {t : TypeId} {k : IntKind} {cs : List Value} (hu : P.underlying t = some (.int k)) (h : Holds P w (n + 1) t cs) : ∃ x, cs = [.int k x] ∧ (Lit.int k x).wf = true := by
  unfold Holds at h; rw [hu] at h; exact h
theorem holds_bool {P : Program} {w : World} {n : Nat} {t : TypeId} {cs : List Value} (hu : P.underlying t = some .bool) (h : Holds P w (n + 1) t cs) : ∃ b, cs = [.bool b] := by
  unfold Holds at h; rw [hu] at h; exact h
theorem holds_slice {P : Program} {w : World} {n : Nat} {t e : TypeId} {cs : List Value} (hu : P.underlying t = some (.slice e)) (h : Holds P w (n + 1) t cs) : cs = [.slice none 0 0] ∨ ∃ a len cap, cs = [.slice (some a) len cap] ∧ len ≤ cap ∧ cap ≤ maxLen ∧
    ∀ i, i < cap → ∃ xs, xs.length = P.cellsOf e ∧ (∀ j, j < P.cellsOf e → w.cell? (a.add (i * P.cellsOf e + j)) = xs[j]?) ∧ Holds P w n e xs := by
  unfold Holds at h; rw [hu] at h; exact h
theorem holds_struct {P : Program} {w : World} {n : Nat} {t : TypeId} {fs : Array Field} {cs : List Value} (hu : P.underlying t = some (.struct fs)) (h : Holds P w (n + 1) t cs) : cs.length = P.cellsOf t ∧ ∀ f, f ∈ fs.toList → Holds P w n f.type ((cs.drop f.offset).take (P.cellsOf f.type)) := by
  unfold Holds at h; rw [hu] at h; exact h
end Go.Proofs.Ytmmlhmhlfmafgaa.Shape
