/-
  The laws' own marks of atoms.
-/
import Derived.Test.YtagfgbkclopoeaaTabE
import Derived.Test.YtagfgbkclopoeaaPolP
namespace Go.Proofs.Ytagfgbkclopoeaa.Tab
set_option linter.unusedVariables false
open Go.ChangeShapes Go.WideShapes Go.ChangeAt Go.RowKit IntS Pol
def offT (ts : List At) (j : Nat) : Int := 2 * (j : Int) + (totT (ts.take j) : Int)
theorem offs_full (ps : List Mono) : offs ps ps.length = (ps.length : Int) + (tot ps : Int) := by unfold offs; rw [List.take_length]
theorem offT_next {ts : List At} {j : Nat} {t : At} (h : ts[j]? = some t) : offT ts (j + 1) = offT ts j + 2 + offs t.x t.x.length + offs t.y t.y.length := by
  rw [offs_full, offs_full]
  unfold offT
  rw [totT_next h]
  unfold szA
  omega
def markT1 (ts : List At) (k : Int) (j : Nat) (t : At) : At := ⟨k + offT ts j, k + offT ts j + 1, markP t.x (k + offT ts j + 2), markP t.y (k + offT ts j + 2 + offs t.x t.x.length)⟩
def mixT (ts : List At) (k : Int) (n : Nat) : List At := ts.mapIdx fun j x => if j < n then markT1 ts k j x else x
def markT (ts : List At) (k : Int) : List At := ts.mapIdx fun j x => markT1 ts k j x
theorem markT_at {ts : List At} {k : Int} {j : Nat} {x : At} (h : ts[j]? = some x) : (markT ts k)[j]? = some (markT1 ts k j x) := by unfold markT; rw [List.getElem?_mapIdx, h]; rfl
theorem mixT_at {ts : List At} {k : Int} {n j : Nat} {x : At} (h : ts[j]? = some x) : (mixT ts k n)[j]? = some (if j < n then markT1 ts k j x else x) := by unfold mixT; rw [List.getElem?_mapIdx, h]; rfl
theorem mixT_len (ts : List At) (k : Int) (n : Nat) : (mixT ts k n).length = ts.length := by unfold mixT; rw [List.length_mapIdx]
theorem markT_len (ts : List At) (k : Int) : (markT ts k).length = ts.length := by unfold markT; rw [List.length_mapIdx]
theorem mixT_none {ts : List At} {k : Int} {n j : Nat} (h : ts[j]? = none) : (mixT ts k n)[j]? = none := by unfold mixT; rw [List.getElem?_mapIdx, h]; rfl
theorem mixT_zero (ts : List At) (k : Int) : mixT ts k 0 = ts := by
  apply List.ext_getElem?
  intro i
  cases h : ts[i]? with
  | none => rw [mixT_none h]
  | some x => rw [mixT_at h, if_neg (by omega)]
theorem mixT_whole (ts : List At) (k : Int) : mixT ts k ts.length = markT ts k := by
  apply List.ext_getElem?
  intro i
  cases h : ts[i]? with
  | none => rw [mixT_none h]; unfold markT; rw [List.getElem?_mapIdx, h]; rfl
  | some x => rw [mixT_at h, markT_at h, if_pos (List.getElem?_eq_some_iff.1 h).1]
theorem mixT_next {ts : List At} {k : Int} {n : Nat} {x : At} (h : ts[n]? = some x) : (mixT ts k n).set n (markT1 ts k n x) = mixT ts k (n + 1) := by
  apply List.ext_getElem?
  intro i
  by_cases e : n = i
  · subst e
    rw [List.getElem?_set_self (by rw [mixT_len]; exact (List.getElem?_eq_some_iff.1 h).1), mixT_at h, if_pos (by omega)]
  · rw [List.getElem?_set_ne e]
    cases g : ts[i]? with
    | none => rw [mixT_none g, mixT_none g]
    | some y =>
      rw [mixT_at g, mixT_at g]
      by_cases e2 : i < n
      · rw [if_pos e2, if_pos (by omega)]
      · rw [if_neg e2, if_neg (by omega)]
theorem WT.mark {w w' : World} {lo hi : Nat} {a : Option Addr} {G cap : Nat} {l m hh : Nat → Nat} {sx sy : Nat → Value} {ts : List At} (h : WT w lo hi a G cap l m hh sx sy ts) {j : Nat} {t : At} (ht : ts[j]? = some t) {kd k : Int} {xs ys : List Mono}
    (hk : Keep (fun b => b = G ∨ (l j ≤ b ∧ b < hh j)) w w') (c0 : w'.cell? ⟨G, j * 4, none⟩ = some (.int .i64 kd)) (c1 : w'.cell? ⟨G, j * 4 + 1, none⟩ = some (.int .i64 k)) (far : ∀ o, o ≠ j * 4 → o ≠ j * 4 + 1 → w'.cell? ⟨G, o, none⟩ = w.cell? ⟨G, o, none⟩) (fr : ∀ o, w'.frozen? ⟨G, o, none⟩ = w.frozen? ⟨G, o, none⟩)
    (hx : WPoly w' (l j) (m j) (sx j) xs) (hy : WPoly w' (m j) (hh j) (sy j) ys) : WT w' lo hi a G cap l m hh sx sy (ts.set j ⟨kd, k, xs, ys⟩) := by
  have hj := (List.getElem?_eq_some_iff.1 ht).1
  have hG := h.at_.resolve_left (fun e => by rw [e] at ht; simp at ht)
  refine ⟨by rw [List.length_set]; exact h.le, h.mx, h.nl, Or.inr ⟨hG.1, hG.2.1, hG.2.2.1, Nat.lt_of_lt_of_le hG.2.2.2 hk.size⟩, fun i x hi => ?_, fun i i' e e' => h.apart i i' e (by rw [List.length_set] at e'; exact e')⟩
  by_cases e : j = i
  · subst e
    rw [List.getElem?_set_self hj] at hi
    obtain rfl := Option.some.inj hi
    obtain ⟨⟨k1, k2, k3, k4, k5, k6⟩, _, _, k9⟩ := h.cells j t ht
    exact ⟨⟨c0, (fr _).trans k2, c1, (fr _).trans k4, (far _ (by omega) (by omega)).trans k5, (far _ (by omega) (by omega)).trans k6⟩, hx, hy, k9⟩
  · rw [List.getElem?_set_ne e] at hi
    have hil := (List.getElem?_eq_some_iff.1 hi).1
    obtain ⟨⟨k1, k2, k3, k4, k5, k6⟩, k7, k8, k9, k10, k11, k12, k13⟩ := h.cells i x hi
    have hap : hh i ≤ l j ∨ hh j ≤ l i := by
      by_cases e2 : i < j
      · exact Or.inl (h.apart i j e2 hj)
      · exact Or.inr (h.apart j i (by omega) hil)
    obtain ⟨_, _, _, q1, q2, q3, _, q4⟩ := h.cells j t ht
    refine ⟨⟨(far _ (by omega) (by omega)).trans k1, (fr _).trans k2, (far _ (by omega) (by omega)).trans k3, (fr _).trans k4, (far _ (by omega) (by omega)).trans k5, (far _ (by omega) (by omega)).trans k6⟩, k7.keep hk (fun b h1 h2 h3 => ?_), k8.keep hk (fun b h1 h2 h3 => ?_), k9, k10, k11, k12, k13⟩
    · rcases h3 with h3 | h3 <;> omega
    · rcases h3 with h3 | h3 <;> omega
end Go.Proofs.Ytagfgbkclopoeaa.Tab
