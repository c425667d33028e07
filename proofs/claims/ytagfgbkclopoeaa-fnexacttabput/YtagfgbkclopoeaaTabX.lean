/-
  Atoms by their keys in a map.
-/
import Derived.Test.YtagfgbkclopoeaaTabW
import Derived.Test.YtagfgbkclopoeaaTabT
import Derived.Maps.OwnOps
import Derived.Maps.OwnSet
import Derived.DeepKeys4
namespace Go.Proofs.Ytagfgbkclopoeaa.Tab
set_option linter.unusedVariables false
open Go.ChangeShapes Go.WideShapes Go.ChangeAt Go.RowKit Go.Shelf IntS Pol Rng
theorem laidB : laidOutB Try.prog = true := by kernel_rfl
theorem key_row : (67 : TypeId) < Try.prog.types.size := of_decide_eq_true (by kernel_rfl)
theorem key_wide : (match Try.prog.underlying 67 with | some (.array _ _) | some (.struct _) => true | _ => false) = true := by rw [Try.underlying67]
set_option maxRecDepth 100000 in
theorem key_law : WideMaps.KeyLaw Try.prog 67 := deep_law_laid laidB (m := 2) (by omega) key_row (by kernel_rfl) key_wide
theorem keyed : Maps.Keyed Try.prog 67 := Maps.Keyed.of_law key_law
def keyB (t : At) : List UInt8 := keyBytes [.int .i64 t.kd, .int .i64 t.k, .string (sumTxt t.x), .string (sumTxt t.y)]
def keyL (t : At) : Lit := .string (keyB t)
/-- An atom that has a key. -/
structure KOk (t : At) : Prop where
  kd : (Lit.int .i64 t.kd).wf = true
  k : (Lit.int .i64 t.k).wf = true
  x : okP t.x = true
  y : okP t.y = true
theorem wf_small {n : Int} (h0 : 0 ≤ n) (h1 : n ≤ 1000) : (Lit.int .i64 n).wf = true := by
  have h := wrap64_wf n
  rwa [IntWalk.wrap64_in n ⟨by omega, by omega⟩] at h
theorem ok_nil : okP [] = true := rfl
theorem in_iff {n lo hi : Int} (h : inI n lo hi = true) : lo ≤ n ∧ n ≤ hi := of_decide_eq_true h
theorem bare_nil {t : At} (h : bareB t = true) : t.x = [] ∧ t.y = [] := by
  unfold bareB at h
  simp only [Bool.and_eq_true, decide_eq_true_eq] at h
  exact ⟨List.length_eq_zero_iff.1 h.1, List.length_eq_zero_iff.1 h.2⟩
theorem atom_kok {t : At} {n : Int} (h : atomB t n = true) : KOk t := by
  by_cases e1 : t.kd = 1
  · rw [atom_reg e1, Bool.and_eq_true] at h
    have h2 := in_iff h.1
    have h3 := bare_nil h.2
    exact ⟨wf_small (by omega) (by omega), wf_small (by omega) (by omega), by rw [h3.1]; rfl, by rw [h3.2]; rfl⟩
  · by_cases e2 : t.kd = 2 ∨ t.kd = 3
    · rw [atom_in e2, Bool.and_eq_true] at h
      have h2 := in_iff h.1
      have h3 := bare_nil h.2
      exact ⟨wf_small (by omega) (by omega), wf_small (by omega) (by omega), by rw [h3.1]; rfl, by rw [h3.2]; rfl⟩
    · by_cases e4 : t.kd = 4
      · rw [atom_do e4] at h
        simp only [Bool.and_eq_true] at h
        obtain ⟨⟨⟨⟨h1, h2⟩, h3⟩, h4⟩, h5⟩ := h
        have h6 := in_iff h1
        exact ⟨wf_small (by omega) (by omega), wf_small (by omega) (by omega), h2, h3⟩
      · rw [atom_no e1 (fun h => e2 (Or.inl h)) (fun h => e2 (Or.inr h)) e4] at h
        cases h
theorem len_ok {ps : List Mono} (h : okP ps = true) : (sumTxt ps).length ≤ 84 := by
  obtain ⟨h1, h2⟩ := ok_parts' h
  have := sumTxt_len (ps := ps) (fun m hm => (mono_good (h2 m hm)).2.2.2.2)
  omega
set_option maxRecDepth 8000 in
theorem key_of {t : At} (h : KOk t) : keyOf Try.prog 67 (kv t) = some (keyL t) := by
  have hx := len_ok h.x
  have hy := len_ok h.y
  have e1 : Try.prog.keyType 67 = true := by kernel_rfl
  have c4 : Try.prog.cellsOf 67 = 4 := by kernel_rfl
  have c1 : Try.prog.cellsOf 3 = 1 := by kernel_rfl
  have cs : Try.prog.cellsOf 9 = 1 := by kernel_rfl
  obtain ⟨m, hm⟩ : ∃ m, Try.prog.types.size = m + 1 := ⟨_, (Nat.succ_pred_eq_of_pos (Nat.lt_of_le_of_lt (Nat.zero_le _) key_row)).symm⟩
  have w1 := h.kd
  have w2 := h.k
  have sx : (⟨(sumTxt t.x).toArray⟩ : ByteArray).size ≤ maxLen := by show (sumTxt t.x).toArray.size ≤ maxLen; unfold maxLen; simp; omega
  have sy : (⟨(sumTxt t.y).toArray⟩ : ByteArray).size ≤ maxLen := by show (sumTxt t.y).toArray.size ≤ maxLen; unfold maxLen; simp; omega
  unfold keyOf kv keyL keyB
  rw [Try.underlying67, hm]
  have f1 : (Value.agg #[.int .i64 t.kd, .int .i64 t.k, .string ⟨(sumTxt t.x).toArray⟩, .string ⟨(sumTxt t.y).toArray⟩]).formed Try.prog 67 = true := by simp [Value.formed, Try.underlying67, c4]
  simp [e1, f1, Value.cells, Program.keyLits, Try.underlying67, Try.underlying3, Try.underlying9, c4, c1, cs, w1, w2, sx, sy]
theorem key_inj {s t : At} (hs : KOk s) (ht : KOk t) (h : keyB s = keyB t) : s.kd = t.kd ∧ s.k = t.k ∧ sumTxt s.x = sumTxt t.x ∧ sumTxt s.y = sumTxt t.y := by
  have e := keyed.inj (key_of hs) (by unfold keyL; rw [h]; exact key_of ht)
  unfold kv at e
  simp at e
  exact e
theorem txt_join {av bv : List Int} {r r' : List UInt8} (ha : Fine av) (hb : Fine bv) (h : txt av ++ r = txt bv ++ r') : av = bv ∧ r = r' := by
  unfold txt at h
  simp only [List.cons_append, List.cons.injEq] at h
  have hl : av.length = bv.length := by
    have h1 := congrArg UInt8.toNat h.1
    simp only [UInt8.toNat_ofNat'] at h1
    have := ha.len
    have := hb.len
    omega
  have h2 := List.append_inj h.2 (by simp [hl])
  exact ⟨bytes_inj ha.at_ hb.at_ h2.1, h2.2⟩
theorem coef_inj {c d : Int} (hc : 0 < c ∧ c < 65536) (hd : 0 < d ∧ d < 65536) (h1 : Pol.byteOf (c / 256) = Pol.byteOf (d / 256)) (h2 : Pol.byteOf c = Pol.byteOf d) : c = d := by
  have e1 := congrArg UInt8.toNat h1
  have e2 := congrArg UInt8.toNat h2
  unfold Pol.byteOf at e1 e2
  simp only [UInt8.toNat_ofNat'] at e1 e2
  omega
theorem sum_inj : ∀ {ps qs : List Mono}, (∀ m ∈ ps, monoB m = true) → (∀ m ∈ qs, monoB m = true) → sumTxt ps = sumTxt qs → ps = qs
  | [], [], _, _, _ => rfl
  | [], m :: r, _, _, h => by simp [sumTxt, partTxt] at h
  | m :: r, [], _, _, h => by simp [sumTxt, partTxt] at h
  | m :: r, q :: s, h1, h2, h => by
    have g1 := mono_good (h1 m (List.mem_cons_self ..))
    have g2 := mono_good (h2 q (List.mem_cons_self ..))
    simp only [sumTxt, partTxt, List.cons_append, List.nil_append, List.cons.injEq] at h
    have h3 := txt_join g1.1 g2.1 h.2.2
    have h4 := sum_inj (fun x hx => h1 x (List.mem_cons_of_mem _ hx)) (fun x hx => h2 x (List.mem_cons_of_mem _ hx)) h3.2
    have h5 := coef_inj g1.2.1 g2.2.1 h.1 h.2.1
    obtain ⟨c, a⟩ := m
    obtain ⟨d, b⟩ := q
    simp only at h5 h3
    rw [h5, h3.1, h4]
theorem lex_self : ∀ a : List Int, lexI a a = 0
  | [] => rfl
  | x :: a => by
    show (if x < x then -1 else if x < x then 1 else lexI a a) = 0
    rw [if_neg (by omega), if_neg (by omega), lex_self a]
theorem ordA_self (a : List Int) : ordA a a = 0 := by
  unfold ordA
  rw [if_neg (by omega), if_neg (by omega), lex_self]
theorem ordM_zero : ∀ {a b : List Mono}, ordM a b = 0 → a = b
  | [], [], _ => rfl
  | [], _ :: _, h => by simp [ordM] at h
  | _ :: _, [], h => by simp [ordM] at h
  | x :: a, y :: b, h => by
    unfold ordM at h
    by_cases e1 : ordA x.2 y.2 = 0
    · rw [if_neg (fun h => h e1)] at h
      by_cases e2 : x.1 < y.1
      · rw [if_pos e2] at h; omega
      · rw [if_neg e2] at h
        by_cases e3 : y.1 < x.1
        · rw [if_pos e3] at h; omega
        · rw [if_neg e3] at h
          have h4 := ordM_zero h
          have h5 := ordT_eq e1
          obtain ⟨c, u⟩ := x
          obtain ⟨d, v⟩ := y
          simp only at *
          have : c = d := by omega
          rw [this, h5, h4]
    · rw [if_pos e1] at h
      exact absurd h e1
theorem ordM_self : ∀ a : List Mono, ordM a a = 0
  | [] => rfl
  | x :: a => by
    unfold ordM
    rw [if_neg (fun h => h (ordA_self x.2)), if_neg (by omega), if_neg (by omega), ordM_self a]
theorem ordP_zero {a b : List Mono} (h : ordP a b = 0) : a = b := by
  unfold ordP at h
  by_cases e1 : a.length < b.length
  · rw [if_pos e1] at h; omega
  · rw [if_neg e1] at h
    by_cases e2 : b.length < a.length
    · rw [if_pos e2] at h; omega
    · rw [if_neg e2] at h
      exact ordM_zero h
theorem ordP_self (a : List Mono) : ordP a a = 0 := by
  unfold ordP
  rw [if_neg (by omega), if_neg (by omega), ordM_self]
theorem same_key {s t : At} (hs : KOk s) (ht : KOk t) : sameB s t = decide (keyB s = keyB t) := by
  by_cases h : keyB s = keyB t
  · obtain ⟨h1, h2, h3, h4⟩ := key_inj hs ht h
    have h5 := sum_inj (ok_parts' hs.x).2 (ok_parts' ht.x).2 h3
    have h6 := sum_inj (ok_parts' hs.y).2 (ok_parts' ht.y).2 h4
    rw [decide_eq_true h]
    unfold sameB
    rw [h5, h6, ordP_self, ordP_self, h1, h2]
    simp
  · rw [decide_eq_false h]
    unfold sameB
    by_cases h1 : s.kd = t.kd
    · by_cases h2 : s.k = t.k
      · by_cases h3 : ordP s.x t.x = 0
        · by_cases h4 : ordP s.y t.y = 0
          · refine absurd ?_ h
            unfold keyB
            rw [h1, h2, ordP_zero h3, ordP_zero h4]
          · simp [h4]
        · simp [h3]
      · simp [h2]
    · simp [h1]
/-- A map that has the place of each of these atoms by its key. -/
structure TMap (w : World) (b : Nat) (ts : List At) : Prop where
  ex : ∃ (nn : Nat) (D : DataW Unit), w.ownsMap Try.prog 67 (plainElem Try.prog 3) b nn D ∧ nn ≤ ts.length ∧ (∀ l : List UInt8, Maps.has D (.string l) = ts.any fun t => decide (keyB t = l)) ∧ ∀ (k : Nat) t, ts[k]? = some t → D.atKey (keyL t) (.lit (.int .i64 0)) = .lit (.int .i64 k)
theorem TMap.lt {w : World} {b : Nat} {ts : List At} (h : TMap w b ts) : b < w.heap.size := by
  obtain ⟨nn, D, h1, _⟩ := h
  exact h1.lt
theorem TMap.turn {w w' : World} {b B : Nat} {ts : List At} (h : TMap w b ts) (ht : Turn B w w') (hB : b ≠ B) : TMap w' b ts := by
  obtain ⟨nn, D, h1, h2⟩ := h
  refine ⟨nn, D, ?_, h2⟩
  have hl := h1.lt
  obtain ⟨e, clock, hb, F, hs, hD⟩ := h1
  exact ⟨e, clock, (ht.block b hl hB).trans hb, F, hs, hD⟩
theorem TMap.below {w w' : World} {b : Nat} {ts : List At} (h : TMap w b ts) (hb : Below w.heap.size w w') : TMap w' b ts := h.turn (B := w.heap.size) (Turn.of_below hb) (by have := h.lt; omega)
theorem tmap_new (w : World) : TMap (w.alloc (.map #[] 0)) w.heap.size [] := ⟨0, .map [], World.ownsMap_made w _ _ _, Nat.le_refl _, fun l => rfl, fun k t h => by simp at h⟩
theorem key_lit (t : At) : WideAt.IsKeyLit (keyL t) := trivial
theorem tmap_put {w : World} {b : Nat} {ts : List At} {nn : Nat} {D : DataW Unit} {t : At} {w' : World} (hmap : Maps.IsMap D) (hnn : nn ≤ ts.length) (hhas : ∀ l : List UInt8, Maps.has D (.string l) = ts.any fun t => decide (keyB t = l)) (hat : ∀ (k : Nat) t, ts[k]? = some t → D.atKey (keyL t) (.lit (.int .i64 0)) = .lit (.int .i64 k)) (hno : Maps.has D (keyL t) = false)
    (hown : w'.ownsMap Try.prog 67 (plainElem Try.prog 3) b (nn + 1) (D.put (keyL t) (.lit (.int .i64 (ts.length : Int))))) : TMap w' b (ts ++ [t]) := by
  have ne : ∀ (k : Nat) s, ts[k]? = some s → keyL s ≠ keyL t := fun k s hs e => by
    unfold keyL at hno
    rw [hhas (keyB t), List.any_eq_false] at hno
    exact hno s (List.mem_of_getElem? hs) (decide_eq_true (Lit.string.inj e))
  refine ⟨nn + 1, _, hown, by simp; omega, fun l => ?_, fun k s hs => ?_⟩
  · rw [List.any_append]
    by_cases e : l = keyB t
    · subst e
      rw [show Lit.string (keyB t) = keyL t from rfl, Maps.has_put_same hmap (key_lit t)]
      simp
    · have ne' : Lit.string l ≠ keyL t := fun h => e (Lit.string.inj h)
      rw [Maps.has_put_other ne', hhas l]
      have : ¬ keyB t = l := fun h => e h.symm
      simp [this]
  · by_cases e : k < ts.length
    · rw [List.getElem?_append_left e] at hs
      rw [Maps.atKey_put_other (ne k s hs), hat k s hs]
    · rw [List.getElem?_append_right (by omega)] at hs
      have : k = ts.length := by
        have := (List.getElem?_eq_some_iff.1 hs).1
        simp at this
        omega
      subst this
      rw [Nat.sub_self] at hs
      obtain rfl := Option.some.inj (show some t = some s from hs)
      rw [Maps.atKey_put_same hmap (key_lit t)]
end Go.Proofs.Ytagfgbkclopoeaa.Tab
