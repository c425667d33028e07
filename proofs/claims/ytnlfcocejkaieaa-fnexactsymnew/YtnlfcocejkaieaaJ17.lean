/-
  Atoms by their keys in a map.
  Appending a part to a slice of parts that the call has made.
  A region that draws its order, in two phases: what reads yields in every world that meets S, as long as nothing of the second phase has come up; behind operations of the second phase (number n on), each of which waits for all of the first, S is asked no more. (The library's wpAnyH asks it behind every operation; the proof of the taking goes after its own.)
-/
import Derived.Test.YtnlfcocejkaieaaJ16
import Derived.Maps.OwnOps
import Derived.Maps.OwnSet
import Derived.DeepKeys4
import Derived.Test.YtnlfcocejkaieaaJ06
import Derived.Test.YtnlfcocejkaieaaJ02
import Derived.Deep.RegionHeld
namespace Go.Proofs.Ytnlfcocejkaieaa.Tab
set_option linter.unusedVariables false
open Go.ChangeShapes Go.WideShapes Go.ChangeAt Go.RowKit Go.Shelf IntS Pol Rng
theorem laidB : laidOutB Try.prog = true := by kernel_rfl
theorem key_row : (72 : TypeId) < Try.prog.types.size := of_decide_eq_true (by kernel_rfl)
theorem key_wide : (match Try.prog.underlying 72 with | some (.array _ _) | some (.struct _) => true | _ => false) = true := by rw [Try.underlying72]
set_option maxRecDepth 100000 in
theorem key_law : WideMaps.KeyLaw Try.prog 72 := deep_law_laid laidB (m := 2) (by omega) key_row (by kernel_rfl) key_wide
theorem keyed : Maps.Keyed Try.prog 72 := Maps.Keyed.of_law key_law
def keyB (t : At) : List UInt8 := keyBytes [.int .i64 t.kd, .int .i64 t.k, .string (sumTxt t.x), .string (sumTxt t.y)]
def keyL (t : At) : Lit := .string (keyB t)
/-- An atom that has a key. -/
structure KOk (t : At) : Prop where
  kd : (Lit.int .i64 t.kd).wf = true
  k : (Lit.int .i64 t.k).wf = true
  x : okP t.x = true
  y : okP t.y = true
theorem wf_small {n : Int} (h0 : 0 ≤ n) (h1 : n ≤ 1000) : (Lit.int .i64 n).wf = true := by
  have h := wrap64_wf n
  rwa [IntWalk.wrap64_in n ⟨by omega, by omega⟩] at h
theorem ok_nil : okP [] = true := rfl
theorem in_iff {n lo hi : Int} (h : inI n lo hi = true) : lo ≤ n ∧ n ≤ hi := of_decide_eq_true h
theorem bare_nil {t : At} (h : bareB t = true) : t.x = [] ∧ t.y = [] := by
  unfold bareB at h
  simp only [Bool.and_eq_true, decide_eq_true_eq] at h
  exact ⟨List.length_eq_zero_iff.1 h.1, List.length_eq_zero_iff.1 h.2⟩
theorem atom_kok {t : At} {n : Int} (h : atomB t n = true) : KOk t := by
  by_cases e1 : t.kd = 1
  · rw [atom_reg e1, Bool.and_eq_true] at h
    have h2 := in_iff h.1
    have h3 := bare_nil h.2
    exact ⟨wf_small (by omega) (by omega), wf_small (by omega) (by omega), by rw [h3.1]; rfl, by rw [h3.2]; rfl⟩
  · by_cases e2 : t.kd = 2 ∨ t.kd = 3
    · rw [atom_in e2, Bool.and_eq_true] at h
      have h2 := in_iff h.1
      have h3 := bare_nil h.2
      exact ⟨wf_small (by omega) (by omega), wf_small (by omega) (by omega), by rw [h3.1]; rfl, by rw [h3.2]; rfl⟩
    · by_cases e4 : t.kd = 4
      · rw [atom_do e4] at h
        simp only [Bool.and_eq_true] at h
        obtain ⟨⟨⟨⟨h1, h2⟩, h3⟩, h4⟩, h5⟩ := h
        have h6 := in_iff h1
        exact ⟨wf_small (by omega) (by omega), wf_small (by omega) (by omega), h2, h3⟩
      · rw [atom_no e1 (fun h => e2 (Or.inl h)) (fun h => e2 (Or.inr h)) e4] at h
        cases h
theorem len_ok {ps : List Mono} (h : okP ps = true) : (sumTxt ps).length ≤ 84 := by
  obtain ⟨h1, h2⟩ := ok_parts' h
  have := sumTxt_len (ps := ps) (fun m hm => (mono_good (h2 m hm)).2.2.2.2)
  omega
set_option maxRecDepth 8000 in
theorem key_of {t : At} (h : KOk t) : keyOf Try.prog 72 (kv t) = some (keyL t) := by
  have hx := len_ok h.x
  have hy := len_ok h.y
  have e1 : Try.prog.keyType 72 = true := by kernel_rfl
  have c4 : Try.prog.cellsOf 72 = 4 := by kernel_rfl
  have c1 : Try.prog.cellsOf 3 = 1 := by kernel_rfl
  have cs : Try.prog.cellsOf 9 = 1 := by kernel_rfl
  obtain ⟨m, hm⟩ : ∃ m, Try.prog.types.size = m + 1 := ⟨_, (Nat.succ_pred_eq_of_pos (Nat.lt_of_le_of_lt (Nat.zero_le _) key_row)).symm⟩
  have w1 := h.kd
  have w2 := h.k
  have sx : (⟨(sumTxt t.x).toArray⟩ : ByteArray).size ≤ maxLen := by show (sumTxt t.x).toArray.size ≤ maxLen; unfold maxLen; simp; omega
  have sy : (⟨(sumTxt t.y).toArray⟩ : ByteArray).size ≤ maxLen := by show (sumTxt t.y).toArray.size ≤ maxLen; unfold maxLen; simp; omega
  unfold keyOf kv keyL keyB
  rw [Try.underlying72, hm]
  have f1 : (Value.agg #[.int .i64 t.kd, .int .i64 t.k, .string ⟨(sumTxt t.x).toArray⟩, .string ⟨(sumTxt t.y).toArray⟩]).formed Try.prog 72 = true := by simp [Value.formed, Try.underlying72, c4]
  simp [e1, f1, Value.cells, Program.keyLits, Try.underlying72, Try.underlying3, Try.underlying9, c4, c1, cs, w1, w2, sx, sy]
theorem key_inj {s t : At} (hs : KOk s) (ht : KOk t) (h : keyB s = keyB t) : s.kd = t.kd ∧ s.k = t.k ∧ sumTxt s.x = sumTxt t.x ∧ sumTxt s.y = sumTxt t.y := by
  have e := keyed.inj (key_of hs) (by unfold keyL; rw [h]; exact key_of ht)
  unfold kv at e
  simp at e
  exact e
theorem txt_join {av bv : List Int} {r r' : List UInt8} (ha : Fine av) (hb : Fine bv) (h : txt av ++ r = txt bv ++ r') : av = bv ∧ r = r' := by
  unfold txt at h
  simp only [List.cons_append, List.cons.injEq] at h
  have hl : av.length = bv.length := by
    have h1 := congrArg UInt8.toNat h.1
    simp only [UInt8.toNat_ofNat'] at h1
    have := ha.len
    have := hb.len
    omega
  have h2 := List.append_inj h.2 (by simp [hl])
  exact ⟨bytes_inj ha.at_ hb.at_ h2.1, h2.2⟩
theorem coef_inj {c d : Int} (hc : 0 < c ∧ c < 65536) (hd : 0 < d ∧ d < 65536) (h1 : Pol.byteOf (c / 256) = Pol.byteOf (d / 256)) (h2 : Pol.byteOf c = Pol.byteOf d) : c = d := by
  have e1 := congrArg UInt8.toNat h1
  have e2 := congrArg UInt8.toNat h2
  unfold Pol.byteOf at e1 e2
  simp only [UInt8.toNat_ofNat'] at e1 e2
  omega
theorem sum_inj : ∀ {ps qs : List Mono}, (∀ m ∈ ps, monoB m = true) → (∀ m ∈ qs, monoB m = true) → sumTxt ps = sumTxt qs → ps = qs
  | [], [], _, _, _ => rfl
  | [], m :: r, _, _, h => by simp [sumTxt, partTxt] at h
  | m :: r, [], _, _, h => by simp [sumTxt, partTxt] at h
  | m :: r, q :: s, h1, h2, h => by
    have g1 := mono_good (h1 m (List.mem_cons_self ..))
    have g2 := mono_good (h2 q (List.mem_cons_self ..))
    simp only [sumTxt, partTxt, List.cons_append, List.nil_append, List.cons.injEq] at h
    have h3 := txt_join g1.1 g2.1 h.2.2
    have h4 := sum_inj (fun x hx => h1 x (List.mem_cons_of_mem _ hx)) (fun x hx => h2 x (List.mem_cons_of_mem _ hx)) h3.2
    have h5 := coef_inj g1.2.1 g2.2.1 h.1 h.2.1
    obtain ⟨c, a⟩ := m
    obtain ⟨d, b⟩ := q
    simp only at h5 h3
    rw [h5, h3.1, h4]
theorem lex_self : ∀ a : List Int, lexI a a = 0
  | [] => rfl
  | x :: a => by
    show (if x < x then -1 else if x < x then 1 else lexI a a) = 0
    rw [if_neg (by omega), if_neg (by omega), lex_self a]
theorem ordA_self (a : List Int) : ordA a a = 0 := by
  unfold ordA
  rw [if_neg (by omega), if_neg (by omega), lex_self]
theorem ordM_zero : ∀ {a b : List Mono}, ordM a b = 0 → a = b
  | [], [], _ => rfl
  | [], _ :: _, h => by simp [ordM] at h
  | _ :: _, [], h => by simp [ordM] at h
  | x :: a, y :: b, h => by
    unfold ordM at h
    by_cases e1 : ordA x.2 y.2 = 0
    · rw [if_neg (fun h => h e1)] at h
      by_cases e2 : x.1 < y.1
      · rw [if_pos e2] at h; omega
      · rw [if_neg e2] at h
        by_cases e3 : y.1 < x.1
        · rw [if_pos e3] at h; omega
        · rw [if_neg e3] at h
          have h4 := ordM_zero h
          have h5 := ordT_eq e1
          obtain ⟨c, u⟩ := x
          obtain ⟨d, v⟩ := y
          simp only at *
          have : c = d := by omega
          rw [this, h5, h4]
    · rw [if_pos e1] at h
      exact absurd h e1
theorem ordM_self : ∀ a : List Mono, ordM a a = 0
  | [] => rfl
  | x :: a => by
    unfold ordM
    rw [if_neg (fun h => h (ordA_self x.2)), if_neg (by omega), if_neg (by omega), ordM_self a]
theorem ordP_zero {a b : List Mono} (h : ordP a b = 0) : a = b := by
  unfold ordP at h
  by_cases e1 : a.length < b.length
  · rw [if_pos e1] at h; omega
  · rw [if_neg e1] at h
    by_cases e2 : b.length < a.length
    · rw [if_pos e2] at h; omega
    · rw [if_neg e2] at h
      exact ordM_zero h
theorem ordP_self (a : List Mono) : ordP a a = 0 := by
  unfold ordP
  rw [if_neg (by omega), if_neg (by omega), ordM_self]
theorem same_key {s t : At} (hs : KOk s) (ht : KOk t) : sameB s t = decide (keyB s = keyB t) := by
  by_cases h : keyB s = keyB t
  · obtain ⟨h1, h2, h3, h4⟩ := key_inj hs ht h
    have h5 := sum_inj (ok_parts' hs.x).2 (ok_parts' ht.x).2 h3
    have h6 := sum_inj (ok_parts' hs.y).2 (ok_parts' ht.y).2 h4
    rw [decide_eq_true h]
    unfold sameB
    rw [h5, h6, ordP_self, ordP_self, h1, h2]
    simp
  · rw [decide_eq_false h]
    unfold sameB
    by_cases h1 : s.kd = t.kd
    · by_cases h2 : s.k = t.k
      · by_cases h3 : ordP s.x t.x = 0
        · by_cases h4 : ordP s.y t.y = 0
          · refine absurd ?_ h
            unfold keyB
            rw [h1, h2, ordP_zero h3, ordP_zero h4]
          · simp [h4]
        · simp [h3]
      · simp [h2]
    · simp [h1]
/-- A map that has the place of each of these atoms by its key. -/
structure TMap (w : World) (b : Nat) (ts : List At) : Prop where
  ex : ∃ (nn : Nat) (D : DataW Unit), w.ownsMap Try.prog 72 (plainElem Try.prog 3) b nn D ∧ nn ≤ ts.length ∧ (∀ l : List UInt8, Maps.has D (.string l) = ts.any fun t => decide (keyB t = l)) ∧ ∀ (k : Nat) t, ts[k]? = some t → D.atKey (keyL t) (.lit (.int .i64 0)) = .lit (.int .i64 k)
theorem TMap.lt {w : World} {b : Nat} {ts : List At} (h : TMap w b ts) : b < w.heap.size := by
  obtain ⟨nn, D, h1, _⟩ := h
  exact h1.lt
theorem TMap.turn {w w' : World} {b B : Nat} {ts : List At} (h : TMap w b ts) (ht : Turn B w w') (hB : b ≠ B) : TMap w' b ts := by
  obtain ⟨nn, D, h1, h2⟩ := h
  refine ⟨nn, D, ?_, h2⟩
  have hl := h1.lt
  obtain ⟨e, clock, hb, F, hs, hD⟩ := h1
  exact ⟨e, clock, (ht.block b hl hB).trans hb, F, hs, hD⟩
theorem TMap.below {w w' : World} {b : Nat} {ts : List At} (h : TMap w b ts) (hb : Below w.heap.size w w') : TMap w' b ts := h.turn (B := w.heap.size) (Turn.of_below hb) (by have := h.lt; omega)
theorem tmap_new (w : World) : TMap (w.alloc (.map #[] 0)) w.heap.size [] := ⟨0, .map [], World.ownsMap_made w _ _ _, Nat.le_refl _, fun l => rfl, fun k t h => by simp at h⟩
theorem key_lit (t : At) : WideAt.IsKeyLit (keyL t) := trivial
theorem tmap_put {w : World} {b : Nat} {ts : List At} {nn : Nat} {D : DataW Unit} {t : At} {w' : World} (hmap : Maps.IsMap D) (hnn : nn ≤ ts.length) (hhas : ∀ l : List UInt8, Maps.has D (.string l) = ts.any fun t => decide (keyB t = l)) (hat : ∀ (k : Nat) t, ts[k]? = some t → D.atKey (keyL t) (.lit (.int .i64 0)) = .lit (.int .i64 k)) (hno : Maps.has D (keyL t) = false)
    (hown : w'.ownsMap Try.prog 72 (plainElem Try.prog 3) b (nn + 1) (D.put (keyL t) (.lit (.int .i64 (ts.length : Int))))) : TMap w' b (ts ++ [t]) := by
  have ne : ∀ (k : Nat) s, ts[k]? = some s → keyL s ≠ keyL t := fun k s hs e => by
    unfold keyL at hno
    rw [hhas (keyB t), List.any_eq_false] at hno
    exact hno s (List.mem_of_getElem? hs) (decide_eq_true (Lit.string.inj e))
  refine ⟨nn + 1, _, hown, by simp; omega, fun l => ?_, fun k s hs => ?_⟩
  · rw [List.any_append]
    by_cases e : l = keyB t
    · subst e
      rw [show Lit.string (keyB t) = keyL t from rfl, Maps.has_put_same hmap (key_lit t)]
      simp
    · have ne' : Lit.string l ≠ keyL t := fun h => e (Lit.string.inj h)
      rw [Maps.has_put_other ne', hhas l]
      have : ¬ keyB t = l := fun h => e h.symm
      simp [this]
  · by_cases e : k < ts.length
    · rw [List.getElem?_append_left e] at hs
      rw [Maps.atKey_put_other (ne k s hs), hat k s hs]
    · rw [List.getElem?_append_right (by omega)] at hs
      have : k = ts.length := by
        have := (List.getElem?_eq_some_iff.1 hs).1
        simp at this
        omega
      subst this
      rw [Nat.sub_self] at hs
      obtain rfl := Option.some.inj (show some t = some s from hs)
      rw [Maps.atKey_put_same hmap (key_lit t)]
end Go.Proofs.Ytnlfcocejkaieaa.Tab
namespace Go.Proofs.Ytnlfcocejkaieaa.Pol
open Go.ChangeShapes Go.WideShapes Go.ChangeAt Go.RowKit IntS
theorem infoMono : ∃ i, Try.prog.info? 53 = some i ∧ i.zero = some (.agg #[.int .i64 0, .slice none 0 0]) ∧ i.size = 2 ∧ i.bytes = 32 := by
  have hinfo : (Try.prog.info? 53).map (fun i => (i.zero, i.size, i.bytes)) = some (some (.agg #[.int .i64 0, .slice none 0 0]), 2, 32) := by kernel_rfl
  obtain ⟨i, hi, h⟩ := Option.map_eq_some_iff.1 hinfo
  simp only [Prod.mk.injEq] at h
  exact ⟨i, hi, h.1, h.2.1, h.2.2⟩
/-- The cells of parts: each a word, and a slice. -/
def flat : List (Int × Value) → List Value
  | [] => []
  | c :: r => .int .i64 c.1 :: c.2 :: flat r
theorem flat_len : ∀ cs : List (Int × Value), (flat cs).length = cs.length * 2
  | [] => rfl
  | c :: r => by simp [flat, flat_len r]; omega
theorem flat_app : ∀ a b : List (Int × Value), flat (a ++ b) = flat a ++ flat b
  | [], b => rfl
  | c :: a, b => by simp [flat, flat_app a b]
theorem flat_at : ∀ (cs : List (Int × Value)) (i : Nat) (c : Int × Value), cs[i]? = some c → (flat cs)[i * 2]? = some (.int .i64 c.1) ∧ (flat cs)[i * 2 + 1]? = some c.2
  | [], i, c, h => by simp at h
  | d :: r, 0, c, h => by
    obtain rfl := Option.some.inj h
    exact ⟨rfl, rfl⟩
  | d :: r, i + 1, c, h => by
    have := flat_at r i c h
    rw [show (i + 1) * 2 = i * 2 + 1 + 1 by omega]
    exact this
/-- A slice of parts that the call made, from its array's first place on. -/
def OwnM (w : World) (base : Nat) (v : Value) (cs : List (Int × Value)) : Prop := w.ownsRow base 53 2 v cs.length (flat cs)
theorem OwnM.cells {w : World} {base G n cap : Nat} {cs : List (Int × Value)} (h : OwnM w base (.slice (some ⟨G, 0, none⟩) n cap) cs) : n = cs.length ∧ n ≤ cap ∧ cap ≤ maxLen ∧ base ≤ G ∧ IsT w G 53 ∧ (∀ (i : Nat) c, cs[i]? = some c → w.cell? ⟨G, i * 2, none⟩ = some (.int .i64 c.1) ∧ w.cell? ⟨G, i * 2 + 1, none⟩ = some c.2) ∧ ∀ i, w.frozen? ⟨G, i, none⟩ = false := by
  obtain ⟨hl, h0 | ⟨g', cap', cur, hv, hb, hh, hle, hm, hc, ht⟩⟩ := h
  · exact absurd h0.1 (by simp)
  · cases hv
    have hat (j : Nat) (u : Value) (hu : (flat cs)[j]? = some u) : w.cell? ⟨G, j, none⟩ = some u := by
      have hj : j < cs.length * 2 := by rw [← flat_len]; exact (List.getElem?_eq_some_iff.1 hu).1
      rw [← ht, List.getElem?_take, if_pos hj] at hu
      unfold World.cell?
      simp only [hh]
      simpa using hu
    refine ⟨rfl, hle, hm, hb, ⟨cur, _, hh⟩, fun i c hc2 => ⟨hat _ _ (flat_at cs i c hc2).1, hat _ _ (flat_at cs i c hc2).2⟩, fun i => ?_⟩
    unfold World.frozen?
    simp [hh]
theorem OwnM.form {w : World} {base : Nat} {v : Value} {cs : List (Int × Value)} (h : OwnM w base v cs) (hn : ¬ v = .slice none 0 0) : ∃ G cap, v = .slice (some ⟨G, 0, none⟩) cs.length cap := by
  obtain ⟨hl, h0 | ⟨g', cap', cur, hv, _⟩⟩ := h
  · exact absurd h0.1 hn
  · exact ⟨g', cap', hv⟩
theorem OwnM.turn {w w' : World} {base B : Nat} {v : Value} {cs : List (Int × Value)} (h : OwnM w base v cs) (ht : Turn B w w') (hB : ∀ G n cap, v = .slice (some ⟨G, 0, none⟩) n cap → G ≠ B) : OwnM w' base v cs := by
  obtain ⟨hl, h0 | ⟨g', cap', cur, hv, hb, hh, rest⟩⟩ := h
  · exact ⟨hl, Or.inl h0⟩
  · refine ⟨hl, Or.inr ⟨g', cap', cur, hv, hb, ?_, rest⟩⟩
    rw [ht.block g' (by rcases Nat.lt_or_ge g' w.heap.size with h' | h'; exact h'; rw [Array.getElem?_eq_none h'] at hh; cases hh) (hB _ _ _ hv)]
    exact hh
theorem OwnM.below {w w' : World} {base : Nat} {v : Value} {cs : List (Int × Value)} (h : OwnM w base v cs) (hb : Below w.heap.size w w') : OwnM w' base v cs := by
  obtain ⟨hl, h0 | ⟨g', cap', cur, hv, hb2, hh, rest⟩⟩ := h
  · exact ⟨hl, Or.inl h0⟩
  · refine ⟨hl, Or.inr ⟨g', cap', cur, hv, hb2, ?_, rest⟩⟩
    rw [hb.block g' (by rcases Nat.lt_or_ge g' w.heap.size with h' | h'; exact h'; rw [Array.getElem?_eq_none h'] at hh; cases hh)]
    exact hh
theorem wpList_pushM {w : World} {ops : Array Oper} {rest : List Oper} {o : Oper} {a : Act} {Q : Exit → Act → World → Prop} (hgd : o.guard = none) (s x : Operand)
    (ho : o.op = .call { callee := .builtin .append, args := #[s, x], argTypes := #[33, 33] })
    (lo : Nat) (v : Value) (cs : List (Int × Value)) (hs : a.eval s = v) (hown : OwnM w lo v cs) (hlo : lo ≤ w.heap.size)
    (ad : Addr) (c : Int) (q : Option Addr) (m k : Nat) (hx : a.eval x = .slice (some ad) 1 1) (hc : w.cell? (ad.add 0) = some (.int .i64 c)) (hc2 : w.cell? (ad.add 1) = some (.slice q m k)) (hl : cs.length ≤ 1000000)
    (h : ∀ (G cap : Nat) (w' : World), Hid (OwnM w' lo (.slice (some ⟨G, 0, none⟩) (cs.length + 1) cap) (cs ++ [(c, .slice q m k)])) → Hid (w.grownBy w' v.ownBlock) → wpList Try.prog ops Q rest (a.put o.dst (.slice (some ⟨G, 0, none⟩) (cs.length + 1) cap)) w') : wpList Try.prog ops Q (o :: rest) a w := by
  obtain ⟨i, hi, hz, hsz, hby⟩ := infoMono
  refine wpList_append_own w hgd s x 33 ho lo 53 i _ 2 32 Try.underlying33 hi hz hsz hby rfl (by decide) v cs.length (flat cs) hs hown ad 1 1 [.int .i64 c, .slice q m k] hx rfl (fun j u hu => ?_) (fun u hu => by simp at hu; rcases hu with rfl | rfl <;> rfl) (by unfold maxLen; omega) (by omega) hlo fun v' w' h1 h2 h3 => ?_
  · match j, hu with
    | 0, hu => cases hu; exact hc
    | 1, hu => cases hu; exact hc2
    | j + 2, hu => simp at hu
  · have e : flat cs ++ [.int .i64 c, .slice q m k] = flat (cs ++ [(c, .slice q m k)]) := by rw [flat_app]; rfl
    rw [e] at h1
    have g1 : OwnM w' lo v' (cs ++ [(c, .slice q m k)]) := by
      unfold OwnM
      rw [List.length_append]
      exact h1
    obtain ⟨G, cap, rfl⟩ := g1.form (fun e2 => by have := (h3.1 e2).2; omega)
    rw [List.length_append] at g1
    have := h G cap w' g1 h2
    simpa using this
end Go.Proofs.Ytnlfcocejkaieaa.Pol
namespace Go.Proofs.Ytnlfcocejkaieaa.Phase
open Go
section
variable {P : Program} {ops : Array Oper} {Q : Exit → Act → World → Prop} {md : Region.Mode} {S : World → Prop} {n : Nat}
/-- Whatever order is picked from here on, and S holds behind every operation of the first phase. -/
def wpAnyQ (P : Program) (md : Region.Mode) (ops : Array Oper) (Q : Exit → Act → World → Prop) (S : World → Prop) (n : Nat) : Nat → Array Bool → Act → World → Prop
  | 0, listed, a, w => Region.ready md ops listed = [] ∧ Q .normal a w
  | fuel + 1, listed, a, w =>
    (Region.ready md ops listed = [] → Q .normal a w) ∧
    ∀ i ∈ Region.ready md ops listed, wpOp P ops Q i (fun a' w' => (i < n → S w') ∧ wpAnyQ P md ops Q S n fuel (listed.setIfInBounds i true) a' w') a w
theorem any_of_Q : ∀ (fuel : Nat) (listed : Array Bool) (a : Act) (w : World), wpAnyQ P md ops Q S n fuel listed a w → wpAny P md ops Q fuel listed a w
  | 0, _, _, _, h => h
  | fuel + 1, _, _, _, h => ⟨h.1, fun i hi => wpOp_mono (fun a' w' h' => any_of_Q fuel _ a' w' h'.2) (h.2 i hi)⟩
/-- Every operation of the second phase waits for number i. -/
def Waits (md : Region.Mode) (ops : Array Oper) (n i : Nat) : Prop := ∀ (k : Nat) (ok : Oper), n ≤ k → ops[k]? = some ok → ∃ e ∈ ok.after, Region.binds md e = true ∧ e.on = i
def waitsB (md : Region.Mode) (ops : Array Oper) (n i : Nat) : Bool := (ops.toList.drop n).all fun ok => ok.after.any fun e => Region.binds md e && e.on == i
theorem waits_of {i : Nat} (h : waitsB md ops n i = true) : Waits md ops n i := by
  intro k ok hk hok
  unfold waitsB at h
  rw [List.all_eq_true] at h
  have hm : ok ∈ ops.toList.drop n := by
    rw [List.mem_iff_getElem?]
    exact ⟨k - n, by rw [List.getElem?_drop, show n + (k - n) = k by omega, Array.getElem?_toList]; exact hok⟩
  have h2 := h ok hm
  rw [Array.any_eq_true] at h2
  obtain ⟨j, hj, h3⟩ := h2
  simp only [Bool.and_eq_true, beq_iff_eq] at h3
  exact ⟨ok.after[j], Array.getElem_mem hj, h3.1, h3.2⟩
theorem unlisted {i : Nat} {listed : Array Bool} (h : i ∈ Region.ready md ops listed) : ¬ listed.getD i false = true := fun h1 => by
  have h0 := (mem_ready.1 h).1
  rcases Nat.lt_or_ge i listed.size with h' | h'
  · simp [h'] at h0 h1; rw [h0] at h1; cases h1
  · simp [Array.getElem?_eq_none h'] at h1
theorem first {i : Nat} {oi : Oper} {v : Value} (hi : ops[i]? = some oi) (hw : Waits md ops n i) (hin : i < n) (hsel : ∀ (j : Nat) (o : Oper) cs b, ops[j]? = some o → o.op ≠ .select cs b)
    (hQ : ∀ c a w, Q (.panic c) (a.put oi.dst v) w → Q (.panic c) a w) :
    ∀ (fuel : Nat) (listed : Array Bool) (a : Act) (w : World),
      (∀ j oj, ops[j]? = some oj → j ≠ i → listed.getD j true = false → (∀ e ∈ oj.after, Region.binds md e = true → e.on ≠ i) → oi.apart ops oj = true) →
      i ∈ Region.ready md ops listed → YieldsIf P ops S oi v a → S w →
      wpAnyQ P md ops Q S n fuel (listed.setIfInBounds i true) (a.put oi.dst v) w → wpAnyQ P md ops Q S n (fuel + 1) listed a w := by
  intro fuel
  induction fuel with
  | zero =>
    intro listed a w _ hr hy hS H
    refine ⟨fun h => (by rw [h] at hr; cases hr), fun j hj => ?_⟩
    by_cases hji : j = i
    · subst hji; exact hy.wpOp hi hS ⟨fun _ => hS, H⟩
    · have := ready_mono hj hji
      rw [H.1] at this
      cases this
  | succ fuel ih =>
    intro listed a w hfree hr hy hS H
    refine ⟨fun h => (by rw [h] at hr; cases hr), fun j hj => ?_⟩
    by_cases hji : j = i
    · subst hji; exact hy.wpOp hi hS ⟨fun _ => hS, H⟩
    · have h1 := H.2 j (ready_mono hj hji)
      obtain ⟨hjun, oj, hoj, hall⟩ := mem_ready.1 hj
      have hnot : ∀ e ∈ oj.after, Region.binds md e = true → e.on ≠ i := fun e he hb heq => by
        have h1 := hall e he hb
        rw [heq] at h1
        exact unlisted hr h1
      have hjn : j < n := by
        rcases Nat.lt_or_ge j n with h | h
        · exact h
        · obtain ⟨e, he, hb, heq⟩ := hw j oj h hoj
          exact absurd heq (hnot e he hb)
      have h2 := wpOp_putIf hoj (hfree j oj hoj hji hjun hnot) (fun cs b => hsel i oi cs b hi) (fun cs b => hsel j oj cs b hoj) hQ hy h1
      have hfree' : ∀ k ok, ops[k]? = some ok → k ≠ i → (listed.setIfInBounds j true).getD k true = false →
          (∀ e ∈ ok.after, Region.binds md e = true → e.on ≠ i) → oi.apart ops ok = true := fun k ok hk hki hun hno => by
        refine hfree k ok hk hki ?_ hno
        by_cases hjk : j = k
        · subst hjk; exact hjun
        · rw [getD_set_ne true hjk] at hun; exact hun
      refine wpOp_mono (fun a' w' h3 => ⟨h3.2.1, ih (listed.setIfInBounds j true) a' w' hfree' (ready_mono hr (Ne.symm hji)) h3.1 (h3.2.1 hjn) ?_⟩) h2
      rw [Array.setIfInBounds_comm _ _ hji]
      exact h3.2.2
/-- Take number i first. -/
theorem take {i : Nat} {oi : Oper} {v : Value} {fuel : Nat} {listed : Array Bool} {a : Act} {w : World} (hi : ops[i]? = some oi) (hw : waitsB md ops n i = true) (hin : i < n)
    (hs : Region.noSelect ops = true) (hf : Region.free md ops listed i = true) (hr : (Region.ready md ops listed).contains i = true)
    (hQ : ∀ c a w, Q (.panic c) (a.put oi.dst v) w → Q (.panic c) a w) (hy : YieldsIf P ops S oi v a) (hS : S w)
    (h : wpAnyQ P md ops Q S n fuel (listed.setIfInBounds i true) (a.put oi.dst v) w) : wpAnyQ P md ops Q S n (fuel + 1) listed a w :=
  first hi (waits_of hw) hin (Region.noSelect_spec hs) hQ fuel listed a w (Region.free_spec hi hf) (by simpa using hr) hy hS h
theorem firstW {i : Nat} {oi : Oper} {v : Value} (hi : ops[i]? = some oi) (hin : n ≤ i) (hsel : ∀ (j : Nat) (o : Oper) cs b, ops[j]? = some o → o.op ≠ .select cs b)
    (hQ : ∀ c a w, Q (.panic c) (a.put oi.dst v) w → Q (.panic c) a w) :
    ∀ (fuel : Nat) (listed : Array Bool) (a : Act) (w : World),
      (∀ j oj, ops[j]? = some oj → j ≠ i → listed.getD j true = false → (∀ e ∈ oj.after, Region.binds md e = true → e.on ≠ i) → oi.apart ops oj = true) →
      i ∈ Region.ready md ops listed → YieldsIf P ops (fun _ => True) oi v a →
      wpAnyQ P md ops Q S n fuel (listed.setIfInBounds i true) (a.put oi.dst v) w → wpAnyQ P md ops Q S n (fuel + 1) listed a w := by
  intro fuel
  induction fuel with
  | zero =>
    intro listed a w _ hr hy H
    refine ⟨fun h => (by rw [h] at hr; cases hr), fun j hj => ?_⟩
    by_cases hji : j = i
    · subst hji; exact hy.wpOp hi trivial ⟨fun h => absurd h (by omega), H⟩
    · have := ready_mono hj hji
      rw [H.1] at this
      cases this
  | succ fuel ih =>
    intro listed a w hfree hr hy H
    refine ⟨fun h => (by rw [h] at hr; cases hr), fun j hj => ?_⟩
    by_cases hji : j = i
    · subst hji; exact hy.wpOp hi trivial ⟨fun h => absurd h (by omega), H⟩
    · have h1 := H.2 j (ready_mono hj hji)
      obtain ⟨hjun, oj, hoj, hall⟩ := mem_ready.1 hj
      have hnot : ∀ e ∈ oj.after, Region.binds md e = true → e.on ≠ i := fun e he hb heq => by
        have h1 := hall e he hb
        rw [heq] at h1
        exact unlisted hr h1
      have h2 := wpOp_putIf hoj (hfree j oj hoj hji hjun hnot) (fun cs b => hsel i oi cs b hi) (fun cs b => hsel j oj cs b hoj) hQ hy h1
      have hfree' : ∀ k ok, ops[k]? = some ok → k ≠ i → (listed.setIfInBounds j true).getD k true = false →
          (∀ e ∈ ok.after, Region.binds md e = true → e.on ≠ i) → oi.apart ops ok = true := fun k ok hk hki hun hno => by
        refine hfree k ok hk hki ?_ hno
        by_cases hjk : j = k
        · subst hjk; exact hjun
        · rw [getD_set_ne true hjk] at hun; exact hun
      refine wpOp_mono (fun a' w' h3 => ⟨h3.2.1, ih (listed.setIfInBounds j true) a' w' hfree' (ready_mono hr (Ne.symm hji)) h3.1 ?_⟩) h2
      rw [Array.setIfInBounds_comm _ _ hji]
      exact h3.2.2
/-- Take number i of the second phase first: it yields in whatever world. -/
theorem takeW {i : Nat} {oi : Oper} {v : Value} {fuel : Nat} {listed : Array Bool} {a : Act} {w : World} (hi : ops[i]? = some oi) (hin : n ≤ i)
    (hs : Region.noSelect ops = true) (hf : Region.free md ops listed i = true) (hr : (Region.ready md ops listed).contains i = true)
    (hQ : ∀ c a w, Q (.panic c) (a.put oi.dst v) w → Q (.panic c) a w) (hy : YieldsIf P ops (fun _ => True) oi v a)
    (h : wpAnyQ P md ops Q S n fuel (listed.setIfInBounds i true) (a.put oi.dst v) w) : wpAnyQ P md ops Q S n (fuel + 1) listed a w :=
  firstW hi hin (Region.noSelect_spec hs) hQ fuel listed a w (Region.free_spec hi hf) (by simpa using hr) hy h
def AllQ (P : Program) (md : Region.Mode) (ops : Array Oper) (Q : Exit → Act → World → Prop) (S : World → Prop) (n fuel : Nat) (listed : Array Bool) (a : Act) (w : World) (rs : List Nat) : Prop :=
  ∀ i ∈ rs, wpOp P ops Q i (fun a' w' => (i < n → S w') ∧ wpAnyQ P md ops Q S n fuel (listed.setIfInBounds i true) a' w') a w
theorem AllQ.nil {fuel : Nat} {listed : Array Bool} {a : Act} {w : World} : AllQ P md ops Q S n fuel listed a w [] := fun _ h => by cases h
theorem AllQ.cons {fuel : Nat} {listed : Array Bool} {a : Act} {w : World} {i : Nat} {o : Oper} {rs : List Nat} (ho : ops[i]? = some o)
    (h : ∀ K' : Act → World → Prop, Shut (∀ a w, (i < n → S w) → wpAnyQ P md ops Q S n fuel (listed.setIfInBounds i true) a w → K' a w) → if Region.wanted o (yielded ops a.tmps) = true then Oper.wp P o a w K' Q else K' (a.put o.dst undef) w)
    (hs : AllQ P md ops Q S n fuel listed a w rs) : AllQ P md ops Q S n fuel listed a w (i :: rs) := fun j hj => by
  rcases List.mem_cons.1 hj with rfl | hj
  · exact wpOp_step ho (fun K' hK => h K' (fun a w hS hW => hK a w ⟨hS, hW⟩))
  · exact hs j hj
theorem ready {rs : List Nat} {fuel : Nat} {listed : Array Bool} {a : Act} {w : World} (hr : Region.ready md ops listed = rs) (hne : rs ≠ [])
    (h : AllQ P md ops Q S n fuel listed a w rs) : wpAnyQ P md ops Q S n (fuel + 1) listed a w := ⟨fun h0 => absurd (hr ▸ h0) hne, hr ▸ h⟩
theorem done {listed : Array Bool} {a : Act} {w : World} (hr : Region.ready md ops listed = []) (h : Q .normal a w) : ∀ fuel, wpAnyQ P md ops Q S n fuel listed a w
  | 0 => ⟨hr, h⟩
  | _ + 1 => ⟨fun _ => h, by rw [hr]; simp⟩
/-- The beginning. -/
theorem region {id : Nat} {a : Act} {w : World} (n : Nat) (hm : P.follows .mixedOrders = true) (h : wpAnyQ P .any ops Q S n ops.size (Array.replicate ops.size false) a w.drew) : (Code.region id ops true).wp P Q a w :=
  wp_region_any hm (any_of_Q _ _ _ _ h)
end
end Go.Proofs.Ytnlfcocejkaieaa.Phase
