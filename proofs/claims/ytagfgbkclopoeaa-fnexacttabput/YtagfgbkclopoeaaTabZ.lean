/-
  What atoms come to, as lists; an int appended to a list that the call made.
-/
import Derived.Test.YtagfgbkclopoeaaTabVa
import Derived.Test.YtagfgbkclopoeaaTabY
import Derived.Test.YtagfgbkclopoeaaPhaseIn
namespace Go.Proofs.Ytagfgbkclopoeaa.Tab
set_option linter.unusedVariables false
open Go.ChangeShapes Go.WideShapes Go.ChangeAt Go.RowKit Go.Shelf IntS Pol Rng
def valOf (regs loads ins : List Int) (t : At) (vals : List Int) : Int := if t.kd = 1 then atI regs t.k else if t.kd = 2 then atI loads t.k else if t.kd = 3 then atI ins t.k else Wrd.wdo t.k (evalP t.x vals) (evalP t.y vals)
def valsGo (regs loads ins : List Int) : List At → List Int → List Int
  | [], vals => vals
  | t :: r, vals => valsGo regs loads ins r (vals ++ [valOf regs loads ins t vals])
theorem valsGo_app (regs loads ins : List Int) : ∀ (a b : List At) (vals : List Int), valsGo regs loads ins (a ++ b) vals = valsGo regs loads ins b (valsGo regs loads ins a vals)
  | [], b, vals => rfl
  | t :: a, b, vals => valsGo_app regs loads ins a b _
theorem vals_next {regs loads ins : List Int} {ts : List At} {k : Nat} {t : At} (h : ts[k]? = some t) : valsGo regs loads ins (ts.take (k + 1)) [] = valsGo regs loads ins (ts.take k) [] ++ [valOf regs loads ins t (valsGo regs loads ins (ts.take k) [])] := by
  rw [List.take_add_one, h, valsGo_app]
  rfl
theorem valsGo_len (regs loads ins : List Int) : ∀ (a : List At) (vals : List Int), (valsGo regs loads ins a vals).length = vals.length + a.length
  | [], vals => rfl
  | t :: a, vals => by
    show (valsGo regs loads ins a _).length = _
    rw [valsGo_len]
    simp
    omega
theorem own_row {w : World} {base : Nat} {v : Value} {xs : List Int} (h : IntS.Own w base v xs) : ∃ B, Row w B v xs := by
  by_cases e : v = .slice none 0 0
  · subst e
    obtain ⟨hl, h0 | ⟨g, cap, cur, hv, _⟩⟩ := h
    · have : xs = [] := List.length_eq_zero_iff.1 h0.2
      subst this
      exact ⟨0, (nil_row w 0).row⟩
    · cases hv
  · obtain ⟨g, cap, e1, _, _, W⟩ := h.form e
    exact ⟨g, W.row⟩
theorem own_below {w w' : World} {base : Nat} {v : Value} {xs : List Int} (h : IntS.Own w base v xs) (hb : Below w.heap.size w w') : IntS.Own w' base v xs := Srt.owns_mild (B := 0) h (Mild.of_below hb)
/-- An int appended to a list of ints that the call made, nil too. -/
theorem wpList_pushV {w : World} {ops : Array Oper} {rest : List Oper} {o : Oper} {a : Act} {Q : Exit → Act → World → Prop} (hgd : o.guard = none) (s x : Operand)
    (ho : o.op = .call { callee := .builtin .append, args := #[s, x], argTypes := #[49, 49] })
    (base : Nat) (v : Value) (xs : List Int) (hs : a.eval s = v) (hown : IntS.Own w base v xs) (hb : base ≤ w.heap.size)
    (ad : Addr) (y : Int) (hx : a.eval x = .slice (some ad) 1 1) (hc : w.cell? (ad.add 0) = some (.int .i64 y)) (hl : xs.length ≤ 1000000)
    (h : ∀ (v' : Value) (w' : World), Hid (IntS.Own w' base v' (xs ++ [y])) → Hid (Below base w w') → wpList Try.prog ops Q rest (a.put o.dst v') w') : wpList Try.prog ops Q (o :: rest) a w := by
  obtain ⟨i0, hi, hz, hsz, hby⟩ := info_int
  have hlt := hown.lt
  refine wpList_append_own w hgd s x 49 ho base 3 i0 (.int .i64 0) 1 8 Try.underlying49 hi hz hsz hby rfl (by decide) v xs.length (vals xs) hs hown ad 1 1 [.int .i64 y] hx rfl (fun j u hu => ?_) (fun u hu => by simp at hu; subst hu; rfl) (by unfold maxLen; omega) (by omega) hb fun v' w' h1 h2 h3 => ?_
  · match j, hu with
    | 0, hu => cases hu; exact hc
    | j + 1, hu => simp at hu
  · have g1 : IntS.Own w' base v' (xs ++ [y]) := by
      unfold IntS.Own
      rw [List.length_append, show vals (xs ++ [y]) = vals xs ++ [.int .i64 y] by simp [vals]]
      exact h1
    exact h v' w' g1 ((Below.refl base w).grown h2 hb (fun k e => (hlt k e).1))
end Go.Proofs.Ytagfgbkclopoeaa.Tab

