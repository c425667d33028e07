/-
  Parts by the text of their atoms in a map: the program's put.
-/
import Derived.Test.YtckhfpaicnjknaaGreatTxt
import Derived.Test.YtckhfpaicnjknaaGreatPolMa
import Derived.Maps.OwnOps
import Derived.Maps.OwnSet
import Derived.StringKeys
namespace Go.Proofs.YtckhfpaicnjknaaGreat.Pol
set_option linter.unusedVariables false
open Go.ChangeShapes Go.WideShapes Go.ChangeAt Go.RowKit Go.Shelf IntS Rng
/-- A map that has what so many parts come to, by the texts of their atoms. -/
structure MapOf (w : World) (b : Nat) (es : List Mono) : Prop where
  ex : ∃ (nn : Nat) (D : DataW Unit), w.ownsMap Tryz.prog 9 (plainElem Tryz.prog 3) b nn D ∧ nn ≤ es.length ∧ (∀ x, Maps.has D (.string x) = es.any fun m => decide (txt m.2 = x)) ∧ ∀ x, D.atKey (.string x) (.lit (.int .i64 0)) = .lit (.int .i64 (totE es x))
theorem MapOf.lt {w : World} {b : Nat} {es : List Mono} (h : MapOf w b es) : b < w.heap.size := by
  obtain ⟨nn, D, h1, _⟩ := h
  exact h1.lt
theorem MapOf.turn {w w' : World} {b B : Nat} {es : List Mono} (h : MapOf w b es) (ht : Turn B w w') (hB : b ≠ B) : MapOf w' b es := by
  obtain ⟨nn, D, h1, h2⟩ := h
  refine ⟨nn, D, ?_, h2⟩
  have hl := h1.lt
  obtain ⟨e, clock, hb, F, hs, hD⟩ := h1
  exact ⟨e, clock, (ht.block b hl hB).trans hb, F, hs, hD⟩
theorem MapOf.below {w w' : World} {b : Nat} {es : List Mono} (h : MapOf w b es) (hb : Below w.heap.size w w') : MapOf w' b es := h.turn (B := w.heap.size) (Turn.of_below hb) (by have := h.lt; omega)
theorem MapOf.mild {w w' : World} {b B : Nat} {es : List Mono} (h : MapOf w b es) (hm : Mild B w w') (hB : b < B) : MapOf w' b es := by
  obtain ⟨nn, D, h1, h2⟩ := h
  refine ⟨nn, D, ?_, h2⟩
  have hl := h1.lt
  obtain ⟨e, clock, hb, F, hs, hD⟩ := h1
  exact ⟨e, clock, (hm.low b hB hl).trans hb, F, hs, hD⟩
theorem map_new (w : World) : MapOf (w.alloc (.map #[] 0)) w.heap.size [] := ⟨0, .map [], World.ownsMap_made w _ _ _, Nat.le_refl _, fun x => rfl, fun x => rfl⟩
theorem lit_ne {x y : List UInt8} (h : x ≠ y) : Lit.string x ≠ Lit.string y := fun e => h (Lit.string.inj e)
set_option maxRecDepth 8000 in
set_option maxHeartbeats 16000000 in
theorem put (es : List Mono) (b : Nat) (c : Int) (xs : List Int) (B : Nat) (v : Value) (w : World) (hm : MapOf w b es) (hn : es.length ≤ 1000000) (hc : 0 ≤ c ∧ c < 65536) (h : Row w B v xs) (hx : ∀ x ∈ xs, 0 ≤ x ∧ x < 256) (hl : xs.length < 256) :
    Calls Tryz.prog 31 #[.map (some b), .int .i64 c, v] w fun e w' => e = .returned (.tuple #[]) ∧ MapOf w' b (es ++ [(c, Srt.sortI xs)]) ∧ Turn b w w' := by
  have AT := hide (atomsText xs B v w h hx hl)
  obtain ⟨a, cap, off, rfl, _⟩ := h
  obtain ⟨ys, ey⟩ : ∃ ys, Srt.sortI xs = ys := ⟨_, rfl⟩
  have yl : ys.length = xs.length := by rw [← ey, Srt.sort_len]
  rw [ey] at AT ⊢
  obtain ⟨X, eX⟩ : ∃ X, txt ys = X := ⟨_, rfl⟩
  have XL : X.length ≤ 1000 := by rw [← eX]; unfold txt; simp; omega
  have EX := hide eX
  rw [eX] at AT
  have HM := hide hm
  clear eX hm hx ey yl
  go_enter Tryz.func31, Tryz.ntmps31
  go_wp2_with fail
  refine AT.out.mono ?_
  rintro e w1 ⟨rfl, hb1⟩
  obtain ⟨nn, D, hown, hnn, hhas, hat⟩ := HM.out.below hb1
  have HB1 := hide hb1
  have HH := hide hhas
  have HA := hide hat
  have hkey : keyOf Tryz.prog 9 (.string ⟨X.toArray⟩) = some (.string X) := by
    have := Go.WideMaps.keyOf_string_mk (P := Tryz.prog) (k := 9) Tryz.underlying9 (s := ⟨X.toArray⟩) (by show X.toArray.size ≤ maxLen; unfold maxLen; simp; omega)
    simpa using this
  have HK := hide hkey
  have zt : 0 ≤ totE es X ∧ totE es X < 65536 := tot_bd es X
  have ZV := hide (fun W => Tryz.zeroValue3 W)
  clear hb1 hhas hat hkey
  go_wp2_with (at_lookup; refine wpList_lookup_own_int _ rfl _ _ 52 rfl 9 3 .i64 (Maps.string_keyed Tryz.underlying9) Tryz.underlying52 Tryz.underlying3 (Tryz.zeroValue3 _) b nn D rfl hown _ _ rfl HK.out ?_; intro c0 hat hwc; refine Hid.out ?_)
  have ec : c0 = totE es X := by
    have := HA.out X
    rw [hat] at this
    simpa using this
  subst ec
  clear hat hwc
  refine hide ?_
  go_wp2_with fail
  refine (Wrd.implDo_add (totE es X) c w1 zt.1 zt.2 hc.1 hc.2).mono ?_
  rintro e w2 ⟨rfl, hb2⟩
  obtain ⟨t, et⟩ : ∃ t, (totE es X + c) % 65536 = t := ⟨_, rfl⟩
  have tb : 0 ≤ t ∧ t < 65536 := by omega
  rw [et]
  have ET := hide et
  have hown2 : w2.ownsMap Tryz.prog 9 (plainElem Tryz.prog 3) b nn D := by
    have hl := hown.lt
    obtain ⟨e, clock, hb, F, hs, hD⟩ := hown
    exact ⟨e, clock, (hb2.block b hl).trans hb, F, hs, hD⟩
  have bl : b < w.heap.size := HM.out.lt
  have TW := hide ((Turn.of_below HB1.out).trans ((Turn.of_below hb2 : Turn b w1 w2)))
  have wfT : (Lit.int .i64 t).wf = true := by
    have h := wrap64_wf t
    rwa [IntWalk.wrap64_in t ⟨by omega, by omega⟩] at h
  clear et hb2
  go_wp2_with (at_mapUpdate; refine wpList_mapUpdate_own _ rfl _ _ _ 52 rfl 9 3 (Maps.string_keyed Tryz.underlying9) Tryz.underlying52 _ b nn D rfl hown2 (by unfold maxLen; omega) _ _ _ rfl rfl HK.out (.lit (.int .i64 t)) [] (plainElem_int Tryz.underlying3 wfT) ?_; intro w3 hown3 hgrow3)
  have hmap := hown2.isMap
  have kl : WideAt.IsKeyLit (.string X) := trivial
  have HAS := hide (Maps.has_put_same (D := D) hmap kl (.lit (.int .i64 t)))
  have ATS := hide (fun z => Maps.atKey_put_same (D := D) hmap kl (.lit (.int .i64 t)) z)
  go_end0
  refine ⟨rfl, ⟨nn + 1, D.put (.string X) (.lit (.int .i64 t)), hown3, by simp; omega, fun x => ?_, fun x => ?_⟩, TW.out.trans (Turn.of_grown hgrow3)⟩
  · rw [List.any_append]
    by_cases e : x = X
    · subst e
      rw [HAS.out]
      simp [EX.out]
    · rw [Maps.has_put_other (lit_ne e), HH.out]
      have : ¬ txt ys = x := fun h => e (h.symm.trans EX.out)
      simp [this]
  · rw [tot_snoc]
    by_cases e : x = X
    · subst e
      rw [ATS.out, if_pos EX.out]
      simp only []
      rw [ET.out]
    · rw [Maps.atKey_put_other (lit_ne e), HA.out, if_neg (fun h => e (h.symm.trans EX.out))]
end Go.Proofs.YtckhfpaicnjknaaGreat.Pol
