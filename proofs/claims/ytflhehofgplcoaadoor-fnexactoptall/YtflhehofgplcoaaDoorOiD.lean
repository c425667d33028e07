/-
  Our own hand, the program's made: ways, one after the other.
-/
import Derived.Test.YtflhehofgplcoaaDoorOiC
namespace Go.Proofs.YtflhehofgplcoaaDoor.Op
set_option linter.unusedVariables false
set_option linter.unusedSimpArgs false
open Go.ChangeShapes Go.WideShapes Go.ChangeAt Go.RowKit IntS Flat Irk
open Ir Dt
open Mch (Rec)
open Pol (Keep)
/-- The program's tables of shapes. -/
def Tbs (w : World) : Prop := Tb w 0 opL ∧ Tb w 1 enL
theorem Tbs.below {w w' : World} (h : Tbs w) (hb : Below w.heap.size w w') : Tbs w' := ⟨h.1.below hb, h.2.below hb⟩
/-- The tables stand where neither the hand nor its operations lie. -/
structure Based (w : World) (Z : Nat) (q : Option Addr) : Prop where
  ex : ∃ base : World, Tbs base ∧ Below base.heap.size base w ∧ base.heap.size ≤ Z ∧ ∀ g, q = some ⟨g, 0, none⟩ → base.heap.size ≤ g
theorem Based.tbs {w w' : World} {Z : Nat} {q : Option Addr} (h : Based w Z q) (hk : Keep (Its Z q) w w') : Tbs w' := by
  obtain ⟨base, h1, h2, h3, h4⟩ := h
  exact h1.below (h2.trans (hk.below h2.size (fun k hk hi => by rcases hi with rfl | hi; omega; have := h4 k hi; omega)))
/-- A way of the hand: the function, and what it makes of code that is ok. -/
structure Way (f : Nat) (F : Bk → Bk) : Prop where
  en : ∀ (args : Array Value) (w : World), (callFunc f args).run Tryd.prog w = .ok (.enter f args) w
  ok : ∀ b, okB b = true → okB (F b) = true
  go : ∀ (b : Bk) (Z : Nat) (q : Option Addr) (n c : Nat) (w : World), Based w Z q → Hd w Z q n c b → okB b = true → Calls Tryd.prog f #[.pointer (some ⟨Z, 0, none⟩)] w fun e w' => Wy w Z q (F b) e w'
def runW (fs : List (Nat × (Bk → Bk))) (b : Bk) : Bk := fs.foldl (fun b f => f.2 b) b
theorem runW_next {fs : List (Nat × (Bk → Bk))} {b : Bk} {i : Nat} {f : Nat × (Bk → Bk)} (h : fs[i]? = some f) : runW (fs.take (i + 1)) b = f.2 (runW (fs.take i) b) := by
  unfold runW
  rw [List.take_add_one, h]
  simp
theorem runW_ok {fs : List (Nat × (Bk → Bk))} (hw : ∀ f ∈ fs, Way f.1 f.2) {b : Bk} (hb : okB b = true) : ∀ i, okB (runW (fs.take i) b) = true
  | 0 => by simpa [runW] using hb
  | i + 1 => by
    cases h : fs[i]? with
    | none => rw [List.take_of_length_le (by have := List.getElem?_eq_none_iff.1 h; omega), ← List.take_of_length_le (i := i) (List.getElem?_eq_none_iff.1 h)]; exact runW_ok hw hb i
    | some f => rw [runW_next h]; exact (hw f (List.mem_of_getElem? h)).ok _ (runW_ok hw hb i)
def handF (Z : Nat) (f : Nat × (Bk → Bk)) : Value := .func (.func f.1) #[.pointer (some ⟨Z, 0, none⟩)] #[]
/-- Below a world nothing turned, if a way turned what is its own. -/
theorem wy_below {B w w' : World} {Z : Nat} {q : Option Addr} (hb : Below B.heap.size B w) (hk : Keep (Its Z q) w w') (hZ : B.heap.size ≤ Z) (hq : ∀ g, q = some ⟨g, 0, none⟩ → B.heap.size ≤ g) : Below B.heap.size B w' :=
  hb.trans (hk.below hb.size (fun k hk hi => by rcases hi with rfl | hi; omega; have := hq k hi; omega))
set_option maxRecDepth 8000 in
set_option maxHeartbeats 16000000 in
theorem made (fs : List (Nat × (Bk → Bk))) (hw : ∀ f ∈ fs, Way f.1 f.2) (b : Bk) (Z : Nat) (q : Option Addr) (n c Wb : Nat) (base w : World) (h : Hd w Z q n c b) (hf : Rec Wb (fs.map (handF Z)) w) (hl : fs.length ≤ 10) (hZ : base.heap.size ≤ Z) (hq : ∀ g, q = some ⟨g, 0, none⟩ → base.heap.size ≤ g ∧ g ≠ Wb) (hWZ : Wb ≠ Z) (hWb : base.heap.size ≤ Wb) (hb : Below base.heap.size base w) (ht : Tbs base) :
    Calls Tryd.prog 29 #[.pointer (some ⟨Z, 0, none⟩), .slice (some ⟨Wb, 0, none⟩) fs.length fs.length] w fun e w' => ∃ q' n' c', e = .returned (.agg #[.int .i64 (if okB b = true then runW fs b else nilB).pc, .int .i64 (if okB b = true then runW fs b else nilB).ln, .slice q' n' c', .int .i64 (if okB b = true then runW fs b else nilB).en, .int .i64 (if okB b = true then runW fs b else nilB).x, .int .i64 (if okB b = true then runW fs b else nilB).y, .int .i64 (if okB b = true then runW fs b else nilB).k]) ∧ Ob w' q' n' c' (if okB b = true then runW fs b else nilB).ops ∧ (∀ g, q' = some ⟨g, 0, none⟩ → base.heap.size ≤ g) ∧ Below base.heap.size base w' := by
  obtain ⟨R, eR⟩ : ∃ R, (if okB b = true then runW fs b else nilB) = R := ⟨_, rfl⟩
  rw [eR]
  have ER := hide eR
  clear eR
  have b0 : Below w.heap.size w (w.alloc (.cells #[.int .i64 0, .int .i64 0, .slice none 0 0, .int .i64 0, .int .i64 0, .int .i64 0, .int .i64 0] 28)) := (Below.refl _ _).alloc (Nat.le_refl _) _
  have RZ := hide (Rec.new w [.int .i64 0, .int .i64 0, .slice none 0 0, .int .i64 0, .int .i64 0, .int .i64 0, .int .i64 0] 28)
  have FR : Hid (Z < w.heap.size ∧ Wb < w.heap.size) := ⟨h.box.lt, hf.lt⟩
  have GR : Hid (∀ g, q = some ⟨g, 0, none⟩ → base.heap.size ≤ g ∧ g ≠ Wb ∧ g ≠ w.heap.size) := fun g e => ⟨(hq g e).1, (hq g e).2, by have := h.ops.lt e; omega⟩
  have HD := hide (h.below b0)
  have HF := hide (hf.below b0)
  have BW := hide (hb.trans (b0.mono hb.size))
  have TB := hide ht
  have WS := hide hw
  obtain ⟨rz, erz⟩ : ∃ z, w.heap.size = z := ⟨_, rfl⟩
  have SZ : Hid (base.heap.size ≤ rz) := by rw [← erz]; exact hb.size
  clear b0 h hf hq hb ht hw
  have BX := hide HD.out.box
  have z0 := BX.out.cell 0 _ rfl
  have z1 := BX.out.cell 1 _ rfl
  have z2 := BX.out.cell 2 _ rfl
  have z3 := BX.out.cell 3 _ rfl
  have z4 := BX.out.cell 4 _ rfl
  have z5 := BX.out.cell 5 _ rfl
  have z6 := BX.out.cell 6 _ rfl
  go_enter Tryd.func29, Tryd.ntmps29
  go_wp2_with fail
  clear z0 z1 z2 z3 z4 z5 z6 BX
  generalize w.alloc (.cells #[.int .i64 0, .int .i64 0, .slice none 0 0, .int .i64 0, .int .i64 0, .int .i64 0, .int .i64 0] 28) = W0 at RZ HD HF BW ⊢
  rw [erz] at RZ FR GR
  obtain ⟨B, OR⟩ := HD.out.ops.row
  have TT := TB.out.below BW.out
  refine (implIrOk b _ _ ⟨q, c, B, by unfold bv; rw [HD.out.ops.len], by rw [HD.out.ops.len]; exact OR⟩ TT.1 TT.2).mono ?_
  rintro e u1 ⟨rfl, hbb⟩
  replace RZ := hide (RZ.out.below hbb)
  replace HD := hide (HD.out.below hbb)
  replace HF := hide (HF.out.below hbb)
  replace BW := hide (BW.out.trans (hbb.mono BW.out.size))
  clear hbb TT OR
  obtain ⟨bo, eo⟩ : ∃ z, okB b = z := ⟨_, rfl⟩
  rw [eo] at ER ⊢
  have EO := hide eo
  clear eo
  cases bo with
  | false =>
    simp only [Bool.false_eq_true, if_false] at ER
    obtain rfl := ER.out
    go_wp2_with (refine lay7 rfl rfl _ _ rfl rz _ _ _ _ _ _ _ RZ.out rfl _ _ _ _ _ _ _ _ _ rfl ?_; intro p1 RB TX; refine Hid.out ?_)
    replace BW := hide (BW.out.trans (TX.out.below SZ.out BW.out.size))
    clear TX RZ HF HD
    refine hide ?_
    have y0 := RB.out.cell 0 _ rfl
    have y1 := RB.out.cell 1 _ rfl
    have y2 := RB.out.cell 2 _ rfl
    have y3 := RB.out.cell 3 _ rfl
    have y4 := RB.out.cell 4 _ rfl
    have y5 := RB.out.cell 5 _ rfl
    have y6 := RB.out.cell 6 _ rfl
    go_wp2
    exact bodyPost_ret (v := .agg #[.int .i64 0, .int .i64 0, .slice none 0 0, .int .i64 0, .int .i64 0, .int .i64 0, .int .i64 0]) (by simp [results, Tryd.results29, go_sem, y0, y1, y2, y3, y4, y5, y6]) rfl ⟨none, 0, 0, rfl, Or.inl ⟨rfl, rfl, rfl, rfl⟩, (fun g e => by cases e), BW.out⟩
  | true =>
  simp only [if_true] at ER
  go_wp2
  go_loopw [16] (fun i wr => ∃ (j : Nat) (q' : Option Addr) (n' c' : Nat), j ≤ fs.length ∧ i = .int .i64 j ∧ Hid (Hd wr Z q' n' c' (runW (fs.take j) b)) ∧ Hid (∀ g, q' = some ⟨g, 0, none⟩ → base.heap.size ≤ g ∧ g ≠ Wb ∧ g ≠ rz) ∧ Hid (Rec rz [.int .i64 0, .int .i64 0, .slice none 0 0, .int .i64 0, .int .i64 0, .int .i64 0, .int .i64 0] wr) ∧ Hid (Rec Wb (fs.map (handF Z)) wr) ∧ Hid (Below base.heap.size base wr)) (fun i _ => fs.length - (intOf i).toNat)
  case atStart => exact ⟨0, q, n, c, by omega, rfl, HD, GR, RZ, HF, BW⟩
  case round =>
    clear HD GR RZ HF BW
    obtain ⟨j, q', n', c', hj, rfl, HD, GR, RZ, HF, BW⟩ := hrel
    by_cases hlt : j < fs.length
    · obtain ⟨f, et⟩ : ∃ f, fs[j]? = some f := ⟨_, List.getElem?_eq_getElem hlt⟩
      have cf := HF.out.cell j (handF Z f) (by rw [List.getElem?_map, et]; rfl)
      unfold handF at cf
      have WF := hide (WS.out f (List.mem_of_getElem? et))
      have EN := WF.out.en
      have lk : ((j : Nat) : Int) < (fs.length : Nat) := by omega
      go_wp2_with fail
      refine (WF.out.go _ Z q' n' c' _ ⟨base, TB.out, BW.out, hZ, fun g e => (GR.out g e).1⟩ HD.out (runW_ok WS.out EO.out j)).mono ?_
      rintro e u2 ⟨rfl, ⟨q2, n2, c2, H2, hq2⟩, K2⟩
      have LT : Hid (Z < wr.heap.size ∧ Wb < wr.heap.size ∧ rz < wr.heap.size) := ⟨HD.out.box.lt, HF.out.lt, RZ.out.lt⟩
      have SW : Hid (base.heap.size ≤ wr.heap.size) := BW.out.size
      have G2 : Hid (∀ g, q2 = some ⟨g, 0, none⟩ → base.heap.size ≤ g ∧ g ≠ Wb ∧ g ≠ rz) := fun g e => by
        rcases hq2 with rfl | hn
        · exact GR.out g e
        · have h1 := hn g e
          have h2 := LT.out
          have h3 := SW.out
          exact ⟨by omega, by omega, by omega⟩
      replace BW := hide (wy_below BW.out K2 hZ (fun g e => (GR.out g e).1))
      replace RZ := hide (rec_keep RZ.out K2 (fun h => by rcases h with h | h; have := FR.out.1; omega; exact (GR.out rz h).2.2 rfl))
      replace HF := hide (rec_keep HF.out K2 (fun h => by rcases h with h | h; exact hWZ h; exact (GR.out Wb h).2.1 rfl))
      have H3 : Hid (Hd u2 Z q2 n2 c2 (runW (fs.take (j + 1)) b)) := by rw [runW_next et]; exact H2
      clear K2 H2 hq2 GR HD cf et EN WF
      go_wp2
      exact ⟨⟨j + 1, q2, n2, c2, by omega, by go_num, H3, G2, RZ, HF, BW⟩, by simp [intOf]; omega⟩
    · have lk : ¬ ((j : Nat) : Int) < (fs.length : Nat) := by omega
      obtain rfl : j = fs.length := by omega
      rw [List.take_length, ER.out] at HD
      have BX := hide HD.out.box
      have z0 := BX.out.cell 0 _ rfl
      have z1 := BX.out.cell 1 _ rfl
      have z2 := BX.out.cell 2 _ rfl
      have z3 := BX.out.cell 3 _ rfl
      have z4 := BX.out.cell 4 _ rfl
      have z5 := BX.out.cell 5 _ rfl
      have z6 := BX.out.cell 6 _ rfl
      go_wp2_with (refine lay7 rfl rfl _ _ rfl rz _ _ _ _ _ _ _ RZ.out rfl _ _ _ _ _ _ _ _ _ rfl ?_; intro p1 RB TX; refine Hid.out ?_)
      replace BW := hide (BW.out.trans (TX.out.below SZ.out BW.out.size))
      have OB := hide (HD.out.ops.turn TX.out (fun g e => (GR.out g e).2.2))
      clear TX RZ HF HD BX z0 z1 z2 z3 z4 z5 z6
      refine hide ?_
      have y0 := RB.out.cell 0 _ rfl
      have y1 := RB.out.cell 1 _ rfl
      have y2 := RB.out.cell 2 _ rfl
      have y3 := RB.out.cell 3 _ rfl
      have y4 := RB.out.cell 4 _ rfl
      have y5 := RB.out.cell 5 _ rfl
      have y6 := RB.out.cell 6 _ rfl
      go_wp2
      exact bodyPost_ret (v := .agg #[.int .i64 R.pc, .int .i64 R.ln, .slice q' n' c', .int .i64 R.en, .int .i64 R.x, .int .i64 R.y, .int .i64 R.k]) (by simp [results, Tryd.results29, go_sem, y0, y1, y2, y3, y4, y5, y6]) rfl ⟨q', n', c', rfl, OB.out, fun g e => (GR.out g e).1, BW.out⟩

end Go.Proofs.YtflhehofgplcoaaDoor.Op
