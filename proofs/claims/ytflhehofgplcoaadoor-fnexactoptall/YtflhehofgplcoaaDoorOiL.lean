/-
  Our own hand, the program's OptAll.
-/
import Derived.Test.YtflhehofgplcoaaDoorJnB
import Derived.Test.YtflhehofgplcoaaDoorOiG
import Derived.Test.YtflhehofgplcoaaDoorOiW
namespace Go.Proofs.YtflhehofgplcoaaDoor.Op
set_option linter.unusedVariables false
set_option linter.unusedSimpArgs false
open Go.ChangeShapes Go.WideShapes Go.ChangeAt Go.RowKit IntS Flat Irk
open Ir Dt
open Mch (Rec)
open Pol (Keep)
def waysAll : List (Nat × (Bk → Bk)) := [(41, cpyF), (42, cstF), (38, dedF), (30, setF), (38, dedF)]
theorem waysAll_way : ∀ f ∈ waysAll, Way f.1 f.2 := by
  intro f hf
  simp only [waysAll, List.mem_cons, List.not_mem_nil, or_false] at hf
  rcases hf with rfl | rfl | rfl | rfl | rfl
  · exact cpyWay
  · exact cstWay
  · exact dedWay
  · exact setWay
  · exact dedWay
set_option maxRecDepth 8000 in
set_option maxHeartbeats 16000000 in
theorem implAll (b : Bk) (cs : List Value) (w : World) (h : RBk w cs b) (hl : b.ops.length ≤ 1048576) (ht : Tbs w) :
    Calls Tryd.prog 22 #[.agg cs.toArray] w fun e w' => ∃ cs', e = .returned (.agg cs'.toArray) ∧ blkR.ow w' (New w w') cs' (toT (if okB b = true then runW waysAll b else nilB)) ∧ Below w.heap.size w w' := by
  obtain ⟨q, c, B, rfl, hr⟩ := h
  obtain ⟨pc, ln, ops, en, x, y, k⟩ := b
  simp only [bv] at *
  obtain ⟨r1, r2, b0⟩ := boxes w (.int .i64 pc) (.int .i64 ln) (.slice q ops.length c) (.int .i64 en) (.int .i64 x) (.int .i64 y) (.int .i64 k)
  have RZ := hide r2
  have BW := hide b0
  have HR := hide (hr.below b0)
  have TB := hide ht
  have mf : ∀ (fn : Fn) (first cap : Array Value) (w : World), (Instr.makeFunc fn first cap).run Tryd.prog w = .ok (.func fn first cap) w := fun _ _ _ _ => rfl
  obtain ⟨R, eR⟩ : ∃ R, (if okB (⟨pc, ln, ops, en, x, y, k⟩ : Bk) = true then runW waysAll (⟨pc, ln, ops, en, x, y, k⟩ : Bk) else nilB) = R := ⟨_, rfl⟩
  rw [eR]
  have ER := hide eR
  clear r1 r2 b0 hr ht eR
  go_enter Tryd.func22, Tryd.ntmps22
  go_wp2_with fail
  generalize ((w.alloc (.cells #[.int .i64 pc, .int .i64 ln, .slice q ops.length c, .int .i64 en, .int .i64 x, .int .i64 y, .int .i64 k] 28)).alloc (.cells #[.int .i64 0, .int .i64 0, .slice none 0 0, .int .i64 0, .int .i64 0, .int .i64 0, .int .i64 0] 28)) = W0 at RZ BW HR ⊢
  have LZ0 : Hid (w.heap.size + 1 < W0.heap.size) := RZ.out.lt
  refine (handOn (⟨pc, ln, ops, en, x, y, k⟩ : Bk) _ _ ⟨q, c, B, rfl, HR.out⟩ hl).mono ?_
  rintro e u1 ⟨Z, q1, c1, rfl, HD, gZ, gq, hb⟩
  have TB0 := hide (TB.out.below BW.out)
  have B1 := hide hb
  have ZZ : Hid (W0.heap.size ≤ Z ∧ ∀ g, q1 = some ⟨g, 0, none⟩ → W0.heap.size ≤ g) := ⟨gZ, gq⟩
  clear hb gZ gq HR TB
  have bF : Below u1.heap.size u1 (u1.alloc (.cells #[.func (.func 41) #[.pointer (some ⟨Z, 0, none⟩)] #[], .func (.func 42) #[.pointer (some ⟨Z, 0, none⟩)] #[], .func (.func 38) #[.pointer (some ⟨Z, 0, none⟩)] #[], .func (.func 30) #[.pointer (some ⟨Z, 0, none⟩)] #[], .func (.func 38) #[.pointer (some ⟨Z, 0, none⟩)] #[]] 1)) := (Below.refl _ _).alloc (Nat.le_refl _) _
  have RF := hide (Rec.new u1 [.func (.func 41) #[.pointer (some ⟨Z, 0, none⟩)] #[], .func (.func 42) #[.pointer (some ⟨Z, 0, none⟩)] #[], .func (.func 38) #[.pointer (some ⟨Z, 0, none⟩)] #[], .func (.func 30) #[.pointer (some ⟨Z, 0, none⟩)] #[], .func (.func 38) #[.pointer (some ⟨Z, 0, none⟩)] #[]] 1)
  have QF : Hid (Z < u1.heap.size ∧ ∀ g, q1 = some ⟨g, 0, none⟩ → g < u1.heap.size) := ⟨HD.box.lt, fun g e => HD.ops.lt e⟩
  have HD2 := hide (HD.below bF)
  have SB : Hid (W0.heap.size ≤ u1.heap.size) := B1.out.size
  replace B1 := hide (B1.out.trans (bF.mono B1.out.size))
  clear bF HD
  go_wp2_with fail
  generalize u1.alloc (.cells #[.func (.func 41) #[.pointer (some ⟨Z, 0, none⟩)] #[], .func (.func 42) #[.pointer (some ⟨Z, 0, none⟩)] #[], .func (.func 38) #[.pointer (some ⟨Z, 0, none⟩)] #[], .func (.func 30) #[.pointer (some ⟨Z, 0, none⟩)] #[], .func (.func 38) #[.pointer (some ⟨Z, 0, none⟩)] #[]] 1) = u2 at RF HD2 B1 ⊢
  have MD := made waysAll waysAll_way (⟨pc, ln, ops, en, x, y, k⟩ : Bk) Z q1 ops.length c1 u1.heap.size W0 u2 HD2.out RF.out (by decide) ZZ.out.1 (fun g e => ⟨ZZ.out.2 g e, by have := QF.out.2 g e; omega⟩) (by have := QF.out.1; omega) SB.out B1.out TB0.out
  rw [ER.out] at MD
  refine MD.mono ?_
  rintro e u3 ⟨q2, n2, c2, rfl, OB, GQ, B3⟩
  replace RZ := hide (RZ.out.below B3)
  have LW : Hid (w.heap.size + 1 < W0.heap.size) := LZ0.out
  replace BW := hide (BW.out.trans (B3.mono BW.out.size))
  have OB := hide OB
  have GQ := hide GQ
  clear MD B3 B1 RF HD2 QF ZZ SB TB0
  go_wp2_with (refine lay7 rfl rfl _ _ rfl (w.heap.size + 1) _ _ _ _ _ _ _ RZ.out rfl _ _ _ _ _ _ _ _ _ rfl ?_; intro p1 RB TX; refine Hid.out ?_)
  replace BW := hide (BW.out.trans (TX.out.below (by omega) BW.out.size))
  replace OB := hide (OB.out.turn TX.out (fun g e => by have := GQ.out g e; have := LW.out; omega))
  clear TX RZ
  refine hide ?_
  have y0 := RB.out.cell 0 _ rfl
  have y1 := RB.out.cell 1 _ rfl
  have y2 := RB.out.cell 2 _ rfl
  have y3 := RB.out.cell 3 _ rfl
  have y4 := RB.out.cell 4 _ rfl
  have y5 := RB.out.cell 5 _ rfl
  have y6 := RB.out.cell 6 _ rfl
  go_wp2
  exact bodyPost_ret (v := .agg #[.int .i64 R.pc, .int .i64 R.ln, .slice q2 n2 c2, .int .i64 R.en, .int .i64 R.x, .int .i64 R.y, .int .i64 R.k]) (by simp [results, Tryd.results22, go_sem, y0, y1, y2, y3, y4, y5, y6]) rfl ⟨_, rfl, ob_told OB.out (fun g e => ⟨by have := GQ.out g e; have := LW.out; omega, OB.out.lt e⟩), BW.out⟩

theorem runAll (b : Bk) : (if okB b = true then runW waysAll b else nilB) = allB b := by
  by_cases h : okB b = true
  · rw [if_pos h]
    exact (all_eq h).symm
  · rw [if_neg h]
    exact (noAll (by simpa using h)).symm
theorem implAllB (b : Bk) (cs : List Value) (w : World) (h : RBk w cs b) (hl : b.ops.length ≤ 1048576) (ht : Tbs w) :
    Calls Tryd.prog 22 #[.agg cs.toArray] w fun e w' => ∃ cs', e = .returned (.agg cs'.toArray) ∧ blkR.ow w' (New w w') cs' (toT (allB b)) ∧ Below w.heap.size w w' := by
  rw [← runAll]
  exact implAll b cs w h hl ht
end Go.Proofs.YtflhehofgplcoaaDoor.Op
