/-
  Both sums together: the program's PolAdd.
  The program's ofDifference.
  What is plain of an Op: the program's plainOf.
  What the program sees as plain is what the specification does.
  Products as parts that are put together.
  Library functions laid at this dump by the shelf's own tool (lay-plain): growI.
  slices.Concat of two slices of ints.
  A drawn region at which two operations may come up; a region cut off from what follows it.
-/
import Derived.Test.YtggilenddbobnaaGreatAl
import Derived.Test.YtggilenddbobnaaGreatJ20
import Derived.Test.YtggilenddbobnaaGreatJ21
import Derived.Test.YtggilenddbobnaaGreatJ08
import Derived.Test.YtggilenddbobnaaGreatJ11
import Derived.Test.YtggilenddbobnaaGreatJ14
import Derived.Test.YtggilenddbobnaaGreatJ09
import Derived.Shelf.Spec.SlicesGrow
import Derived.Ground.Names8Prog
import Derived.Test.YtggilenddbobnaaGreatProg
namespace Go.Proofs.YtggilenddbobnaaGreat.Pol
set_option linter.unusedVariables false
open Go.ChangeShapes Go.WideShapes Go.ChangeAt Go.RowKit Go.Shelf IntS Rng
/-- The parts that were put when so many sums are through. -/
def esA (ps qs : List Mono) (k : Nat) : List Mono := if k = 0 then [] else if k = 1 then ps else ps ++ qs
/-- One of two sums whose slices lie side by side. -/
theorem pick_sum {w wr : World} {ps qs : List Mono} {B B' T k n n' : Nat} {a a' : Option Addr} {cap cap' : Nat} (hk : k < 2) (r : Rec T [.slice a ps.length cap, .slice a' qs.length cap'] wr) (h : PRow w B (.slice a ps.length cap) ps) (h' : PRow w B' (.slice a' qs.length cap') qs) (g : Good ps) (g' : Good qs) :
 ∃ (xs : List Mono) (q : Option Addr) (c X : Nat), wr.cell? ⟨T, k, none⟩ = some (.slice q xs.length c) ∧ PRow w X (.slice q xs.length c) xs ∧ Good xs ∧ esA ps qs (k + 1) = esA ps qs k ++ xs ∧ (esA ps qs k).length ≤ 12 := by
 by_cases e : k = 0
 · subst e
   exact ⟨ps, a, cap, B, r.cell 0 _ rfl, h, g, by simp [esA], by simp [esA]⟩
 · obtain rfl : k = 1 := by omega
   exact ⟨qs, a', cap', B', r.cell 1 _ rfl, h', g', by simp [esA], by simp [esA]; exact g.many⟩
set_option maxRecDepth 8000 in
set_option maxHeartbeats 4000000 in
theorem implAdd (ps qs : List Mono) (B B' : Nat) (v v' : Value) (w : World) (h : PRow w B v ps) (h' : PRow w B' v' qs) :
 Calls Tryz.prog 56 #[.agg #[v], .agg #[v']] w fun e w' => ∃ a l c, e = .returned (.tuple #[.agg #[.slice a l c], .bool (addB ps qs)]) ∧ WPoly w' w.heap.size w'.heap.size (.slice a l c) (addP ps qs) ∧ Below w.heap.size w w' := by
 have bV : Below w.heap.size w (((w.alloc (.cells #[v] 35)).alloc (.cells #[v'] 35)).alloc (.cells #[.slice none 0 0] 35)) := (((Below.refl _ _).alloc (Nat.le_refl _) _).alloc (by simp) _).alloc (by simp; omega) _
 have R0 := Rec.new ((w.alloc (.cells #[v] 35)).alloc (.cells #[v'] 35)) [.slice none 0 0] 35
 rw [show ((w.alloc (.cells #[v] 35)).alloc (.cells #[v'] 35)).heap.size = w.heap.size + 2 by simp] at R0
 have Q0 := (Rec.new (w.alloc (.cells #[v] 35)) [v'] 35).alloc (.cells #[.slice none 0 0] 35)
 rw [show (w.alloc (.cells #[v] 35)).heap.size = w.heap.size + 1 by simp] at Q0
 have RR := hide R0
 have QQ := hide Q0
 have AA := hide (((Rec.new w [v] 35).alloc (.cells #[v'] 35)).alloc (.cells #[.slice none 0 0] 35))
 have HW := hide h
 have HW' := hide h'
 have H := hide (h.below bV)
 have BW := hide bV
 obtain ⟨a, cap, off, rfl, h2, h3, _, h4⟩ := h
 obtain ⟨a', cap', off', rfl, h2', h3', _, h4'⟩ := h'
 unfold maxLen at h3 h3'
 clear bV R0 Q0 h4 h4'
 obtain ⟨R, eR⟩ : ∃ R, addP ps qs = R := ⟨_, rfl⟩
 obtain ⟨T, eT⟩ : ∃ T, addB ps qs = T := ⟨_, rfl⟩
 rw [eR, eT]
 have ER := hide eR
 have ET := hide eT
 clear eR eT
 go_enter Tryz.func56, Tryz.ntmps56
 go_wp2_with fail
 generalize (((w.alloc (.cells #[.slice a ps.length cap] 35)).alloc (.cells #[.slice a' qs.length cap'] 35)).alloc (.cells #[.slice none 0 0] 35)) = V0 at RR QQ AA H BW ⊢
 have a0 := AA.out.cell 0 _ rfl
 go_wp2_with fail
 refine (implOk ps B _ _ H.out).mono ?_
 rintro e V ⟨rfl, hb⟩
 replace RR := hide (RR.out.below hb)
 replace QQ := hide (QQ.out.below hb)
 replace AA := hide (AA.out.below hb)
 replace BW := hide (BW.out.trans (hb.mono BW.out.size))
 clear hb a0 H
 cases ok : okP ps with
 | false =>
  have hf := add_no (ps := ps) (qs := qs) (fun h => by rw [ok] at h; exact absurd h.1 (by decide))
  have HD := hide (ER.out.symm.trans hf.2)
  obtain rfl := ET.out.symm.trans hf.1
  have r0 := RR.out.cell 0 _ rfl
  have s0 := RR.out.soft 0
  clear ok hf
  have B0 := hide (BW.out.setCell (p := ⟨w.heap.size + 2, 0, none⟩) (by show w.heap.size ≤ w.heap.size + 2; omega) (.slice none 0 0))
  have Z0 := hide (RR.out.set 0 (.slice none 0 0) (by simp) rfl)
  go_wp2
  generalize V.setCell ⟨w.heap.size + 2, 0, none⟩ (.slice none 0 0) = U at B0 Z0 ⊢
  have z0 := Z0.out.cell 0 _ rfl
  exact bodyPost_ret (v := .tuple #[.agg #[.slice none 0 0], .bool false]) (by simp [results, Tryz.results56, go_sem, z0]) rfl ⟨none, 0, 0, rfl, by rw [HD.out]; exact WPoly.nil _ _ _, B0.out⟩
 | true =>
  have OK := hide ok
  have H' := hide (HW'.out.below BW.out)
  clear ok
  have a0 := QQ.out.cell 0 _ rfl
  go_wp2_with fail
  refine (implOk qs B' _ _ H'.out).mono ?_
  rintro e u ⟨rfl, hb⟩
  replace RR := hide (RR.out.below hb)
  replace QQ := hide (QQ.out.below hb)
  replace AA := hide (AA.out.below hb)
  replace BW := hide (BW.out.trans (hb.mono BW.out.size))
  clear hb a0 H'
  cases ok' : okP qs with
  | false =>
   have hf := add_no (ps := ps) (qs := qs) (fun h => by rw [ok'] at h; exact absurd h.2 (by decide))
   have HD := hide (ER.out.symm.trans hf.2)
   obtain rfl := ET.out.symm.trans hf.1
   have r0 := RR.out.cell 0 _ rfl
   have s0 := RR.out.soft 0
   clear ok' hf
   have B0 := hide (BW.out.setCell (p := ⟨w.heap.size + 2, 0, none⟩) (by show w.heap.size ≤ w.heap.size + 2; omega) (.slice none 0 0))
   have Z0 := hide (RR.out.set 0 (.slice none 0 0) (by simp) rfl)
   go_wp2
   generalize u.setCell ⟨w.heap.size + 2, 0, none⟩ (.slice none 0 0) = U at B0 Z0 ⊢
   have z0 := Z0.out.cell 0 _ rfl
   exact bodyPost_ret (v := .tuple #[.agg #[.slice none 0 0], .bool false]) (by simp [results, Tryz.results56, go_sem, z0]) rfl ⟨none, 0, 0, rfl, by rw [HD.out]; exact WPoly.nil _ _ _, B0.out⟩
  | true =>
   have hf := add_yes OK.out ok'
   have HD := hide (hf.2.symm.trans ER.out)
   have HT := hide (hf.1.symm.trans ET.out)
   have OK' := hide ok'
   clear ok' hf ER ET
   have GP := hide (ok_good OK.out)
   have GQ := hide (ok_good OK'.out)
   have MP := hide (map_new u)
   have bm := (Below.refl _ u).alloc (Nat.le_refl _) (.map #[] 0)
   have a0 := (AA.out.below bm).cell 0 _ rfl
   have q0 := (QQ.out.below bm).cell 0 _ rfl
   have hmm := @run_makeMap Tryz.prog
   go_wp2_with fail
   have bt := (Below.refl _ (u.alloc (.map #[] 0))).alloc (Nat.le_refl _) (.cells #[.slice a ps.length cap, .slice a' qs.length cap'] 35)
   have TR := hide (Rec.new (u.alloc (.map #[] 0)) [.slice a ps.length cap, .slice a' qs.length cap'] 35)
   have su : (u.alloc (.map #[] 0)).heap.size = u.heap.size + 1 := by simp
   rw [su] at TR bt
   have MP2 := hide (MP.out.below (by rw [su]; exact bt))
   have BU : Hid (Below u.heap.size u ((u.alloc (.map #[] 0)).alloc (.cells #[.slice a ps.length cap, .slice a' qs.length cap'] 35))) := bm.trans (bt.mono (by omega))
   have RR2 := hide (RR.out.below BU.out)
   have US : Hid (u.heap.size < ((u.alloc (.map #[] 0)).alloc (.cells #[.slice a ps.length cap, .slice a' qs.length cap'] 35)).heap.size) := show _ < _ by simp; omega
   clear bm bt a0 q0 hmm su MP
   try simp only [World.size_alloc]
   generalize ((u.alloc (.map #[] 0)).alloc (.cells #[.slice a ps.length cap, .slice a' qs.length cap'] 35)) = U at TR MP2 BU RR2 US ⊢
   have lu : Hid (w.heap.size + 2 < u.heap.size) := RR.out.lt
   have BWU := hide (BW.out.trans (BU.out.mono BW.out.size))
   go_loopw [25] (fun i wr => ∃ (k : Nat), k ≤ 2 ∧ i = .int .i64 k ∧ Hid (MapOf wr u.heap.size (esA ps qs k)) ∧ Hid (Turn u.heap.size U wr)) (fun i _ => 2 - (intOf i).toNat)
   case atStart => exact ⟨0, by omega, rfl, MP2, Turn.refl _ _⟩
   case round =>
    obtain ⟨k, hk, rfl, HM, HT2⟩ := hrel
    clear MP2
    have bel : Hid (∀ {wi : World}, Turn u.heap.size U wi → Below w.heap.size w wi) := @fun wi ht => BWU.out.trans (ht.below (by have := BW.out.size; omega) (by have := BWU.out.size; omega))
    by_cases hlt : k < 2
    case neg =>
     obtain rfl : k = 2 := by omega
     have HM2 := HM.out
     rw [show esA ps qs 2 = ps ++ qs by simp [esA]] at HM2
     have C := hide (told (ps ++ qs) (addL ps qs) u.heap.size wr HM2 (told_add GP.out.told GQ.out.fine) (by rw [List.length_append]; have := GP.out.many; have := GQ.out.many; omega) (fun x hx => by
      rcases List.mem_append.1 hx with hx | hx
      · have := GP.out.four x hx; omega
      · have := GQ.out.four x hx; omega))
     rw [HD.out, HT.out] at C
     clear HM HM2
     go_wp2_with fail
     refine C.out.mono ?_
     rintro e u2 ⟨qa, ql, qc, rfl, W2, hb⟩
     have B1 := hide (bel.out HT2.out)
     have B3 := hide (B1.out.trans (hb.mono B1.out.size))
     have R3 := hide ((RR2.out.turn HT2.out (by have := lu.out; omega)).below hb)
     have lw : Hid (u.heap.size ≤ wr.heap.size) := show _ ≤ _ by have := US.out; have := HT2.out.size; omega
     have r0 := R3.out.cell 0 _ rfl
     have s0 := R3.out.soft 0
     have B4 := hide (B3.out.setCell (p := ⟨w.heap.size + 2, 0, none⟩) (by show w.heap.size ≤ w.heap.size + 2; omega) (.slice qa ql qc))
     have Z0 := hide (R3.out.set 0 (.slice qa ql qc) (by simp) rfl)
     have W4 := W2.keep (w' := u2.setCell ⟨w.heap.size + 2, 0, none⟩ (.slice qa ql qc)) (Keep.of_turn ((Turn.refl (w.heap.size + 2) _).setCell (p := ⟨w.heap.size + 2, 0, none⟩) rfl _)) (fun b' h1 _ (h2 : b' = _) => by have := lu.out; have := lw.out; omega)
     have W5 := hide (W4.wide (lo' := w.heap.size) (hi' := (u2.setCell ⟨w.heap.size + 2, 0, none⟩ (.slice qa ql qc)).heap.size) (by have := lu.out; have := lw.out; omega) (by simp [World.setCell]))
     clear C W2 hb B1 W4 B3 lw
     go_wp2
     generalize u2.setCell ⟨w.heap.size + 2, 0, none⟩ (.slice qa ql qc) = U2 at B4 Z0 W5 ⊢
     have z0 := Z0.out.cell 0 _ rfl
     exact bodyPost_ret (v := .tuple #[.agg #[.slice qa ql qc], .bool T]) (by simp [results, Tryz.results56, go_sem, z0]) rfl ⟨qa, ql, qc, rfl, W5.out, B4.out⟩
    obtain ⟨xs, q, c, X, px, RX, GX, EE, EL⟩ := pick_sum (n := 0) (n' := 0) hlt (TR.out.turn HT2.out (by omega)) HW.out HW'.out GP.out GQ.out
    have GXX := hide GX
    have EEE := hide EE
    have ELL := hide EL
    obtain ⟨a1, cap1, off1, e1, k2, k3, _, k4⟩ := RX
    injection e1 with f1 f2 f3
    subst f1 f3
    have K4 := hide k4
    unfold maxLen at k3
    obtain ⟨n, en⟩ : ∃ n, xs.length = n := ⟨_, rfl⟩
    have EN := hide en
    rw [en] at px k2
    have lk : ((k : Nat) : Int) < (2 : Int) := by omega
    have n12 : Hid (n ≤ 12) := show _ ≤ _ by rw [← EN.out]; exact GXX.out.many
    clear en k4 f2 GX EE EL
    go_wp2
    have tA : Hid (Turn u.heap.size U (wr.alloc (.cells #[.slice q n c] 35))) := HT2.out.trans (Turn.of_below ((Below.refl _ wr).alloc (Nat.le_refl _) _))
    have mA := hide (HM.out.below ((Below.refl _ wr).alloc (Nat.le_refl _) (.cells #[.slice q n c] 35)))
    generalize wr.alloc (.cells #[.slice q n c] 35) = wv at tA mA ⊢
    clear HM HT2 px
    go_loopw [32] (fun i wi => ∃ (j : Nat), j ≤ n ∧ i = .int .i64 j ∧ Hid (MapOf wi u.heap.size (esA ps qs k ++ xs.take j)) ∧ Hid (Turn u.heap.size U wi)) (fun i _ => n - (intOf i).toNat)
    case atStart => exact ⟨0, by omega, rfl, by rw [List.take_zero, List.append_nil]; exact mA, tA⟩
    case round =>
     obtain ⟨j, hj, rfl, HM, HT2⟩ := hrel
     clear mA tA
     by_cases hjn : j < n
     case neg =>
      obtain rfl : j = n := by omega
      have HM2 := HM.out
      rw [← EN.out, List.take_length, ← EEE.out] at HM2
      have HM3 := hide HM2
      clear HM HM2
      go_wp2
      exact ⟨⟨k + 1, by omega, by go_num, HM3, HT2⟩, by simp [intOf]; omega⟩
     obtain ⟨x, ex⟩ : ∃ x, xs[j]? = some x := ⟨_, List.getElem?_eq_getElem (by rw [EN.out]; exact hjn)⟩
     have hc4 := K4.out.resolve_left (fun e => by rw [e] at ex; simp at ex)
     obtain ⟨rfl, hc⟩ := hc4
     obtain ⟨co, at_⟩ := x
     obtain ⟨g1, s, bx, g2, g3⟩ := hc j _ ex
     have BR := bel.out HT2.out
     have cx := cell_below BR g1
     have sx := cell_below BR g2
     have RXX := hide (g3.below BR)
     have xm := List.mem_of_getElem? ex
     have MF : Hid ((0 < co ∧ co < 65536) ∧ at_.length ≤ 4 ∧ (∀ a ∈ at_, 0 ≤ a ∧ a < 200) ∧ Srt.sortI at_ = at_) := ⟨(GXX.out.fine _ xm).2, GXX.out.four _ xm, GXX.out.at_ _ xm, sort_self (GXX.out.ris _ xm)⟩
     have ES : Hid ((esA ps qs k ++ xs.take j) ++ [(co, at_)] = esA ps qs k ++ xs.take (j + 1)) := show _ = _ by
      rw [List.take_add_one, ex, List.append_assoc]
      rfl
     obtain ⟨qx, cx2, _, rfl, _⟩ := g3
     simp only [] at cx sx RXX
     have lj : ((j : Nat) : Int) < (n : Nat) := by omega
     clear ex g1 g2 hc xm BR
     have bA := (Below.refl _ wr).alloc (Nat.le_refl _) (.cells #[.int .i64 co, .slice qx at_.length cx2] 82)
     have HM2 := hide (HM.out.below bA)
     have RX2 := hide (RXX.out.below bA)
     have HT3 : Hid (Turn u.heap.size U (wr.alloc (.cells #[.int .i64 co, .slice qx at_.length cx2] 82))) := HT2.out.trans (Turn.of_below bA)
     have P := hide (put (esA ps qs k ++ xs.take j) u.heap.size co at_ bx _ _ HM2.out (by rw [List.length_append, List.length_take]; have := ELL.out; have := n12.out; omega) (by have := MF.out.1; omega) RX2.out (fun a ha => by have := MF.out.2.2.1 a ha; omega) (by have := MF.out.2.1; omega))
     clear bA HM RXX HM2 RX2 HT2
     go_wp2_with fail
     refine P.out.mono ?_
     rintro e w3 ⟨rfl, hM4, hT4⟩
     rw [MF.out.2.2.2, ES.out] at hM4
     have HM4 := hide hM4
     have HT4 := hide (HT3.out.trans hT4)
     clear P hM4 hT4 HT3 cx sx
     go_wp2
     exact ⟨⟨j + 1, by omega, by go_num, HM4, HT4⟩, by simp [intOf]; omega⟩
end Go.Proofs.YtggilenddbobnaaGreat.Pol
namespace Go.Proofs.YtggilenddbobnaaGreat.Tab
set_option linter.unusedVariables false
set_option linter.unusedSimpArgs false
open Go.ChangeShapes Go.WideShapes Go.ChangeAt Go.RowKit IntS Pol
set_option maxRecDepth 8000 in
set_option maxHeartbeats 8000000 in
theorem ofDifference (x y : List Mono) (Bx By : Nat) (vx vy : Value) (w : World) (hx : PRow w Bx vx x) (hy : PRow w By vy y) :
 Calls Tryz.prog 57 #[.agg #[vx], .agg #[vy]] w fun e w' => Two2 w w' e (addP x (scaleP y 65535)) (addB x (scaleP y 65535)) := by
 obtain ⟨qx, cx, offx, rfl, hx'⟩ := hx
 obtain ⟨qy, cy, offy, rfl, hy'⟩ := hy
 have hx : PRow w Bx (.slice qx x.length cx) x := ⟨qx, cx, offx, rfl, hx'⟩
 have hy : PRow w By (.slice qy y.length cy) y := ⟨qy, cy, offy, rfl, hy'⟩
 have T := Three.new w [.slice qx x.length cx] [.slice qy y.length cy] [.slice none 0 0] 35 35 35
 have bn := T.bw
 have HX := hide (hx.below bn)
 have HY := hide (hy.below bn)
 have T3 := hide T
 clear T bn hx hy hx' hy'
 go_enter Tryz.func57, Tryz.ntmps57
 go_wp2_with fail
 generalize ((w.alloc (.cells #[.slice qx x.length cx] 35)).alloc (.cells #[.slice qy y.length cy] 35)).alloc (.cells #[.slice none 0 0] 35) = V at T3 HX HY ⊢
 have VL : Hid (w.heap.size + 1 + 1 < V.heap.size) := T3.out.o.lt
 go_wp2_with fail
 refine (wpIn_wide (n := 0)).1 ?_
 have bA : Below V.heap.size V V.drew := (Below.refl _ _).drew
 replace T3 := hide (T3.out.below bA)
 replace HX := hide (HX.out.below bA)
 replace HY := hide (HY.out.below bA)
 refine PhaseIn.region (S := fun w' => Rec w.heap.size [.slice qx x.length cx] w' ∧ Rec (w.heap.size + 1) [.slice qy y.length cy] w') 8 (by kernel_rfl) ?_
 replace VL : Hid (w.heap.size + 1 + 1 < V.drew.heap.size) := VL.out
 generalize V.drew = d1 at T3 HX HY VL ⊢
 have hHeld := And.intro T3.out.a T3.out.z
 clear bA
 refine PhaseIn.takeE (i := 0) (v := ?_) [0, 3, 4, 5, 6, 7] 6 rfl (by rfl) (by kernel_rfl) (fun _ _ _ h => h) (Or.inl ⟨by kernel_rfl, ?_⟩) hHeld ?_
 rotate_left
 · intro w' hSw
   (try dsimp only at hSw)
   have z0 := hSw.1.cell 0 _ rfl
   go_simp
   first | done | with_reducible rfl
 try simp only [Act.put, sA, List.set]
 refine PhaseIn.takeE (i := 1) (v := ?_) [1, 2, 3, 4, 5, 6, 7] 7 rfl (by rfl) (by kernel_rfl) (fun _ _ _ h => h) (Or.inl ⟨by kernel_rfl, ?_⟩) hHeld ?_
 rotate_left
 · intro w' hSw
   (try dsimp only at hSw)
   have z0 := hSw.2.cell 0 _ rfl
   go_simp
   first | done | with_reducible rfl
 try simp only [Act.put, sA, List.set]
 refine PhaseIn.one (i := 2) (by kernel_rfl) rfl (by kernel_rfl) (fun K hK => ?_)
 unfold Oper.wpIn
 refine ⟨fun _ _ => trivial, ?_⟩
 go_simp
 refine ⟨rfl, (callsIn_wide.2 (implScale y 65535 By _ _ HY.out)).mono ?_⟩
 rintro e u2 ⟨sa, sl, sc, rfl, MS, hb⟩
 refine hK _ _ (fun _ => And.intro (hHeld.1.below hb) (hHeld.2.below hb)) ?_
 replace hHeld := And.intro (hHeld.1.below hb) (hHeld.2.below hb)
 obtain ⟨BS, RS⟩ := MS.read
 replace RS := hide RS
 have SZ : Hid (d1.heap.size ≤ u2.heap.size) := hb.size
 replace T3 := hide (T3.out.below hb)
 replace HX := hide (HX.out.below hb)
 clear hK K hb MS HY
 try simp only [Act.put, sA, List.set]
 refine PhaseIn.one (i := 3) (by kernel_rfl) rfl (by kernel_rfl) (fun K hK => ?_)
 unfold Oper.wpIn
 refine ⟨fun _ _ => trivial, ?_⟩
 go_simp
 refine ⟨rfl, (callsIn_wide.2 (implAdd x (scaleP y 65535) Bx BS _ _ _ HX.out RS.out)).mono ?_⟩
 rintro e u3 ⟨pa, pl, pc, rfl, MW, hb⟩
 refine hK _ _ (fun _ => And.intro (hHeld.1.below hb) (hHeld.2.below hb)) ?_
 replace hHeld := And.intro (hHeld.1.below hb) (hHeld.2.below hb)
 replace MW := hide MW
 replace T3 := hide (T3.out.below hb)
 clear hK K hb HX RS
 try simp only [Act.put, sA, List.set]
 refine PhaseIn.takeE (i := 4) (v := ?_) [4, 6, 7] 10 rfl (by rfl) (by kernel_rfl) (fun _ _ _ h => h) (Or.inl ⟨by kernel_rfl, ?_⟩) hHeld ?_
 rotate_left
 · intro w' hSw
   (try dsimp only at hSw)
   go_simp
   first | done | with_reducible rfl
 try simp only [Act.put, sA, List.set]
 refine PhaseIn.takeE (i := 5) (v := ?_) [5, 6, 7] 11 rfl (by rfl) (by kernel_rfl) (fun _ _ _ h => h) (Or.inl ⟨by kernel_rfl, ?_⟩) hHeld ?_
 rotate_left
 · intro w' hSw
   (try dsimp only at hSw)
   go_simp
   first | done | with_reducible rfl
 try simp only [Act.put, sA, List.set]
 have o0 := T3.out.o.cell 0 _ rfl
 have s0 := T3.out.o.soft 0
 refine PhaseIn.one (i := 6) (by kernel_rfl) rfl (by kernel_rfl) (fun K hK => ?_)
 unfold Oper.wpIn
 refine ⟨fun _ _ => trivial, ?_⟩
 go_simp
 have TN : Turn (w.heap.size + 1 + 1) u3 (u3.setCell ⟨w.heap.size + 1 + 1, 0, none⟩ (.slice pa pl pc)) := (Turn.refl _ u3).setCell (p := ⟨w.heap.size + 1 + 1, 0, none⟩) rfl _
 have hHeld6 := And.intro (hHeld.1.turn TN (by omega)) (hHeld.2.turn TN (by omega))
 refine hK _ _ (fun _ => hHeld6) ?_
 have ZF := hide (T3.out.o.set 0 (.slice pa pl pc) (by simp) rfl)
 have TF := hide (two_end (v := .slice pa pl pc) (by have := VL.out; have := SZ.out; omega) (Nat.le_refl _) MW.out T3.out.bw TN (addB x (scaleP y 65535)))
 clear hK K TN T3 o0 s0 hHeld MW
 try simp only [Act.put, sA, List.set]
 generalize u3.setCell ⟨w.heap.size + 1 + 1, 0, none⟩ (.slice pa pl pc) = y9 at ZF TF hHeld6 ⊢
 refine PhaseIn.takeE (i := 7) (v := ?_) [7] 5 rfl (by rfl) (by kernel_rfl) (fun _ _ _ h => h) (Or.inl ⟨by kernel_rfl, ?_⟩) hHeld6 ?_
 rotate_left
 · intro w' hSw
   (try dsimp only at hSw)
   go_simp
   first | done | with_reducible rfl
 try simp only [Act.put, sA, List.set]
 refine PhaseIn.done (by kernel_rfl) ?_ _
 have z9 := ZF.out.cell 0 _ rfl
 clear hHeld6
 go_wp2
 exact bodyPost_ret (v := .tuple #[.agg #[.slice pa pl pc], .bool (addB x (scaleP y 65535))]) (by simp [results, Tryz.results57, go_sem, z9]) rfl TF.out
end Go.Proofs.YtggilenddbobnaaGreat.Tab
namespace Go.Proofs.YtggilenddbobnaaGreat.Tab
set_option linter.unusedVariables false
set_option linter.unusedSimpArgs false
open Go.ChangeShapes Go.WideShapes Go.ChangeAt Go.RowKit IntS Pol
def and4P : List Mono → List Mono → List Mono := orP (orP (orP (wrdP 4) wrdB (sameOP 1)) (orB wrdB sameOB) (besP 0 0)) (orB (orB wrdB sameOB) (besB 0)) (besP 65535 1)
def and4B : List Mono → List Mono → Bool := orB (orB (orB wrdB sameOB) (besB 0)) (besB 65535)
def xor5P : List Mono → List Mono → List Mono := orP (orP (wrdP 5) wrdB (sameOP 0)) (orB wrdB sameOB) (besP 0 1)
def xor5B : List Mono → List Mono → Bool := orB (orB wrdB sameOB) (besB 0)
theorem mkOr (f1 f2 : Fn) (r1 k1 r2 k2 : Array Value) (w : World) : Calls Tryz.prog 60 #[.func f1 r1 k1, .func f2 r2 k2] w fun e w' => ∃ b0 b1 : Nat, e = .returned (.func (.func 97) #[] #[.pointer (some ⟨b0, 0, none⟩), .pointer (some ⟨b1, 0, none⟩)]) ∧ Rec b0 [.func f1 r1 k1] w' ∧ Rec b1 [.func f2 r2 k2] w' ∧ Below w.heap.size w w' := by
 have R0 := hide ((Rec.new w [.func f1 r1 k1] 57).alloc (.cells #[.func f2 r2 k2] 57))
 have R1 : Hid (Rec (w.heap.size + 1) [.func f2 r2 k2] ((w.alloc (.cells #[.func f1 r1 k1] 57)).alloc (.cells #[.func f2 r2 k2] 57))) := by
  have := Rec.new (w.alloc (.cells #[.func f1 r1 k1] 57)) [.func f2 r2 k2] 57
  rw [show (w.alloc (.cells #[.func f1 r1 k1] 57)).heap.size = w.heap.size + 1 by simp] at this
  exact this
 have B0 := hide (((Below.refl w.heap.size w).alloc (Nat.le_refl _) (.cells #[.func f1 r1 k1] 57)).alloc (by simp) (.cells #[.func f2 r2 k2] 57))
 go_enter Tryz.func60, Tryz.ntmps60
 go_wp2
 go_ret
 exact ⟨_, _, rfl, R0.out, R1.out, B0.out⟩
theorem plain1 (w : World) : Calls Tryz.prog 28 #[.int .i64 1] w fun e w' => e = .returned (.func (.func 56) #[] #[]) ∧ Below w.heap.size w w' := by
 go_enter Tryz.func28, Tryz.ntmps28
 go_wp2
 go_ret
 exact ⟨rfl, Below.refl _ _⟩
theorem plain2 (w : World) : Calls Tryz.prog 28 #[.int .i64 2] w fun e w' => e = .returned (.func (.func 57) #[] #[]) ∧ Below w.heap.size w w' := by
 go_enter Tryz.func28, Tryz.ntmps28
 go_wp2
 go_ret
 exact ⟨rfl, Below.refl _ _⟩
theorem plain3 (w : World) : Calls Tryz.prog 28 #[.int .i64 3] w fun e w' => e = .returned (.func (.func 58) #[] #[]) ∧ Below w.heap.size w w' := by
 go_enter Tryz.func28, Tryz.ntmps28
 go_wp2
 go_ret
 exact ⟨rfl, Below.refl _ _⟩
set_option maxRecDepth 8000 in
set_option maxHeartbeats 8000000 in
theorem plain4 (w : World) : Calls Tryz.prog 28 #[.int .i64 4] w fun e w' => ∃ s n : Nat, e = .returned (.func (.func 97) #[] #[.pointer (some ⟨s, 0, none⟩), .pointer (some ⟨n, 0, none⟩)]) ∧ Sees 97 [.pointer (some ⟨s, 0, none⟩), .pointer (some ⟨n, 0, none⟩)] w' and4P and4B ∧ Below w.heap.size w w' := by
 go_enter Tryz.func28, Tryz.ntmps28
 go_wp2_with fail
 refine (mkWords 4 _).mono ?_
 rintro e u1 ⟨c1, rfl, R1, hb⟩
 have BB := hide hb
 have SF := hide (show Sees 94 [.pointer (some ⟨c1, 0, none⟩)] u1 (wrdP 4) wrdB from fun x y Bx By vx vy w hb hx hy => ofWords1 4 x y Bx By c1 vx vy w hx hy (R1.below hb))
 clear R1 hb
 go_wp2_with fail
 refine (mkSame 1 _).mono ?_
 rintro e u2 ⟨c2, rfl, R2, hb⟩
 replace BB := hide (BB.out.trans (hb.mono BB.out.size))
 replace SF := hide (SF.out.below hb)
 have SG := hide (show Sees 98 [.pointer (some ⟨c2, 0, none⟩)] u2 (sameOP 1) sameOB from fun x y Bx By vx vy w hb hx hy => ofSame1 1 x y Bx By c2 vx vy w hx hy (R2.below hb))
 clear R2 hb
 go_wp2_with fail
 refine (mkOr _ _ _ _ _ _ _).mono ?_
 rintro e u3 ⟨s3, n3, rfl, Rs, Rn, hb⟩
 replace BB := hide (BB.out.trans (hb.mono BB.out.size))
 replace SF := hide (or_first _ _ _ _ s3 n3 c1 c2 u3 Rs Rn (SF.out.below hb) (SG.out.below hb))
 clear SG Rs Rn hb
 go_wp2_with fail
 refine (mkBeside 0 0 _).mono ?_
 rintro e u4 ⟨d3, e3, rfl, Rd, Re, hb⟩
 replace BB := hide (BB.out.trans (hb.mono BB.out.size))
 replace SF := hide (SF.out.below hb)
 have SG := hide (show Sees 99 [.pointer (some ⟨d3, 0, none⟩), .pointer (some ⟨e3, 0, none⟩)] u4 (besP 0 0) (besB 0) from fun x y Bx By vx vy w hb hx hy => beside1 0 0 x y Bx By d3 e3 vx vy w hx hy (Rd.below hb) (Re.below hb))
 clear Rd Re hb
 go_wp2_with fail
 refine (mkOr _ _ _ _ _ _ _).mono ?_
 rintro e u5 ⟨s5, n5, rfl, Rs, Rn, hb⟩
 replace BB := hide (BB.out.trans (hb.mono BB.out.size))
 replace SF := hide (or_next _ _ _ _ s5 n5 s3 n3 d3 e3 u5 Rs Rn (SF.out.below hb) (SG.out.below hb))
 clear SG Rs Rn hb
 go_wp2_with fail
 refine (mkBeside 65535 1 _).mono ?_
 rintro e u6 ⟨d5, e5, rfl, Rd, Re, hb⟩
 replace BB := hide (BB.out.trans (hb.mono BB.out.size))
 replace SF := hide (SF.out.below hb)
 have SG := hide (show Sees 99 [.pointer (some ⟨d5, 0, none⟩), .pointer (some ⟨e5, 0, none⟩)] u6 (besP 65535 1) (besB 65535) from fun x y Bx By vx vy w hb hx hy => beside1 65535 1 x y Bx By d5 e5 vx vy w hx hy (Rd.below hb) (Re.below hb))
 clear Rd Re hb
 go_wp2_with fail
 refine (mkOr _ _ _ _ _ _ _).mono ?_
 rintro e u7 ⟨s7, n7, rfl, Rs, Rn, hb⟩
 replace BB := hide (BB.out.trans (hb.mono BB.out.size))
 replace SF := hide (or_next _ _ _ _ s7 n7 s5 n5 d5 e5 u7 Rs Rn (SF.out.below hb) (SG.out.below hb))
 clear SG Rs Rn hb
 go_wp2
 go_ret
 exact ⟨_, _, rfl, SF.out, BB.out⟩
set_option maxRecDepth 8000 in
set_option maxHeartbeats 8000000 in
theorem plain5 (w : World) : Calls Tryz.prog 28 #[.int .i64 5] w fun e w' => ∃ s n : Nat, e = .returned (.func (.func 97) #[] #[.pointer (some ⟨s, 0, none⟩), .pointer (some ⟨n, 0, none⟩)]) ∧ Sees 97 [.pointer (some ⟨s, 0, none⟩), .pointer (some ⟨n, 0, none⟩)] w' xor5P xor5B ∧ Below w.heap.size w w' := by
 go_enter Tryz.func28, Tryz.ntmps28
 go_wp2_with fail
 refine (mkWords 5 _).mono ?_
 rintro e u1 ⟨c1, rfl, R1, hb⟩
 have BB := hide hb
 have SF := hide (show Sees 94 [.pointer (some ⟨c1, 0, none⟩)] u1 (wrdP 5) wrdB from fun x y Bx By vx vy w hb hx hy => ofWords1 5 x y Bx By c1 vx vy w hx hy (R1.below hb))
 clear R1 hb
 go_wp2_with fail
 refine (mkSame 0 _).mono ?_
 rintro e u2 ⟨c2, rfl, R2, hb⟩
 replace BB := hide (BB.out.trans (hb.mono BB.out.size))
 replace SF := hide (SF.out.below hb)
 have SG := hide (show Sees 98 [.pointer (some ⟨c2, 0, none⟩)] u2 (sameOP 0) sameOB from fun x y Bx By vx vy w hb hx hy => ofSame1 0 x y Bx By c2 vx vy w hx hy (R2.below hb))
 clear R2 hb
 go_wp2_with fail
 refine (mkOr _ _ _ _ _ _ _).mono ?_
 rintro e u3 ⟨s3, n3, rfl, Rs, Rn, hb⟩
 replace BB := hide (BB.out.trans (hb.mono BB.out.size))
 replace SF := hide (or_first _ _ _ _ s3 n3 c1 c2 u3 Rs Rn (SF.out.below hb) (SG.out.below hb))
 clear SG Rs Rn hb
 go_wp2_with fail
 refine (mkBeside 0 1 _).mono ?_
 rintro e u4 ⟨d3, e3, rfl, Rd, Re, hb⟩
 replace BB := hide (BB.out.trans (hb.mono BB.out.size))
 replace SF := hide (SF.out.below hb)
 have SG := hide (show Sees 99 [.pointer (some ⟨d3, 0, none⟩), .pointer (some ⟨e3, 0, none⟩)] u4 (besP 0 1) (besB 0) from fun x y Bx By vx vy w hb hx hy => beside1 0 1 x y Bx By d3 e3 vx vy w hx hy (Rd.below hb) (Re.below hb))
 clear Rd Re hb
 go_wp2_with fail
 refine (mkOr _ _ _ _ _ _ _).mono ?_
 rintro e u5 ⟨s5, n5, rfl, Rs, Rn, hb⟩
 replace BB := hide (BB.out.trans (hb.mono BB.out.size))
 replace SF := hide (or_next _ _ _ _ s5 n5 s3 n3 d3 e3 u5 Rs Rn (SF.out.below hb) (SG.out.below hb))
 clear SG Rs Rn hb
 go_wp2
 go_ret
 exact ⟨_, _, rfl, SF.out, BB.out⟩
end Go.Proofs.YtggilenddbobnaaGreat.Tab
namespace Go.Proofs.YtggilenddbobnaaGreat.Tab
set_option linter.unusedVariables false
set_option linter.unusedSimpArgs false
open Go.ChangeShapes Go.WideShapes Go.ChangeAt Go.RowKit IntS Pol
theorem ok_coef {ps : List Mono} (h : okP ps = true) {x : Mono} (hx : x ∈ ps) : 0 < x.1 ∧ x.1 < 65536 := by
 obtain ⟨k, hk⟩ := List.getElem?_of_mem hx
 unfold okP at h
 simp only [Bool.and_eq_true, List.all_eq_true, List.mem_range] at h
 have hl : k < ps.length := (List.getElem?_eq_some_iff.1 hk).1
 have h2 := h.2 k hl
 unfold Pol.partAt at h2
 rw [getD_part hk] at h2
 simp only [Bool.and_eq_true] at h2
 exact (mono_good h2.1).2.1
theorem scaleL_one : ∀ (ps : List Mono), (∀ x ∈ ps, 0 < x.1 ∧ x.1 < 65536) → scaleL 1 ps = ps
 | [], _ => rfl
 | x :: r, h => by
  have hx := h x (by simp)
  have e : x.1 * 1 % 65536 = x.1 := by omega
  rw [scaleL, e, if_pos hx.1, scaleL_one r (fun z hz => h z (by simp [hz]))]
theorem scaleL_zero : ∀ (ps : List Mono), scaleL 0 ps = []
 | [] => rfl
 | x :: r => by
  rw [scaleL, if_neg (by simp), scaleL_zero r]
theorem scale_one {ps : List Mono} (h : okP ps = true) : scaleP ps 1 = ps := by
 rw [scale_yes h (by decide)]
 exact scaleL_one ps (fun x hx => ok_coef h hx)
theorem scale_zero (ps : List Mono) : scaleP ps 0 = [] := by
 unfold scaleP
 split
 · exact scaleL_zero ps
 · rfl
theorem and4_bits {x y : List Mono} (hx : okP x = true) (hy : okP y = true) : and4P x y = bitsP 4 x y ∧ and4B x y = bitsB 4 x y := by
 unfold and4P and4B orP orB wrdP wrdB sameOP sameOB besP besB isN bitsP bitsB halfP halfB
 simp only [scale_one hx, scale_one hy, scale_zero]
 obtain ⟨a, ea⟩ : ∃ a, (numP x).1 = a := ⟨_, rfl⟩
 obtain ⟨b, eb⟩ : ∃ b, (numP y).1 = b := ⟨_, rfl⟩
 rw [ea, eb]
 clear ea eb
 cases (numP x).2 <;> cases (numP y).2 <;> by_cases h0 : ordP x y = 0 <;> by_cases a0 : a = 0 <;> by_cases b0 : b = 0 <;> by_cases a1 : a = 65535 <;> by_cases b1 : b = 65535 <;> simp [orB, orP, h0, a0, b0, a1, b1]
theorem xor5_bits {x y : List Mono} (hx : okP x = true) (hy : okP y = true) : xor5P x y = bitsP 5 x y ∧ xor5B x y = bitsB 5 x y := by
 unfold xor5P xor5B orP orB wrdP wrdB sameOP sameOB besP besB isN bitsP bitsB halfP halfB
 simp only [scale_one hx, scale_one hy, scale_zero]
 obtain ⟨a, ea⟩ : ∃ a, (numP x).1 = a := ⟨_, rfl⟩
 obtain ⟨b, eb⟩ : ∃ b, (numP y).1 = b := ⟨_, rfl⟩
 rw [ea, eb]
 clear ea eb
 cases (numP x).2 <;> cases (numP y).2 <;> by_cases h0 : ordP x y = 0 <;> by_cases a0 : a = 0 <;> by_cases b0 : b = 0 <;> simp [orB, orP, h0, a0, b0]
end Go.Proofs.YtggilenddbobnaaGreat.Tab
namespace Go.Proofs.YtggilenddbobnaaGreat.Pol
set_option linter.unusedVariables false
theorem merge_left : ∀ ys : List Int, mergeL [] ys = ys
 | [] => by rw [mergeL]
 | y :: r => by rw [mergeL, merge_left r]
theorem merge_is : ∀ xs ys : List Int, mergeL xs ys = List.merge xs ys (fun a b => decide (a ≤ b))
 | [], ys => by rw [List.nil_merge, merge_left]
 | x :: xs, [] => by rw [merge_nil, List.merge_right]
 | x :: xs, y :: ys => by
  rw [List.cons_merge_cons, mergeL]
  by_cases h : x ≤ y
  · rw [if_pos h, if_pos (decide_eq_true h), merge_is xs (y :: ys)]
  · rw [if_neg h, if_neg (by simpa using h), merge_is (x :: xs) ys]
termination_by xs ys => xs.length + ys.length
theorem merge_sort {xs ys : List Int} (hx : xs.Pairwise (· ≤ ·)) (hy : ys.Pairwise (· ≤ ·)) : Srt.sortI (xs ++ ys) = mergeL xs ys := by
 have tr : ∀ a b c : Int, decide (a ≤ b) = true → decide (b ≤ c) = true → decide (a ≤ c) = true := fun a b c h1 h2 => by simp only [decide_eq_true_eq] at *; omega
 have to : ∀ a b : Int, (decide (a ≤ b) || decide (b ≤ a)) = true := fun a b => by simp only [Bool.or_eq_true, decide_eq_true_eq]; omega
 unfold Srt.sortI
 rw [merge_is]
 refine List.Perm.eq_of_pairwise (le := fun a b => decide (a ≤ b) = true) (fun a b _ _ h1 h2 => by simp only [decide_eq_true_eq] at *; omega) (List.pairwise_mergeSort tr to _) (List.pairwise_merge tr to _ _ (hx.imp fun h => decide_eq_true h) (hy.imp fun h => decide_eq_true h)) ((List.mergeSort_perm _ _).trans (List.merge_perm_append _).symm)
theorem merge_mem {xs ys : List Int} {a : Int} : a ∈ mergeL xs ys ↔ a ∈ xs ∨ a ∈ ys := by
 rw [merge_is, (List.merge_perm_append _).mem_iff, List.mem_append]
/-- A part times each part of a sum. -/
def prodE (x : Mono) (qs : List Mono) : List Mono := qs.map fun y => (x.1 * y.1 % 65536, mergeL x.2 y.2)
def esM (qs : List Mono) (ps : List Mono) : List Mono := ps.flatMap fun x => prodE x qs
theorem merge_fine {x y : Mono} (hx : ∀ a ∈ x.2, 0 ≤ a ∧ a < 200) (hy : ∀ a ∈ y.2, 0 ≤ a ∧ a < 200) (lx : x.2.length ≤ 4) (ly : y.2.length ≤ 4) : Fine (mergeL x.2 y.2) :=
 ⟨fun a ha => by rcases merge_mem.1 ha with h | h; have := hx a h; omega; have := hy a h; omega, by rw [merge_len]; omega⟩
theorem told_row {x : Mono} (hx : ∀ a ∈ x.2, 0 ≤ a ∧ a < 200) (lx : x.2.length ≤ 4) : ∀ {qs es l : List Mono}, (∀ m ∈ qs, (∀ a ∈ m.2, 0 ≤ a ∧ a < 200) ∧ m.2.length ≤ 4) → Told es l → Told (es ++ prodE x qs) (mulR x l qs)
 | [], es, l, _, h => by rw [prodE, List.map_nil, List.append_nil, mulR]; exact h
 | y :: qs, es, l, hq, h => by
  have hy := hq y (List.mem_cons_self ..)
  have hr : ∀ m ∈ qs, (∀ a ∈ m.2, 0 ≤ a ∧ a < 200) ∧ m.2.length ≤ 4 := fun m hm => hq m (List.mem_cons_of_mem _ hm)
  have e : es ++ prodE x (y :: qs) = (es ++ [(x.1 * y.1 % 65536, mergeL x.2 y.2)]) ++ prodE x qs := by
   unfold prodE
   rw [List.map_cons, List.append_assoc]
   rfl
  rw [e, mulR]
  by_cases hc : 0 < x.1 * y.1 % 65536
  · rw [if_pos hc]
    exact told_row hx lx hr (h.plus ⟨merge_fine hx hy.1 lx hy.2, hc, by simp only []; omega⟩)
  · rw [if_neg hc]
    have h0 : x.1 * y.1 % 65536 = 0 := by omega
    rw [h0]
    exact told_row hx lx hr (h.zero _)
theorem told_mul {qs : List Mono} (gq : Good qs) : ∀ {ps es l : List Mono}, (∀ m ∈ ps, (∀ a ∈ m.2, 0 ≤ a ∧ a < 200) ∧ m.2.length ≤ 4) → Told es l → Told (es ++ esM qs ps) (mulL qs l ps)
 | [], es, l, _, h => by rw [esM, List.flatMap_nil, List.append_nil, mulL]; exact h
 | x :: ps, es, l, hp, h => by
  have hx := hp x (List.mem_cons_self ..)
  have h1 := told_row hx.1 hx.2 (qs := qs) (fun m hm => ⟨gq.at_ m hm, gq.four m hm⟩) h
  have h2 := told_mul gq (ps := ps) (fun m hm => hp m (List.mem_cons_of_mem _ hm)) h1
  rw [List.append_assoc] at h2
  rw [mulL]
  unfold esM at h2 ⊢
  rw [List.flatMap_cons]
  exact h2
theorem esM_len (qs : List Mono) : ∀ ps : List Mono, (esM qs ps).length = ps.length * qs.length
 | [] => by simp [esM]
 | x :: ps => by
  have := esM_len qs ps
  unfold esM at this ⊢
  rw [List.flatMap_cons, List.length_append, this, prodE, List.length_map, List.length_cons, Nat.succ_mul]
  omega
theorem esM_mem {qs ps : List Mono} (gp : ∀ m ∈ ps, m.2.length ≤ 4) (gq : ∀ m ∈ qs, m.2.length ≤ 4) {m : Mono} (h : m ∈ esM qs ps) : m.2.length < 256 := by
 obtain ⟨x, hx, h1⟩ := List.mem_flatMap.1 h
 obtain ⟨y, hy, rfl⟩ := List.mem_map.1 h1
 have := gp x hx
 have := gq y hy
 show (mergeL x.2 y.2).length < 256
 rw [merge_len]
 omega
theorem esM_next {qs ps : List Mono} {k : Nat} {x : Mono} (h : ps[k]? = some x) : esM qs (ps.take (k + 1)) = esM qs (ps.take k) ++ prodE x qs := by
 unfold esM
 rw [List.take_add_one, h, List.flatMap_append]
 simp
theorem prod_next {qs : List Mono} {k : Nat} {x y : Mono} (h : qs[k]? = some y) : prodE x (qs.take (k + 1)) = prodE x (qs.take k) ++ [(x.1 * y.1 % 65536, mergeL x.2 y.2)] := by
 unfold prodE
 rw [List.take_add_one, h, List.map_append]
 rfl
end Go.Proofs.YtggilenddbobnaaGreat.Pol
namespace Go.Proofs
open Go.Shelf
def Tryz.growI_ren : Go.Shelf.Ren := ⟨fun | 4 => 120 | n => n, fun | 22 => 73 | 25 => 3 | 3 => 3 | 4 => 4 | 9 => 9 | 20 => 20 | 0 => 0 | n => n, fun | n => n⟩
theorem Tryz.growI : Go.Proofs.Lays8.n4 Tryz.prog Tryz.growI_ren := {
 mixed := by kernel_rfl
 f4 := ⟨Tryz.f120.name, by decide, Tryz.func120.trans (congrArg some (by kernel_rfl))⟩
 t0 := Tryz.underlying0
 a0 := Tryz.isAgg0
 z0 := Tryz.sizeOf0
 v0 := Tryz.zeroValue0
 t3 := Tryz.underlying3
 a3 := Tryz.isAgg3
 z3 := Tryz.sizeOf3
 v3 := Tryz.zeroValue3
 t4 := Tryz.underlying4
 a4 := Tryz.isAgg4
 z4 := Tryz.sizeOf4
 v4 := Tryz.zeroValue4
 t9 := Tryz.underlying9
 a9 := Tryz.isAgg9
 z9 := Tryz.sizeOf9
 v9 := Tryz.zeroValue9
 t20 := Tryz.underlying20
 a20 := Tryz.isAgg20
 z20 := Tryz.sizeOf20
 v20 := Tryz.zeroValue20
 t22 := Tryz.underlying73
 a22 := Tryz.isAgg73
 z22 := Tryz.sizeOf73
 v22 := Tryz.zeroValue73 }
end Go.Proofs
namespace Go.Proofs.YtggilenddbobnaaGreat.Pol
set_option linter.unusedVariables false
open Go.ChangeShapes Go.WideShapes Go.ChangeAt Go.RowKit Go.Shelf IntS Rng
theorem own_slice {w : World} {lo : Nat} {v : Value} {l : List Int} (h : IntS.Own w lo v l) : ∃ q n c, v = .slice q n c := by
 obtain ⟨_, h0 | ⟨g, cap, cur, hv, _⟩⟩ := h
 · exact ⟨_, _, _, h0.1⟩
 · exact ⟨_, _, _, hv⟩
theorem wpList_cat {w : World} {ops : Array Oper} {rest : List Oper} {o : Oper} {a : Act} {Q : Exit → Act → World → Prop} (hgd : o.guard = none) (s x : Operand)
 (ho : o.op = .call { callee := .builtin .append, args := #[s, x], argTypes := #[73, 73] })
 (lo : Nat) (v : Value) (l : List Int) (hs : a.eval s = v) (hown : IntS.Own w lo v l) (hlo : lo ≤ w.heap.size)
 (v2 : Value) (B : Nat) (xs : List Int) (hx : a.eval x = v2) (hr : Row w B v2 xs) (hl : xs.length ≤ 1000000) (hl2 : l.length ≤ 1000000)
 (h : ∀ (q : Option Addr) (n c : Nat) (w' : World), Hid (IntS.Own w' lo (.slice q n c) (l ++ xs)) → Hid (Below lo w w') → wpList Tryz.prog ops Q rest (a.put o.dst (.slice q n c)) w') : wpList Tryz.prog ops Q (o :: rest) a w := by
 obtain ⟨i0, hi, hz, hsz, hby⟩ := info_int
 have hlt := World.ownsRow.lt hown
 have key (ad : Addr) (c : Nat) (hv : v2 = .slice (some ad) xs.length c) (hc : ∀ j u, (vals xs)[j]? = some u → w.cell? (ad.add j) = some u) : wpList Tryz.prog ops Q (o :: rest) a w := by
  refine wpList_append_own w hgd s x 73 ho lo 3 i0 (.int .i64 0) 1 8 Tryz.underlying73 hi hz hsz hby rfl (by decide) v l.length (vals l) hs hown ad xs.length c (vals xs) (hx.trans hv) (by rw [vals_len]; omega) hc (fun u hu => ?_) (by unfold maxLen; omega) (by omega) hlo (fun v' w' h1 h2 h3 => ?_)
  · obtain ⟨y, _, rfl⟩ := List.mem_map.1 hu
    rfl
  · have e : vals l ++ vals xs = vals (l ++ xs) := by simp [vals]
    rw [e] at h1
    have g1 : IntS.Own w' lo v' (l ++ xs) := by
     unfold IntS.Own
     rw [List.length_append]
     exact h1
    obtain ⟨q, n, c', rfl⟩ := own_slice g1
    exact h q n c' w' g1 ((Below.refl lo w).grown h2 hlo (fun k e => (hlt k e).1))
 obtain ⟨a0, cap, off, hv, h2, h3, hz0, h4⟩ := hr
 cases a0 with
 | none =>
  have hc0 := hz0 rfl
  subst hc0
  have hx0 : xs = [] := List.length_eq_zero_iff.1 (by omega)
  subst hx0
  refine wpList_append_own_none hgd s x 73 ho lo 3 i0 1 Tryz.underlying73 hi v l.length (vals l) hs hown (hx.trans hv) ?_
  obtain ⟨q, n, c', rfl⟩ := own_slice hown
  exact h q n c' w (by rw [List.append_nil]; exact hown) (Below.refl _ _)
 | some ad =>
  rcases h4 with h4 | ⟨h4, h5⟩
  · subst h4
    exact key ad cap hv (fun j u hu => by simp [vals] at hu)
  · refine key ad cap hv (fun j u hu => ?_)
    cases h4
    rw [Go.WideShapes.add_plain]
    simp only [vals, List.getElem?_map, Option.map_eq_some_iff] at hu
    obtain ⟨y, hy, rfl⟩ := hu
    exact h5 j y hy
/-- slices.Grow of no slice: room for so many. -/
theorem grow_nil (k : Nat) (hk : k ≤ 1000000) (w : World) :
 Calls Tryz.prog 120 #[.slice none 0 0, .int .i64 k] w fun e w' => ∃ q n c, e = .returned (.slice q n c) ∧ IntS.Own w' w.heap.size (.slice q n c) [] ∧ Below w.heap.size w w' := by
 by_cases h0 : k = 0
 · subst h0
   refine (Any8.slices_Grow_room Tryz.growI none 0 0 0 w (Nat.le_refl _) (by omega) (by omega) (Nat.le_refl _)).mono ?_
   rintro e w' ⟨rfl, rfl⟩
   exact ⟨none, 0, 0, rfl, own_nil _ _, Below.refl _ _⟩
 · obtain ⟨i0, hi, hz, hsz, hby⟩ := info_int
   refine (Any8.slices_Grow_grow Tryz.growI i0 (.int .i64 0) hi hz (by omega) none 0 0 k [] w (Nat.le_refl _) (by omega) (by rw [hby]; omega) (by omega) (by simp) (fun _ => rfl) (fun a h => by cases h)).mono ?_
   rintro e w' ⟨rfl, rfl⟩
   refine ⟨_, _, _, rfl, ⟨rfl, Or.inr ⟨w.heap.size, _, _, rfl, Nat.le_refl _, World.alloc_heap_new w.drew _, Nat.zero_le _, grownCap_le_maxLen _ _ _ _ (by unfold maxLen; omega), ?_, by simp [vals]⟩⟩, ((Below.refl _ w).drew).alloc (Nat.le_refl _) _⟩
   have hge := grownCap_ge w (0 + k) 0 (Tryz.growI_ren.t 25)
   simp only [Array.size_append, size_zeroCells]
   have e1 : (Value.int .i64 0).cells.size = 1 := rfl
   rw [e1]
   simp only [List.size_toArray, List.length_nil]
   omega
def catN (xs ys : List Int) (k : Nat) : List Int := if k = 0 then [] else if k = 1 then xs else xs ++ ys
theorem pick_row {w wr : World} {xs ys : List Int} {B B' T k : Nat} {a a' : Option Addr} {cap cap' : Nat} (hk : k < 2) (r : Rec T [.slice a xs.length cap, .slice a' ys.length cap'] wr) (h : Row w B (.slice a xs.length cap) xs) (h' : Row w B' (.slice a' ys.length cap') ys) (hx : xs.length ≤ 1000) (hy : ys.length ≤ 1000) :
 ∃ (zs : List Int) (q : Option Addr) (c X : Nat), wr.cell? ⟨T, k, none⟩ = some (.slice q zs.length c) ∧ Row w X (.slice q zs.length c) zs ∧ zs.length ≤ 1000 ∧ catN xs ys (k + 1) = catN xs ys k ++ zs ∧ (catN xs ys k).length ≤ 1000 := by
 by_cases e : k = 0
 · subst e
   exact ⟨xs, a, cap, B, r.cell 0 _ rfl, h, hx, by simp [catN], by simp [catN]⟩
 · obtain rfl : k = 1 := by omega
   exact ⟨ys, a', cap', B', r.cell 1 _ rfl, h', hy, by simp [catN], by simp [catN]; exact hx⟩
set_option maxRecDepth 8000 in
set_option maxHeartbeats 4000000 in
theorem concat (xs ys : List Int) (B B' T : Nat) (a a' : Option Addr) (cap cap' : Nat) (w : World) (r : Rec T [.slice a xs.length cap, .slice a' ys.length cap'] w) (h : Row w B (.slice a xs.length cap) xs) (h' : Row w B' (.slice a' ys.length cap') ys) (hx : xs.length ≤ 1000) (hy : ys.length ≤ 1000) :
 Calls Tryz.prog 93 #[.slice (some ⟨T, 0, none⟩) 2 2] w fun e w' => ∃ q n c, e = .returned (.slice q n c) ∧ IntS.Own w' w.heap.size (.slice q n c) (xs ++ ys) ∧ Below w.heap.size w w' := by
 have RR := hide r
 have HX := hide h
 have HY := hide h'
 have LX := hide hx
 have LY := hide hy
 clear r h h' hx hy
 go_enter Tryz.func93, Tryz.ntmps93
 go_wp2
 go_loopw [3, 11] (fun s i wr => ∃ (k n : Nat), k ≤ 2 ∧ i = .int .i64 k ∧ s = .int .i64 n ∧ Hid (n = (catN xs ys k).length) ∧ n ≤ 3000 ∧ w = wr) (fun _ i _ => 2 - (intOf i).toNat)
 case atStart => exact ⟨0, 0, by omega, rfl, rfl, by simp [catN, Hid], by omega, rfl⟩
 case round =>
  obtain ⟨k, n, hk, rfl, rfl, HN, n3, rfl⟩ := hrel
  by_cases hlt : k < 2
  case pos =>
   obtain ⟨zs, q, c, X, px, RX, ZL, EE, EL⟩ := pick_row hlt RR.out HX.out HY.out LX.out LY.out
   obtain ⟨m, em⟩ : ∃ m, zs.length = m := ⟨_, rfl⟩
   rw [em] at px ZL
   have HN2 : Hid (n + m = (catN xs ys (k + 1)).length) := show _ = _ by rw [EE, List.length_append, em, HN.out]
   have n4 : n + m ≤ 3000 := by have := HN.out; omega
   have lk : ((k : Nat) : Int) < (2 : Int) := by omega
   have l0 : ¬ ((n : Int) + (m : Int) < 0) := by omega
   clear RX EE EL em HN
   go_wp2
   exact ⟨⟨k + 1, n + m, by omega, by go_num, by go_num, HN2, n4, trivial⟩, by simp [intOf]; omega⟩
  obtain rfl : k = 2 := by omega
  clear HN
  go_wp2_with fail
  refine (grow_nil n (by omega) _).mono ?_
  rintro e u ⟨q0, m0, c0, rfl, hO, hb⟩
  have O0 := hide hO
  have B0 := hide hb
  clear hO hb
  go_wp2
  go_loopw [6, 27] (fun v i wr => ∃ (k nn c : Nat) (q : Option Addr), k ≤ 2 ∧ i = .int .i64 k ∧ v = .slice q nn c ∧ Hid (IntS.Own wr w.heap.size (.slice q nn c) (catN xs ys k)) ∧ Hid (Below w.heap.size w wr)) (fun _ i _ => 2 - (intOf i).toNat)
  case atStart => exact ⟨0, m0, c0, q0, by omega, rfl, rfl, O0, B0⟩
  case round =>
   obtain ⟨k, nn, cc, qq, hk, rfl, rfl, HO, HB⟩ := hrel
   clear O0 B0
   by_cases hlt : k < 2
   case neg =>
    obtain rfl : k = 2 := by omega
    have e2 : Hid (catN xs ys 2 = xs ++ ys) := show _ = _ by simp [catN]
    go_wp2
    go_ret
    exact ⟨_, _, _, rfl, by rw [← e2.out]; exact HO.out, HB.out⟩
   obtain ⟨zs, q, c, X, px, RX, ZL, EE, EL⟩ := pick_row hlt (RR.out.below HB.out) HX.out HY.out LX.out LY.out
   have RX2 := hide (RX.below HB.out)
   have EE2 := hide EE
   have Z1 : Hid (zs.length ≤ 1000000) := show _ ≤ _ by omega
   have Z2 : Hid ((catN xs ys k).length ≤ 1000000) := show _ ≤ _ by omega
   have lk : ((k : Nat) : Int) < (2 : Int) := by omega
   clear RX EE EL ZL
   go_wp2_with (at_builtin; refine wpList_cat rfl _ _ rfl w.heap.size (.slice qq nn cc) (catN xs ys k) rfl HO.out HB.out.size _ X zs rfl RX2.out Z1.out Z2.out ?_; intro q2 n2 c2 w2 hO2 hB2)
   have O3 := hO2.out
   rw [← EE2.out] at O3
   have O4 := hide O3
   have B4 := hide (HB.out.trans hB2.out)
   clear O3 hO2 hB2 px RX2
   exact ⟨⟨k + 1, n2, c2, q2, by omega, by go_num, rfl, O4, B4⟩, by simp [intOf]; omega⟩
end Go.Proofs.YtggilenddbobnaaGreat.Pol
namespace Go.Proofs.YtggilenddbobnaaGreat.PhaseIn
open Go
section
variable {P : Program} {ops : Array Oper} {Q : Exit → Act → World → Prop} {md : Region.Mode} {S : World → Prop} {n : Nat}
theorem two {i j : Nat} {oi oj : Oper} {fuel : Nat} {listed : Array Bool} {a : Act} {w : World} (hr : Region.ready md ops listed = [i, j]) (hi : ops[i]? = some oi) (hj : ops[j]? = some oj) (hwi : Region.wanted oi (yielded ops a.tmps) = true) (hwj : Region.wanted oj (yielded ops a.tmps) = true)
 (h1 : ∀ K : Act → World → Prop, (∀ a' w', (i < n → S w') → wpAnyW P md ops Q S n fuel (listed.setIfInBounds i true) a' w' → K a' w') → Oper.wpIn Fence.wide 0 P oi a w K Q)
 (h2 : ∀ K : Act → World → Prop, (∀ a' w', (j < n → S w') → wpAnyW P md ops Q S n fuel (listed.setIfInBounds j true) a' w' → K a' w') → Oper.wpIn Fence.wide 0 P oj a w K Q) : wpAnyW P md ops Q S n (fuel + 1) listed a w := by
 refine ⟨fun h0 => (by rw [hr] at h0; cases h0), fun k hk => ?_⟩
 rw [hr] at hk
 have hk2 : k = i ∨ k = j := by simpa using hk
 rcases hk2 with rfl | rfl
 · unfold wpOpIn
   simp only [hi]
   rw [if_pos hwi]
   exact h1 _ (fun a' w' h1 h2 => ⟨h1, h2⟩)
 · unfold wpOpIn
   simp only [hj]
   rw [if_pos hwj]
   exact h2 _ (fun a' w' h1 h2 => ⟨h1, h2⟩)
/-- Only what falls off its end, and then so. -/
def onlyN (R : Act → World → Prop) : Exit → Act → World → Prop
 | .normal, a, w => R a w
 | _, _, _ => False
theorem cut {c : Code} {a : Act} {w : World} (R : Act → World → Prop) (h : c.wpIn Fence.wide 0 P (onlyN R) a w) (hq : ∀ a' w', R a' w' → Q .normal a' w') : c.wp P Q a w := by
 refine (wpIn_wide (n := 0)).1 (wpIn_mono h fun e a' w' he => ?_)
 cases e <;> first | exact hq a' w' he | exact he.elim
end
end Go.Proofs.YtggilenddbobnaaGreat.PhaseIn
