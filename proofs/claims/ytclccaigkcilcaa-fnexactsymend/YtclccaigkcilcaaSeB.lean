/-
  How code goes on: what is decided of it; the specification's l8Go and l8If.
-/
import Derived.Test.YtclccaigkcilcaaDtS
import Derived.Test.YtclccaigkcilcaaPolN
import Derived.Test.YtclccaigkcilcaaPolO
import Derived.Test.YtclccaigkcilcaaSeA
namespace Go.Proofs.Ytclccaigkcilcaa.Dt
set_option linter.unusedVariables false
set_option linter.unusedSimpArgs false
open Go.ChangeShapes Go.WideShapes Go.ChangeAt Go.RowKit IntS Pol
/-- What is decided of code that asks: to go to a place (1), to put the two the other way round (2), or nothing (0). -/
def ifD (a2 a5 bh nx ny o : Int) (bx by' : Bool) : Nat × Int :=
  if (o = 0 ∧ a2 = 3) ∨ (bx = true ∧ by' = true ∧ a2 = 4 ∧ nx < ny) then (1, a5)
  else if o = 0 ∨ (bx = true ∧ by' = true) then (1, bh)
  else if a2 = 3 ∧ 0 < o then (2, 0) else (0, 0)
def endD (a2 a5 bh nx ny o : Int) (bx by' : Bool) : Nat × Int :=
  if a2 = 2 then (if bx = true then (1, nx) else (0, 0)) else if a2 = 3 ∨ a2 = 4 then ifD a2 a5 bh nx ny o bx by' else (0, 0)
/-- What a telling is then, as cells and as what they hold. -/
def cellD (d : Nat × Int) (q0 : Option Addr) (n0 c0 : Nat) (q1 : Option Addr) (n1 c1 : Nat) (a2 : Int) (q3 : Option Addr) (n3 c3 : Nat) (q4 : Option Addr) (n4 c4 : Nat) (a5 : Int) : List Value :=
  if d.1 = 0 then [.slice q0 n0 c0, .slice q1 n1 c1, .int .i64 a2, .slice q3 n3 c3, .slice q4 n4 c4, .int .i64 a5] else if d.1 = 1 then [.slice q0 n0 c0, .slice q1 n1 c1, .int .i64 1, .slice none 0 0, .slice none 0 0, .int .i64 d.2] else [.slice q0 n0 c0, .slice q1 n1 c1, .int .i64 a2, .slice q4 n4 c4, .slice q3 n3 c3, .int .i64 a5]
abbrev Sym6 := List (Int × Int × List Mono × List Mono × List (List Mono)) × List (List Mono) × Int × List Mono × List Mono × Int
def symD (d : Nat × Int) (s : Sym6) : Sym6 := if d.1 = 0 then s else if d.1 = 1 then (s.1, s.2.1, 1, [], [], d.2) else (s.1, s.2.1, s.2.2.1, s.2.2.2.2.1, s.2.2.2.1, s.2.2.2.2.2)
theorem poly_nil (w : World) (A : Nat → Prop) : polyK.ow w A (.slice none 0 0) [] := LOw.nil monoR w A
theorem cellD_ow {w : World} {A : Nat → Prop} {x0 : List (Int × Int × List Mono × List Mono × List (List Mono))} {x1 : List (List Mono)} {a2 : Int} {x3 x4 : List Mono} {a5 : Int} {q0 q1 q3 q4 : Option Addr} {n0 n1 n3 n4 c0 c1 c3 c4 : Nat} (h : symR.ow w A [.slice q0 n0 c0, .slice q1 n1 c1, .int .i64 a2, .slice q3 n3 c3, .slice q4 n4 c4, .int .i64 a5] (x0, x1, a2, x3, x4, a5)) (d : Nat × Int) :
    symR.ow w A (cellD d q0 n0 c0 q1 n1 c1 a2 q3 n3 c3 q4 n4 c4 a5) (symD d (x0, x1, a2, x3, x4, a5)) := by
  unfold cellD symD
  by_cases e0 : d.1 = 0
  · rw [if_pos e0, if_pos e0]
    exact h
  rw [if_neg e0, if_neg e0]
  obtain ⟨q0', c0', q1', c1', q3', c3', q4', c4', A0, A1, A3, A4, e, k0, k1, k3, k4, s0, s1, s3, s4, d01, d03, d04, d13, d14, d34⟩ := symR_own h
  cases e
  by_cases e1 : d.1 = 1
  · rw [if_pos e1, if_pos e1]
    exact symR_omk (A3 := fun _ => False) (A4 := fun _ => False) k0 k1 (poly_nil _ _) (poly_nil _ _) s0 s1 (fun _ h => h.elim) (fun _ h => h.elim) d01 (fun _ _ h => h) (fun _ _ h => h) (fun _ _ h => h) (fun _ _ h => h) (fun _ _ h => h)
  · rw [if_neg e1, if_neg e1]
    exact symR_omk k0 k1 k4 k3 s0 s1 s4 s3 d01 d04 d03 d14 d13 (fun b h1 h2 => d34 b h2 h1)
theorem specOrdD (p q : List Mono) (v v' : Value) (w : World) (h : polyK.rd w v p) (h' : polyK.rd w v' q) :
    Calls Try.prog 18 #[.agg #[v], .agg #[v']] w fun e w' => e = .returned (.int .i64 (ordP p q)) ∧ Below w.heap.size w w' := by
  obtain ⟨B, hr⟩ := poly_to h
  obtain ⟨B', hr'⟩ := poly_to h'
  exact specOrder p q B B' v v' w hr hr'
theorem implOrdD (p q : List Mono) (v v' : Value) (w : World) (h : polyK.rd w v p) (h' : polyK.rd w v' q) :
    Calls Try.prog 54 #[.agg #[v], .agg #[v']] w fun e w' => e = .returned (.int .i64 (ordP p q)) ∧ Below w.heap.size w w' := by
  obtain ⟨B, hr⟩ := poly_to h
  obtain ⟨B', hr'⟩ := poly_to h'
  exact implOrder p q B B' v v' w hr hr'
theorem specNumD (p : List Mono) (v : Value) (w : World) (h : polyK.rd w v p) : Calls Try.prog 33 #[.agg #[v]] w fun e w' => e = .returned (.tuple #[.int .i64 (numP p).1, .bool (numP p).2]) ∧ Below w.heap.size w w' := by
  obtain ⟨B, hr⟩ := poly_to h
  exact specNum p B v w hr
theorem implNumD (p : List Mono) (v : Value) (w : World) (h : polyK.rd w v p) : Calls Try.prog 78 #[.agg #[v]] w fun e w' => e = .returned (.tuple #[.int .i64 (numP p).1, .bool (numP p).2]) ∧ Below w.heap.size w w' := by
  obtain ⟨B, hr⟩ := poly_to h
  exact implNum p B v w hr
set_option maxRecDepth 8000 in
set_option maxHeartbeats 8000000 in
theorem l8Go (q0 : Option Addr) (n0 c0 : Nat) (q1 : Option Addr) (n1 c1 : Nat) (a2 : Int) (q3 : Option Addr) (n3 c3 : Nat) (q4 : Option Addr) (n4 c4 : Nat) (a5 : Int) (k : Int) (w : World) : Calls Try.prog 34 #[.agg #[.slice q0 n0 c0, .slice q1 n1 c1, .int .i64 a2, .slice q3 n3 c3, .slice q4 n4 c4, .int .i64 a5], .int .i64 k] w fun e w' => e = .returned (.agg #[.slice q0 n0 c0, .slice q1 n1 c1, .int .i64 1, .slice none 0 0, .slice none 0 0, .int .i64 k]) ∧ Below w.heap.size w w' := by
  have R0 := (Rec.new w [.slice q0 n0 c0, .slice q1 n1 c1, .int .i64 a2, .slice q3 n3 c3, .slice q4 n4 c4, .int .i64 a5] 37).alloc (.cells #[.slice none 0 0, .slice none 0 0, .int .i64 0, .slice none 0 0, .slice none 0 0, .int .i64 0] 37)
  have R1 := Rec.new (w.alloc (.cells #[.slice q0 n0 c0, .slice q1 n1 c1, .int .i64 a2, .slice q3 n3 c3, .slice q4 n4 c4, .int .i64 a5] 37)) [.slice none 0 0, .slice none 0 0, .int .i64 0, .slice none 0 0, .slice none 0 0, .int .i64 0] 37
  rw [show (w.alloc (.cells #[.slice q0 n0 c0, .slice q1 n1 c1, .int .i64 a2, .slice q3 n3 c3, .slice q4 n4 c4, .int .i64 a5] 37)).heap.size = w.heap.size + 1 by simp] at R1
  have b0 : Below w.heap.size w ((w.alloc (.cells #[.slice q0 n0 c0, .slice q1 n1 c1, .int .i64 a2, .slice q3 n3 c3, .slice q4 n4 c4, .int .i64 a5] 37)).alloc (.cells #[.slice none 0 0, .slice none 0 0, .int .i64 0, .slice none 0 0, .slice none 0 0, .int .i64 0] 37)) := ((Below.refl _ _).alloc (Nat.le_refl _) _).alloc (by simp) _
  have RS := hide R0
  have RZ := hide R1
  have BW := hide b0
  clear R0 R1 b0
  go_enter Try.func34, Try.ntmps34
  go_wp2_with (refine putSymSym_2 rfl rfl _ _ rfl w.heap.size 2 _ RS.out (by simp) rfl _ rfl ?_; intro p1 RB TB; refine Hid.out ?_)
  replace RS : Hid (Rec w.heap.size [.slice q0 n0 c0, .slice q1 n1 c1, .int .i64 1, .slice q3 n3 c3, .slice q4 n4 c4, .int .i64 a5] p1) := RB
  replace RZ := hide (RZ.out.turn TB.out (by omega))
  replace BW := hide (BW.out.trans (TB.out.below (Nat.le_refl _) BW.out.size))
  clear RB TB
  refine hide ?_
  go_wp2_with (refine putSymSym_3 rfl rfl _ _ rfl w.heap.size 3 _ RS.out (by simp) rfl _ _ _ rfl ?_; intro p2 RB TB; refine Hid.out ?_)
  replace RS : Hid (Rec w.heap.size [.slice q0 n0 c0, .slice q1 n1 c1, .int .i64 1, .slice none 0 0, .slice q4 n4 c4, .int .i64 a5] p2) := RB
  replace RZ := hide (RZ.out.turn TB.out (by omega))
  replace BW := hide (BW.out.trans (TB.out.below (Nat.le_refl _) BW.out.size))
  clear RB TB
  refine hide ?_
  go_wp2_with (refine putSymSym_3 rfl rfl _ _ rfl w.heap.size 4 _ RS.out (by simp) rfl _ _ _ rfl ?_; intro p3 RB TB; refine Hid.out ?_)
  replace RS : Hid (Rec w.heap.size [.slice q0 n0 c0, .slice q1 n1 c1, .int .i64 1, .slice none 0 0, .slice none 0 0, .int .i64 a5] p3) := RB
  replace RZ := hide (RZ.out.turn TB.out (by omega))
  replace BW := hide (BW.out.trans (TB.out.below (Nat.le_refl _) BW.out.size))
  clear RB TB
  refine hide ?_
  go_wp2_with (refine putSymSym_2 rfl rfl _ _ rfl w.heap.size 5 _ RS.out (by simp) rfl _ rfl ?_; intro p4 RB TB; refine Hid.out ?_)
  replace RS : Hid (Rec w.heap.size [.slice q0 n0 c0, .slice q1 n1 c1, .int .i64 1, .slice none 0 0, .slice none 0 0, .int .i64 k] p4) := RB
  replace RZ := hide (RZ.out.turn TB.out (by omega))
  replace BW := hide (BW.out.trans (TB.out.below (Nat.le_refl _) BW.out.size))
  clear RB TB
  refine hide ?_
  have z0 := RS.out.cell 0 _ rfl
  have z1 := RS.out.cell 1 _ rfl
  have z2 := RS.out.cell 2 _ rfl
  have z3 := RS.out.cell 3 _ rfl
  have z4 := RS.out.cell 4 _ rfl
  have z5 := RS.out.cell 5 _ rfl
  go_wp2_with (refine laySymSym rfl rfl _ _ rfl (w.heap.size + 1) _ _ _ _ _ _ RZ.out rfl _ _ _ _ _ _ _ _ _ _ _ _ _ _ rfl ?_; intro p5 RB TB; refine Hid.out ?_)
  replace BW := hide (BW.out.trans (TB.out.below (by omega) BW.out.size))
  clear TB
  refine hide ?_
  have y0 := RB.out.cell 0 _ rfl
  have y1 := RB.out.cell 1 _ rfl
  have y2 := RB.out.cell 2 _ rfl
  have y3 := RB.out.cell 3 _ rfl
  have y4 := RB.out.cell 4 _ rfl
  have y5 := RB.out.cell 5 _ rfl
  go_wp2
  exact bodyPost_ret (v := .agg #[.slice q0 n0 c0, .slice q1 n1 c1, .int .i64 1, .slice none 0 0, .slice none 0 0, .int .i64 k]) (by simp [results, Try.results34, go_sem, y0, y1, y2, y3, y4, y5]) rfl ⟨rfl, BW.out⟩
set_option maxRecDepth 8000 in
set_option maxHeartbeats 8000000 in
theorem l8If (q0 : Option Addr) (n0 c0 : Nat) (q1 : Option Addr) (n1 c1 : Nat) (a2 : Int) (q3 : Option Addr) (n3 c3 : Nat) (q4 : Option Addr) (n4 c4 : Nat) (a5 : Int) (bh : Int) (p r : List Mono) (w : World) (hx : polyK.rd w (.slice q3 n3 c3) p) (hy : polyK.rd w (.slice q4 n4 c4) r) :
    Calls Try.prog 35 #[.agg #[.slice q0 n0 c0, .slice q1 n1 c1, .int .i64 a2, .slice q3 n3 c3, .slice q4 n4 c4, .int .i64 a5], .int .i64 bh] w fun e w' => e = .returned (.agg (cellD (ifD a2 a5 bh (numP p).1 (numP r).1 (ordP p r) (numP p).2 (numP r).2) q0 n0 c0 q1 n1 c1 a2 q3 n3 c3 q4 n4 c4 a5).toArray) ∧ Below w.heap.size w w' := by
  obtain ⟨nx, enx⟩ : ∃ z, (numP p).1 = z := ⟨_, rfl⟩
  obtain ⟨ny, eny⟩ : ∃ z, (numP r).1 = z := ⟨_, rfl⟩
  obtain ⟨bx, ebx⟩ : ∃ z, (numP p).2 = z := ⟨_, rfl⟩
  obtain ⟨bY, eby⟩ : ∃ z, (numP r).2 = z := ⟨_, rfl⟩
  obtain ⟨od, eod⟩ : ∃ z, ordP p r = z := ⟨_, rfl⟩
  rw [enx, eny, ebx, eby, eod]
  have NX := hide (And.intro enx ebx)
  have NY := hide (And.intro eny eby)
  have OO := hide eod
  clear enx eny ebx eby eod
  obtain ⟨C, eC⟩ : ∃ C, cellD (ifD a2 a5 bh nx ny od bx bY) q0 n0 c0 q1 n1 c1 a2 q3 n3 c3 q4 n4 c4 a5 = C := ⟨_, rfl⟩
  rw [eC]
  have EC := hide eC
  clear eC
  have R0 := (Rec.new w [.slice q0 n0 c0, .slice q1 n1 c1, .int .i64 a2, .slice q3 n3 c3, .slice q4 n4 c4, .int .i64 a5] 37).alloc (.cells #[.slice none 0 0, .slice none 0 0, .int .i64 0, .slice none 0 0, .slice none 0 0, .int .i64 0] 37)
  have R1 := Rec.new (w.alloc (.cells #[.slice q0 n0 c0, .slice q1 n1 c1, .int .i64 a2, .slice q3 n3 c3, .slice q4 n4 c4, .int .i64 a5] 37)) [.slice none 0 0, .slice none 0 0, .int .i64 0, .slice none 0 0, .slice none 0 0, .int .i64 0] 37
  rw [show (w.alloc (.cells #[.slice q0 n0 c0, .slice q1 n1 c1, .int .i64 a2, .slice q3 n3 c3, .slice q4 n4 c4, .int .i64 a5] 37)).heap.size = w.heap.size + 1 by simp] at R1
  have b0 : Below w.heap.size w ((w.alloc (.cells #[.slice q0 n0 c0, .slice q1 n1 c1, .int .i64 a2, .slice q3 n3 c3, .slice q4 n4 c4, .int .i64 a5] 37)).alloc (.cells #[.slice none 0 0, .slice none 0 0, .int .i64 0, .slice none 0 0, .slice none 0 0, .int .i64 0] 37)) := ((Below.refl _ _).alloc (Nat.le_refl _) _).alloc (by simp) _
  have RS := hide R0
  have RZ := hide R1
  have BW := hide b0
  clear R0 R1 b0
  have HX := hide (polyK.rb hx BW.out)
  have HY := hide (polyK.rb hy BW.out)
  clear hx hy
  go_enter Try.func35, Try.ntmps35
  go_wp2_with fail
  generalize ((w.alloc (.cells #[.slice q0 n0 c0, .slice q1 n1 c1, .int .i64 a2, .slice q3 n3 c3, .slice q4 n4 c4, .int .i64 a5] 37)).alloc (.cells #[.slice none 0 0, .slice none 0 0, .int .i64 0, .slice none 0 0, .slice none 0 0, .int .i64 0] 37)) = W0 at RS RZ BW HX HY ⊢
  refine (specNumD p _ _ HX.out).mono ?_
  rintro e u1 ⟨rfl, hb⟩
  replace HX := hide (polyK.rb HX.out hb)
  replace HY := hide (polyK.rb HY.out hb)
  replace RS := hide (RS.out.below hb)
  replace BW := hide (BW.out.trans (hb.mono BW.out.size))
  replace RZ := hide (RZ.out.below hb)
  clear hb
  rw [NX.out.1, NX.out.2]
  have z0 := RS.out.cell 0 _ rfl
  have z1 := RS.out.cell 1 _ rfl
  have z2 := RS.out.cell 2 _ rfl
  have z3 := RS.out.cell 3 _ rfl
  have z4 := RS.out.cell 4 _ rfl
  have z5 := RS.out.cell 5 _ rfl
  go_wp2_with fail
  refine (specNumD r _ _ HY.out).mono ?_
  rintro e u2 ⟨rfl, hb⟩
  replace HX := hide (polyK.rb HX.out hb)
  replace HY := hide (polyK.rb HY.out hb)
  replace RS := hide (RS.out.below hb)
  replace BW := hide (BW.out.trans (hb.mono BW.out.size))
  replace RZ := hide (RZ.out.below hb)
  clear hb
  rw [NY.out.1, NY.out.2]
  clear z0 z1 z2 z3 z4 z5
  have z0 := RS.out.cell 0 _ rfl
  have z1 := RS.out.cell 1 _ rfl
  have z2 := RS.out.cell 2 _ rfl
  have z3 := RS.out.cell 3 _ rfl
  have z4 := RS.out.cell 4 _ rfl
  have z5 := RS.out.cell 5 _ rfl
  go_wp2_with fail
  refine (specOrdD p r _ _ _ HX.out HY.out).mono ?_
  rintro e u3 ⟨rfl, hb⟩
  replace HX := hide (polyK.rb HX.out hb)
  replace HY := hide (polyK.rb HY.out hb)
  replace RS := hide (RS.out.below hb)
  replace BW := hide (BW.out.trans (hb.mono BW.out.size))
  replace RZ := hide (RZ.out.below hb)
  clear hb
  rw [OO.out]
  clear z0 z1 z2 z3 z4 z5
  have z0 := RS.out.cell 0 _ rfl
  have z1 := RS.out.cell 1 _ rfl
  have z2 := RS.out.cell 2 _ rfl
  have z3 := RS.out.cell 3 _ rfl
  have z4 := RS.out.cell 4 _ rfl
  have z5 := RS.out.cell 5 _ rfl
  by_cases e0 : od = 0
  case pos =>
    subst e0
    by_cases e3 : a2 = 3
    case pos =>
      subst e3
      obtain rfl : [.slice q0 n0 c0, .slice q1 n1 c1, .int .i64 1, .slice none 0 0, .slice none 0 0, .int .i64 a5] = C := (show _ = _ from by unfold cellD ifD; simp []).trans EC.out
      clear EC NX NY OO
      go_wp2_with fail
      refine (l8Go q0 n0 c0 q1 n1 c1 3 q3 n3 c3 q4 n4 c4 a5 a5 _).mono ?_
      rintro e u4 ⟨rfl, hb⟩
      replace RZ := hide (RZ.out.below hb)
      replace BW := hide (BW.out.trans (hb.mono BW.out.size))
      clear hb RS HX HY
      clear z0 z1 z2 z3 z4 z5
      go_wp2_with (refine laySymSym rfl rfl _ _ rfl (w.heap.size + 1) _ _ _ _ _ _ RZ.out rfl _ _ _ _ _ _ _ _ _ _ _ _ _ _ rfl ?_; intro p6 RB TB; refine Hid.out ?_)
      replace BW := hide (BW.out.trans (TB.out.below (by omega) BW.out.size))
      clear TB
      refine hide ?_
      have y0 := RB.out.cell 0 _ rfl
      have y1 := RB.out.cell 1 _ rfl
      have y2 := RB.out.cell 2 _ rfl
      have y3 := RB.out.cell 3 _ rfl
      have y4 := RB.out.cell 4 _ rfl
      have y5 := RB.out.cell 5 _ rfl
      go_wp2
      exact bodyPost_ret (v := .agg #[.slice q0 n0 c0, .slice q1 n1 c1, .int .i64 1, .slice none 0 0, .slice none 0 0, .int .i64 a5]) (by simp [results, Try.results35, go_sem, y0, y1, y2, y3, y4, y5]) rfl ⟨rfl, BW.out⟩
    have b3 : (a2 == 3) = false := by simpa using e3
    cases bx with
    | false =>
      obtain rfl : [.slice q0 n0 c0, .slice q1 n1 c1, .int .i64 1, .slice none 0 0, .slice none 0 0, .int .i64 bh] = C := (show _ = _ from by unfold cellD ifD; simp [e3]).trans EC.out
      clear EC NX NY OO
      go_wp2_with fail
      refine (l8Go q0 n0 c0 q1 n1 c1 a2 q3 n3 c3 q4 n4 c4 a5 bh _).mono ?_
      rintro e u4 ⟨rfl, hb⟩
      replace RZ := hide (RZ.out.below hb)
      replace BW := hide (BW.out.trans (hb.mono BW.out.size))
      clear hb RS HX HY
      clear z0 z1 z2 z3 z4 z5
      go_wp2_with (refine laySymSym rfl rfl _ _ rfl (w.heap.size + 1) _ _ _ _ _ _ RZ.out rfl _ _ _ _ _ _ _ _ _ _ _ _ _ _ rfl ?_; intro p7 RB TB; refine Hid.out ?_)
      replace BW := hide (BW.out.trans (TB.out.below (by omega) BW.out.size))
      clear TB
      refine hide ?_
      have y0 := RB.out.cell 0 _ rfl
      have y1 := RB.out.cell 1 _ rfl
      have y2 := RB.out.cell 2 _ rfl
      have y3 := RB.out.cell 3 _ rfl
      have y4 := RB.out.cell 4 _ rfl
      have y5 := RB.out.cell 5 _ rfl
      go_wp2
      exact bodyPost_ret (v := .agg #[.slice q0 n0 c0, .slice q1 n1 c1, .int .i64 1, .slice none 0 0, .slice none 0 0, .int .i64 bh]) (by simp [results, Try.results35, go_sem, y0, y1, y2, y3, y4, y5]) rfl ⟨rfl, BW.out⟩
    | true =>
    cases bY with
    | false =>
      obtain rfl : [.slice q0 n0 c0, .slice q1 n1 c1, .int .i64 1, .slice none 0 0, .slice none 0 0, .int .i64 bh] = C := (show _ = _ from by unfold cellD ifD; simp [e3]).trans EC.out
      clear EC NX NY OO
      go_wp2_with fail
      refine (l8Go q0 n0 c0 q1 n1 c1 a2 q3 n3 c3 q4 n4 c4 a5 bh _).mono ?_
      rintro e u4 ⟨rfl, hb⟩
      replace RZ := hide (RZ.out.below hb)
      replace BW := hide (BW.out.trans (hb.mono BW.out.size))
      clear hb RS HX HY
      clear z0 z1 z2 z3 z4 z5
      go_wp2_with (refine laySymSym rfl rfl _ _ rfl (w.heap.size + 1) _ _ _ _ _ _ RZ.out rfl _ _ _ _ _ _ _ _ _ _ _ _ _ _ rfl ?_; intro p8 RB TB; refine Hid.out ?_)
      replace BW := hide (BW.out.trans (TB.out.below (by omega) BW.out.size))
      clear TB
      refine hide ?_
      have y0 := RB.out.cell 0 _ rfl
      have y1 := RB.out.cell 1 _ rfl
      have y2 := RB.out.cell 2 _ rfl
      have y3 := RB.out.cell 3 _ rfl
      have y4 := RB.out.cell 4 _ rfl
      have y5 := RB.out.cell 5 _ rfl
      go_wp2
      exact bodyPost_ret (v := .agg #[.slice q0 n0 c0, .slice q1 n1 c1, .int .i64 1, .slice none 0 0, .slice none 0 0, .int .i64 bh]) (by simp [results, Try.results35, go_sem, y0, y1, y2, y3, y4, y5]) rfl ⟨rfl, BW.out⟩
    | true =>
      by_cases e4 : a2 = 4
      case neg =>
        have b4 : (a2 == 4) = false := by simpa using e4
        obtain rfl : [.slice q0 n0 c0, .slice q1 n1 c1, .int .i64 1, .slice none 0 0, .slice none 0 0, .int .i64 bh] = C := (show _ = _ from by unfold cellD ifD; simp [e3, e4]).trans EC.out
        clear EC NX NY OO
        go_wp2_with fail
        refine (l8Go q0 n0 c0 q1 n1 c1 a2 q3 n3 c3 q4 n4 c4 a5 bh _).mono ?_
        rintro e u4 ⟨rfl, hb⟩
        replace RZ := hide (RZ.out.below hb)
        replace BW := hide (BW.out.trans (hb.mono BW.out.size))
        clear hb RS HX HY
        clear z0 z1 z2 z3 z4 z5
        go_wp2_with (refine laySymSym rfl rfl _ _ rfl (w.heap.size + 1) _ _ _ _ _ _ RZ.out rfl _ _ _ _ _ _ _ _ _ _ _ _ _ _ rfl ?_; intro p9 RB TB; refine Hid.out ?_)
        replace BW := hide (BW.out.trans (TB.out.below (by omega) BW.out.size))
        clear TB
        refine hide ?_
        have y0 := RB.out.cell 0 _ rfl
        have y1 := RB.out.cell 1 _ rfl
        have y2 := RB.out.cell 2 _ rfl
        have y3 := RB.out.cell 3 _ rfl
        have y4 := RB.out.cell 4 _ rfl
        have y5 := RB.out.cell 5 _ rfl
        go_wp2
        exact bodyPost_ret (v := .agg #[.slice q0 n0 c0, .slice q1 n1 c1, .int .i64 1, .slice none 0 0, .slice none 0 0, .int .i64 bh]) (by simp [results, Try.results35, go_sem, y0, y1, y2, y3, y4, y5]) rfl ⟨rfl, BW.out⟩
      subst e4
      by_cases el : nx < ny
      case pos =>
        obtain rfl : [.slice q0 n0 c0, .slice q1 n1 c1, .int .i64 1, .slice none 0 0, .slice none 0 0, .int .i64 a5] = C := (show _ = _ from by unfold cellD ifD; simp [e3, el]).trans EC.out
        clear EC NX NY OO
        go_wp2_with fail
        refine (l8Go q0 n0 c0 q1 n1 c1 4 q3 n3 c3 q4 n4 c4 a5 a5 _).mono ?_
        rintro e u4 ⟨rfl, hb⟩
        replace RZ := hide (RZ.out.below hb)
        replace BW := hide (BW.out.trans (hb.mono BW.out.size))
        clear hb RS HX HY
        clear z0 z1 z2 z3 z4 z5
        go_wp2_with (refine laySymSym rfl rfl _ _ rfl (w.heap.size + 1) _ _ _ _ _ _ RZ.out rfl _ _ _ _ _ _ _ _ _ _ _ _ _ _ rfl ?_; intro p10 RB TB; refine Hid.out ?_)
        replace BW := hide (BW.out.trans (TB.out.below (by omega) BW.out.size))
        clear TB
        refine hide ?_
        have y0 := RB.out.cell 0 _ rfl
        have y1 := RB.out.cell 1 _ rfl
        have y2 := RB.out.cell 2 _ rfl
        have y3 := RB.out.cell 3 _ rfl
        have y4 := RB.out.cell 4 _ rfl
        have y5 := RB.out.cell 5 _ rfl
        go_wp2
        exact bodyPost_ret (v := .agg #[.slice q0 n0 c0, .slice q1 n1 c1, .int .i64 1, .slice none 0 0, .slice none 0 0, .int .i64 a5]) (by simp [results, Try.results35, go_sem, y0, y1, y2, y3, y4, y5]) rfl ⟨rfl, BW.out⟩
      obtain rfl : [.slice q0 n0 c0, .slice q1 n1 c1, .int .i64 1, .slice none 0 0, .slice none 0 0, .int .i64 bh] = C := (show _ = _ from by unfold cellD ifD; simp [e3, el]).trans EC.out
      clear EC NX NY OO
      go_wp2_with fail
      refine (l8Go q0 n0 c0 q1 n1 c1 4 q3 n3 c3 q4 n4 c4 a5 bh _).mono ?_
      rintro e u4 ⟨rfl, hb⟩
      replace RZ := hide (RZ.out.below hb)
      replace BW := hide (BW.out.trans (hb.mono BW.out.size))
      clear hb RS HX HY
      clear z0 z1 z2 z3 z4 z5
      go_wp2_with (refine laySymSym rfl rfl _ _ rfl (w.heap.size + 1) _ _ _ _ _ _ RZ.out rfl _ _ _ _ _ _ _ _ _ _ _ _ _ _ rfl ?_; intro p11 RB TB; refine Hid.out ?_)
      replace BW := hide (BW.out.trans (TB.out.below (by omega) BW.out.size))
      clear TB
      refine hide ?_
      have y0 := RB.out.cell 0 _ rfl
      have y1 := RB.out.cell 1 _ rfl
      have y2 := RB.out.cell 2 _ rfl
      have y3 := RB.out.cell 3 _ rfl
      have y4 := RB.out.cell 4 _ rfl
      have y5 := RB.out.cell 5 _ rfl
      go_wp2
      exact bodyPost_ret (v := .agg #[.slice q0 n0 c0, .slice q1 n1 c1, .int .i64 1, .slice none 0 0, .slice none 0 0, .int .i64 bh]) (by simp [results, Try.results35, go_sem, y0, y1, y2, y3, y4, y5]) rfl ⟨rfl, BW.out⟩
  have b0 : (od == 0) = false := by simpa using e0
  cases bx with
  | false =>
    by_cases e3 : a2 = 3
    case neg =>
      have b3 : (a2 == 3) = false := by simpa using e3
      obtain rfl : [.slice q0 n0 c0, .slice q1 n1 c1, .int .i64 a2, .slice q3 n3 c3, .slice q4 n4 c4, .int .i64 a5] = C := (show _ = _ from by unfold cellD ifD; simp [e0, e3]).trans EC.out
      clear EC NX NY OO HX HY
      go_wp2_with (refine laySymSym rfl rfl _ _ rfl (w.heap.size + 1) _ _ _ _ _ _ RZ.out rfl _ _ _ _ _ _ _ _ _ _ _ _ _ _ rfl ?_; intro p12 RB TB; refine Hid.out ?_)
      replace BW := hide (BW.out.trans (TB.out.below (by omega) BW.out.size))
      clear TB
      refine hide ?_
      have y0 := RB.out.cell 0 _ rfl
      have y1 := RB.out.cell 1 _ rfl
      have y2 := RB.out.cell 2 _ rfl
      have y3 := RB.out.cell 3 _ rfl
      have y4 := RB.out.cell 4 _ rfl
      have y5 := RB.out.cell 5 _ rfl
      go_wp2
      exact bodyPost_ret (v := .agg #[.slice q0 n0 c0, .slice q1 n1 c1, .int .i64 a2, .slice q3 n3 c3, .slice q4 n4 c4, .int .i64 a5]) (by simp [results, Try.results35, go_sem, y0, y1, y2, y3, y4, y5]) rfl ⟨rfl, BW.out⟩
    subst e3
    go_wp2_with fail
    refine (specOrdD p r _ _ _ HX.out HY.out).mono ?_
    rintro e u4 ⟨rfl, hb⟩
    replace HX := hide (polyK.rb HX.out hb)
    replace HY := hide (polyK.rb HY.out hb)
    replace RS := hide (RS.out.below hb)
    replace BW := hide (BW.out.trans (hb.mono BW.out.size))
    replace RZ := hide (RZ.out.below hb)
    clear hb
    rw [OO.out]
    clear z0 z1 z2 z3 z4 z5
    have z0 := RS.out.cell 0 _ rfl
    have z1 := RS.out.cell 1 _ rfl
    have z2 := RS.out.cell 2 _ rfl
    have z3 := RS.out.cell 3 _ rfl
    have z4 := RS.out.cell 4 _ rfl
    have z5 := RS.out.cell 5 _ rfl
    by_cases ep : 0 < od
    case neg =>
      have bp : ¬ od > 0 := ep
      obtain rfl : [.slice q0 n0 c0, .slice q1 n1 c1, .int .i64 3, .slice q3 n3 c3, .slice q4 n4 c4, .int .i64 a5] = C := (show _ = _ from by unfold cellD ifD; simp [e0, ep]).trans EC.out
      clear EC NX NY OO HX HY
      go_wp2_with (refine laySymSym rfl rfl _ _ rfl (w.heap.size + 1) _ _ _ _ _ _ RZ.out rfl _ _ _ _ _ _ _ _ _ _ _ _ _ _ rfl ?_; intro p13 RB TB; refine Hid.out ?_)
      replace BW := hide (BW.out.trans (TB.out.below (by omega) BW.out.size))
      clear TB
      refine hide ?_
      have y0 := RB.out.cell 0 _ rfl
      have y1 := RB.out.cell 1 _ rfl
      have y2 := RB.out.cell 2 _ rfl
      have y3 := RB.out.cell 3 _ rfl
      have y4 := RB.out.cell 4 _ rfl
      have y5 := RB.out.cell 5 _ rfl
      go_wp2
      exact bodyPost_ret (v := .agg #[.slice q0 n0 c0, .slice q1 n1 c1, .int .i64 3, .slice q3 n3 c3, .slice q4 n4 c4, .int .i64 a5]) (by simp [results, Try.results35, go_sem, y0, y1, y2, y3, y4, y5]) rfl ⟨rfl, BW.out⟩
    have bp : od > 0 := ep
    obtain rfl : [.slice q0 n0 c0, .slice q1 n1 c1, .int .i64 3, .slice q4 n4 c4, .slice q3 n3 c3, .int .i64 a5] = C := (show _ = _ from by unfold cellD ifD; simp [e0, ep]).trans EC.out
    clear EC NX NY OO HX HY
    have bb : Below u4.heap.size u4 (u4.alloc (.cells #[.slice q3 n3 c3] 35)) := (Below.refl _ _).alloc (Nat.le_refl _) _
    have RX := hide (Rec.new u4 [.slice q3 n3 c3] 35)
    have XL : Hid (w.heap.size + 1 < u4.heap.size) := RZ.out.lt
    replace RS := hide (RS.out.below bb)
    replace RZ := hide (RZ.out.below bb)
    replace BW := hide (BW.out.trans (bb.mono BW.out.size))
    clear bb
    have x0 := RS.out.cell 0 _ rfl
    have x1 := RS.out.cell 1 _ rfl
    have x2 := RS.out.cell 2 _ rfl
    have x3 := RS.out.cell 3 _ rfl
    have x4 := RS.out.cell 4 _ rfl
    have x5 := RS.out.cell 5 _ rfl
    go_wp2_with (refine putSymSym_3 rfl rfl _ _ rfl w.heap.size 3 _ RS.out (by simp) rfl _ _ _ rfl ?_; intro p14 RB TB; refine Hid.out ?_)
    replace RS : Hid (Rec w.heap.size [.slice q0 n0 c0, .slice q1 n1 c1, .int .i64 3, .slice q4 n4 c4, .slice q4 n4 c4, .int .i64 a5] p14) := RB
    replace RZ := hide (RZ.out.turn TB.out (by omega))
    replace RX := hide (RX.out.turn TB.out (by have := XL.out; omega))
    replace BW := hide (BW.out.trans (TB.out.below (Nat.le_refl _) BW.out.size))
    clear RB TB
    refine hide ?_
    clear x0 x1 x2 x3 x4 x5
    have x0 := RX.out.cell 0 _ rfl
    clear z0 z1 z2 z3 z4 z5
    have z0 := RS.out.cell 0 _ rfl
    have z1 := RS.out.cell 1 _ rfl
    have z2 := RS.out.cell 2 _ rfl
    have z3 := RS.out.cell 3 _ rfl
    have z4 := RS.out.cell 4 _ rfl
    have z5 := RS.out.cell 5 _ rfl
    go_wp2_with (refine putSymSym_3 rfl rfl _ _ rfl w.heap.size 4 _ RS.out (by simp) rfl _ _ _ rfl ?_; intro p15 RB TB; refine Hid.out ?_)
    replace RS : Hid (Rec w.heap.size [.slice q0 n0 c0, .slice q1 n1 c1, .int .i64 3, .slice q4 n4 c4, .slice q3 n3 c3, .int .i64 a5] p15) := RB
    replace RZ := hide (RZ.out.turn TB.out (by omega))
    replace BW := hide (BW.out.trans (TB.out.below (Nat.le_refl _) BW.out.size))
    clear RB TB RX x0
    refine hide ?_
    clear z0 z1 z2 z3 z4 z5
    have z0 := RS.out.cell 0 _ rfl
    have z1 := RS.out.cell 1 _ rfl
    have z2 := RS.out.cell 2 _ rfl
    have z3 := RS.out.cell 3 _ rfl
    have z4 := RS.out.cell 4 _ rfl
    have z5 := RS.out.cell 5 _ rfl
    go_wp2_with (refine laySymSym rfl rfl _ _ rfl (w.heap.size + 1) _ _ _ _ _ _ RZ.out rfl _ _ _ _ _ _ _ _ _ _ _ _ _ _ rfl ?_; intro p16 RB TB; refine Hid.out ?_)
    replace BW := hide (BW.out.trans (TB.out.below (by omega) BW.out.size))
    clear TB
    refine hide ?_
    have y0 := RB.out.cell 0 _ rfl
    have y1 := RB.out.cell 1 _ rfl
    have y2 := RB.out.cell 2 _ rfl
    have y3 := RB.out.cell 3 _ rfl
    have y4 := RB.out.cell 4 _ rfl
    have y5 := RB.out.cell 5 _ rfl
    go_wp2
    exact bodyPost_ret (v := .agg #[.slice q0 n0 c0, .slice q1 n1 c1, .int .i64 3, .slice q4 n4 c4, .slice q3 n3 c3, .int .i64 a5]) (by simp [results, Try.results35, go_sem, y0, y1, y2, y3, y4, y5]) rfl ⟨rfl, BW.out⟩
  | true =>
  cases bY with
  | false =>
    by_cases e3 : a2 = 3
    case neg =>
      have b3 : (a2 == 3) = false := by simpa using e3
      obtain rfl : [.slice q0 n0 c0, .slice q1 n1 c1, .int .i64 a2, .slice q3 n3 c3, .slice q4 n4 c4, .int .i64 a5] = C := (show _ = _ from by unfold cellD ifD; simp [e0, e3]).trans EC.out
      clear EC NX NY OO HX HY
      go_wp2_with (refine laySymSym rfl rfl _ _ rfl (w.heap.size + 1) _ _ _ _ _ _ RZ.out rfl _ _ _ _ _ _ _ _ _ _ _ _ _ _ rfl ?_; intro p17 RB TB; refine Hid.out ?_)
      replace BW := hide (BW.out.trans (TB.out.below (by omega) BW.out.size))
      clear TB
      refine hide ?_
      have y0 := RB.out.cell 0 _ rfl
      have y1 := RB.out.cell 1 _ rfl
      have y2 := RB.out.cell 2 _ rfl
      have y3 := RB.out.cell 3 _ rfl
      have y4 := RB.out.cell 4 _ rfl
      have y5 := RB.out.cell 5 _ rfl
      go_wp2
      exact bodyPost_ret (v := .agg #[.slice q0 n0 c0, .slice q1 n1 c1, .int .i64 a2, .slice q3 n3 c3, .slice q4 n4 c4, .int .i64 a5]) (by simp [results, Try.results35, go_sem, y0, y1, y2, y3, y4, y5]) rfl ⟨rfl, BW.out⟩
    subst e3
    go_wp2_with fail
    refine (specOrdD p r _ _ _ HX.out HY.out).mono ?_
    rintro e u4 ⟨rfl, hb⟩
    replace HX := hide (polyK.rb HX.out hb)
    replace HY := hide (polyK.rb HY.out hb)
    replace RS := hide (RS.out.below hb)
    replace BW := hide (BW.out.trans (hb.mono BW.out.size))
    replace RZ := hide (RZ.out.below hb)
    clear hb
    rw [OO.out]
    clear z0 z1 z2 z3 z4 z5
    have z0 := RS.out.cell 0 _ rfl
    have z1 := RS.out.cell 1 _ rfl
    have z2 := RS.out.cell 2 _ rfl
    have z3 := RS.out.cell 3 _ rfl
    have z4 := RS.out.cell 4 _ rfl
    have z5 := RS.out.cell 5 _ rfl
    by_cases ep : 0 < od
    case neg =>
      have bp : ¬ od > 0 := ep
      obtain rfl : [.slice q0 n0 c0, .slice q1 n1 c1, .int .i64 3, .slice q3 n3 c3, .slice q4 n4 c4, .int .i64 a5] = C := (show _ = _ from by unfold cellD ifD; simp [e0, ep]).trans EC.out
      clear EC NX NY OO HX HY
      go_wp2_with (refine laySymSym rfl rfl _ _ rfl (w.heap.size + 1) _ _ _ _ _ _ RZ.out rfl _ _ _ _ _ _ _ _ _ _ _ _ _ _ rfl ?_; intro p18 RB TB; refine Hid.out ?_)
      replace BW := hide (BW.out.trans (TB.out.below (by omega) BW.out.size))
      clear TB
      refine hide ?_
      have y0 := RB.out.cell 0 _ rfl
      have y1 := RB.out.cell 1 _ rfl
      have y2 := RB.out.cell 2 _ rfl
      have y3 := RB.out.cell 3 _ rfl
      have y4 := RB.out.cell 4 _ rfl
      have y5 := RB.out.cell 5 _ rfl
      go_wp2
      exact bodyPost_ret (v := .agg #[.slice q0 n0 c0, .slice q1 n1 c1, .int .i64 3, .slice q3 n3 c3, .slice q4 n4 c4, .int .i64 a5]) (by simp [results, Try.results35, go_sem, y0, y1, y2, y3, y4, y5]) rfl ⟨rfl, BW.out⟩
    have bp : od > 0 := ep
    obtain rfl : [.slice q0 n0 c0, .slice q1 n1 c1, .int .i64 3, .slice q4 n4 c4, .slice q3 n3 c3, .int .i64 a5] = C := (show _ = _ from by unfold cellD ifD; simp [e0, ep]).trans EC.out
    clear EC NX NY OO HX HY
    have bb : Below u4.heap.size u4 (u4.alloc (.cells #[.slice q3 n3 c3] 35)) := (Below.refl _ _).alloc (Nat.le_refl _) _
    have RX := hide (Rec.new u4 [.slice q3 n3 c3] 35)
    have XL : Hid (w.heap.size + 1 < u4.heap.size) := RZ.out.lt
    replace RS := hide (RS.out.below bb)
    replace RZ := hide (RZ.out.below bb)
    replace BW := hide (BW.out.trans (bb.mono BW.out.size))
    clear bb
    have x0 := RS.out.cell 0 _ rfl
    have x1 := RS.out.cell 1 _ rfl
    have x2 := RS.out.cell 2 _ rfl
    have x3 := RS.out.cell 3 _ rfl
    have x4 := RS.out.cell 4 _ rfl
    have x5 := RS.out.cell 5 _ rfl
    go_wp2_with (refine putSymSym_3 rfl rfl _ _ rfl w.heap.size 3 _ RS.out (by simp) rfl _ _ _ rfl ?_; intro p19 RB TB; refine Hid.out ?_)
    replace RS : Hid (Rec w.heap.size [.slice q0 n0 c0, .slice q1 n1 c1, .int .i64 3, .slice q4 n4 c4, .slice q4 n4 c4, .int .i64 a5] p19) := RB
    replace RZ := hide (RZ.out.turn TB.out (by omega))
    replace RX := hide (RX.out.turn TB.out (by have := XL.out; omega))
    replace BW := hide (BW.out.trans (TB.out.below (Nat.le_refl _) BW.out.size))
    clear RB TB
    refine hide ?_
    clear x0 x1 x2 x3 x4 x5
    have x0 := RX.out.cell 0 _ rfl
    clear z0 z1 z2 z3 z4 z5
    have z0 := RS.out.cell 0 _ rfl
    have z1 := RS.out.cell 1 _ rfl
    have z2 := RS.out.cell 2 _ rfl
    have z3 := RS.out.cell 3 _ rfl
    have z4 := RS.out.cell 4 _ rfl
    have z5 := RS.out.cell 5 _ rfl
    go_wp2_with (refine putSymSym_3 rfl rfl _ _ rfl w.heap.size 4 _ RS.out (by simp) rfl _ _ _ rfl ?_; intro p20 RB TB; refine Hid.out ?_)
    replace RS : Hid (Rec w.heap.size [.slice q0 n0 c0, .slice q1 n1 c1, .int .i64 3, .slice q4 n4 c4, .slice q3 n3 c3, .int .i64 a5] p20) := RB
    replace RZ := hide (RZ.out.turn TB.out (by omega))
    replace BW := hide (BW.out.trans (TB.out.below (Nat.le_refl _) BW.out.size))
    clear RB TB RX x0
    refine hide ?_
    clear z0 z1 z2 z3 z4 z5
    have z0 := RS.out.cell 0 _ rfl
    have z1 := RS.out.cell 1 _ rfl
    have z2 := RS.out.cell 2 _ rfl
    have z3 := RS.out.cell 3 _ rfl
    have z4 := RS.out.cell 4 _ rfl
    have z5 := RS.out.cell 5 _ rfl
    go_wp2_with (refine laySymSym rfl rfl _ _ rfl (w.heap.size + 1) _ _ _ _ _ _ RZ.out rfl _ _ _ _ _ _ _ _ _ _ _ _ _ _ rfl ?_; intro p21 RB TB; refine Hid.out ?_)
    replace BW := hide (BW.out.trans (TB.out.below (by omega) BW.out.size))
    clear TB
    refine hide ?_
    have y0 := RB.out.cell 0 _ rfl
    have y1 := RB.out.cell 1 _ rfl
    have y2 := RB.out.cell 2 _ rfl
    have y3 := RB.out.cell 3 _ rfl
    have y4 := RB.out.cell 4 _ rfl
    have y5 := RB.out.cell 5 _ rfl
    go_wp2
    exact bodyPost_ret (v := .agg #[.slice q0 n0 c0, .slice q1 n1 c1, .int .i64 3, .slice q4 n4 c4, .slice q3 n3 c3, .int .i64 a5]) (by simp [results, Try.results35, go_sem, y0, y1, y2, y3, y4, y5]) rfl ⟨rfl, BW.out⟩
  | true =>
    by_cases e4 : a2 = 4
    case neg =>
      have b4 : (a2 == 4) = false := by simpa using e4
      obtain rfl : [.slice q0 n0 c0, .slice q1 n1 c1, .int .i64 1, .slice none 0 0, .slice none 0 0, .int .i64 bh] = C := (show _ = _ from by unfold cellD ifD; simp [e0, e4]).trans EC.out
      clear EC NX NY OO
      go_wp2_with fail
      refine (l8Go q0 n0 c0 q1 n1 c1 a2 q3 n3 c3 q4 n4 c4 a5 bh _).mono ?_
      rintro e u4 ⟨rfl, hb⟩
      replace RZ := hide (RZ.out.below hb)
      replace BW := hide (BW.out.trans (hb.mono BW.out.size))
      clear hb RS HX HY
      clear z0 z1 z2 z3 z4 z5
      go_wp2_with (refine laySymSym rfl rfl _ _ rfl (w.heap.size + 1) _ _ _ _ _ _ RZ.out rfl _ _ _ _ _ _ _ _ _ _ _ _ _ _ rfl ?_; intro p22 RB TB; refine Hid.out ?_)
      replace BW := hide (BW.out.trans (TB.out.below (by omega) BW.out.size))
      clear TB
      refine hide ?_
      have y0 := RB.out.cell 0 _ rfl
      have y1 := RB.out.cell 1 _ rfl
      have y2 := RB.out.cell 2 _ rfl
      have y3 := RB.out.cell 3 _ rfl
      have y4 := RB.out.cell 4 _ rfl
      have y5 := RB.out.cell 5 _ rfl
      go_wp2
      exact bodyPost_ret (v := .agg #[.slice q0 n0 c0, .slice q1 n1 c1, .int .i64 1, .slice none 0 0, .slice none 0 0, .int .i64 bh]) (by simp [results, Try.results35, go_sem, y0, y1, y2, y3, y4, y5]) rfl ⟨rfl, BW.out⟩
    subst e4
    by_cases el : nx < ny
    case pos =>
      obtain rfl : [.slice q0 n0 c0, .slice q1 n1 c1, .int .i64 1, .slice none 0 0, .slice none 0 0, .int .i64 a5] = C := (show _ = _ from by unfold cellD ifD; simp [e0, el]).trans EC.out
      clear EC NX NY OO
      go_wp2_with fail
      refine (l8Go q0 n0 c0 q1 n1 c1 4 q3 n3 c3 q4 n4 c4 a5 a5 _).mono ?_
      rintro e u4 ⟨rfl, hb⟩
      replace RZ := hide (RZ.out.below hb)
      replace BW := hide (BW.out.trans (hb.mono BW.out.size))
      clear hb RS HX HY
      clear z0 z1 z2 z3 z4 z5
      go_wp2_with (refine laySymSym rfl rfl _ _ rfl (w.heap.size + 1) _ _ _ _ _ _ RZ.out rfl _ _ _ _ _ _ _ _ _ _ _ _ _ _ rfl ?_; intro p23 RB TB; refine Hid.out ?_)
      replace BW := hide (BW.out.trans (TB.out.below (by omega) BW.out.size))
      clear TB
      refine hide ?_
      have y0 := RB.out.cell 0 _ rfl
      have y1 := RB.out.cell 1 _ rfl
      have y2 := RB.out.cell 2 _ rfl
      have y3 := RB.out.cell 3 _ rfl
      have y4 := RB.out.cell 4 _ rfl
      have y5 := RB.out.cell 5 _ rfl
      go_wp2
      exact bodyPost_ret (v := .agg #[.slice q0 n0 c0, .slice q1 n1 c1, .int .i64 1, .slice none 0 0, .slice none 0 0, .int .i64 a5]) (by simp [results, Try.results35, go_sem, y0, y1, y2, y3, y4, y5]) rfl ⟨rfl, BW.out⟩
    obtain rfl : [.slice q0 n0 c0, .slice q1 n1 c1, .int .i64 1, .slice none 0 0, .slice none 0 0, .int .i64 bh] = C := (show _ = _ from by unfold cellD ifD; simp [e0, el]).trans EC.out
    clear EC NX NY OO
    go_wp2_with fail
    refine (l8Go q0 n0 c0 q1 n1 c1 4 q3 n3 c3 q4 n4 c4 a5 bh _).mono ?_
    rintro e u4 ⟨rfl, hb⟩
    replace RZ := hide (RZ.out.below hb)
    replace BW := hide (BW.out.trans (hb.mono BW.out.size))
    clear hb RS HX HY
    clear z0 z1 z2 z3 z4 z5
    go_wp2_with (refine laySymSym rfl rfl _ _ rfl (w.heap.size + 1) _ _ _ _ _ _ RZ.out rfl _ _ _ _ _ _ _ _ _ _ _ _ _ _ rfl ?_; intro p24 RB TB; refine Hid.out ?_)
    replace BW := hide (BW.out.trans (TB.out.below (by omega) BW.out.size))
    clear TB
    refine hide ?_
    have y0 := RB.out.cell 0 _ rfl
    have y1 := RB.out.cell 1 _ rfl
    have y2 := RB.out.cell 2 _ rfl
    have y3 := RB.out.cell 3 _ rfl
    have y4 := RB.out.cell 4 _ rfl
    have y5 := RB.out.cell 5 _ rfl
    go_wp2
    exact bodyPost_ret (v := .agg #[.slice q0 n0 c0, .slice q1 n1 c1, .int .i64 1, .slice none 0 0, .slice none 0 0, .int .i64 bh]) (by simp [results, Try.results35, go_sem, y0, y1, y2, y3, y4, y5]) rfl ⟨rfl, BW.out⟩
end Go.Proofs.Ytclccaigkcilcaa.Dt
