/-
  What is reckoned of two sums of atoms: the specification's l5Do.
-/
import Derived.Test.YtggilenddbobnaaGreatAl
import Derived.Test.YtggilenddbobnaaGreatJ11
import Derived.Test.YtggilenddbobnaaGreatJ16
namespace Go.Proofs.YtggilenddbobnaaGreat.Tab
set_option linter.unusedVariables false
set_option linter.unusedSimpArgs false
open Go.ChangeShapes Go.WideShapes Go.ChangeAt Go.RowKit IntS Pol Push
def plP (op : Int) (x y : List Mono) : List Mono := if op = 4 ∨ op = 5 then bitsP op x y else ringP op x y
def plB (op : Int) (x y : List Mono) : Bool := if op = 4 ∨ op = 5 then bitsB op x y else ringB op x y
def doA (op : Int) (x y : List Mono) : At := if op ≠ 2 ∧ 0 < ordP x y then ⟨4, op, y, x⟩ else ⟨4, op, x, y⟩
def doT (ts : List At) (op : Int) (x y : List Mono) : List At := if plB op x y = true then ts else if putN ts (doA op x y) < 0 then [] else putT ts (doA op x y)
def doP (ts : List At) (op : Int) (x y : List Mono) : List Mono := if plB op x y = true then plP op x y else if putN ts (doA op x y) < 0 then [] else atomP (putN ts (doA op x y))
/-- Atoms and a sum, told: the sum's blocks lie behind the atoms'. -/
structure Told2 (w : World) (lo : Nat) (w' : World) (e : Ending) (ts : List At) (p : List Mono) : Prop where
 ex : ∃ q cap cs l m h mid a n c, e = .returned (.tuple #[.agg #[.slice q ts.length cap], .agg #[.slice a n c]]) ∧ OTab w' lo q cap cs l m h ts ∧ (∀ G, q = some ⟨G, 0, none⟩ → G < mid) ∧ (∀ i, i < ts.length → h i ≤ mid) ∧ lo ≤ mid ∧ WPoly w' mid w'.heap.size (.slice a n c) p
 bw : Below lo w w'
theorem told_nil {w u y : World} {lo : Nat} (hlo : lo ≤ w.heap.size) (bw : Below lo w y) : Told2 w lo y (.returned (.tuple #[.agg #[.slice none 0 0], .agg #[.slice none 0 0]])) [] [] :=
 ⟨⟨none, 0, [], _, _, _, lo, none, 0, 0, rfl, OTab.nil _ _, (fun G e => by cases e), (fun i hi => by simp at hi), Nat.le_refl _, WPoly.nil _ _ _⟩, bw⟩
theorem told_cast {w : World} {lo : Nat} {w' : World} {e : Ending} {ts ts' : List At} {p p' : List Mono} (h : Told2 w lo w' e ts p) (ht : ts = ts') (hp : p = p') : Told2 w lo w' e ts' p' := by subst ht hp; exact h
/-- The five blocks of such a function. -/
structure Five (n : Nat) (T X Y : List Value) (u : World) : Prop where
 t : Rec n T u
 x : Rec (n + 1) X u
 y : Rec (n + 1 + 1) Y u
 z : Rec (n + 1 + 1 + 1) [.slice none 0 0] u
 p : Rec (n + 1 + 1 + 1 + 1) [.slice none 0 0] u
theorem Five.below {n : Nat} {T X Y : List Value} {u u' : World} (h : Five n T X Y u) (hb : Below u.heap.size u u') : Five n T X Y u' := ⟨h.t.below hb, h.x.below hb, h.y.below hb, h.z.below hb, h.p.below hb⟩
theorem Five.turn {n B : Nat} {T X Y : List Value} {u u' : World} (h : Five n T X Y u) (ht : Turn B u u') (hB : B < n ∨ n + 4 < B) : Five n T X Y u' := ⟨h.t.turn ht (by omega), h.x.turn ht (by omega), h.y.turn ht (by omega), h.z.turn ht (by omega), h.p.turn ht (by omega)⟩
theorem Five.keep {S : Nat → Prop} {n : Nat} {T X Y : List Value} {u u' : World} (h : Five n T X Y u) (hk : Keep S u u') (hS : ∀ b, n ≤ b → ¬ S b) : Five n T X Y u' := ⟨h.t.keep hk (hS _ (by omega)), h.x.keep hk (hS _ (by omega)), h.y.keep hk (hS _ (by omega)), h.z.keep hk (hS _ (by omega)), h.p.keep hk (hS _ (by omega))⟩
theorem Five.new (w : World) (T X Y : List Value) (t1 t2 t3 t4 t5 : TypeId) : Five w.heap.size T X Y (((((w.alloc (.cells T.toArray t1)).alloc (.cells X.toArray t2)).alloc (.cells Y.toArray t3)).alloc (.cells #[.slice none 0 0] t4)).alloc (.cells #[.slice none 0 0] t5)) ∧ Below w.heap.size w (((((w.alloc (.cells T.toArray t1)).alloc (.cells X.toArray t2)).alloc (.cells Y.toArray t3)).alloc (.cells #[.slice none 0 0] t4)).alloc (.cells #[.slice none 0 0] t5)) := by
 have a := Three.new w T X Y t1 t2 t3
 have sz : (((w.alloc (.cells T.toArray t1)).alloc (.cells X.toArray t2)).alloc (.cells Y.toArray t3)).heap.size = w.heap.size + 1 + 1 + 1 := by simp
 generalize ((w.alloc (.cells T.toArray t1)).alloc (.cells X.toArray t2)).alloc (.cells Y.toArray t3) = V at a sz ⊢
 have rz := Rec.new V [.slice none 0 0] t4
 have rp := Rec.new (V.alloc (.cells #[.slice none 0 0] t4)) [.slice none 0 0] t5
 rw [show (V.alloc (.cells #[.slice none 0 0] t4)).heap.size = w.heap.size + 1 + 1 + 1 + 1 by simp; exact sz] at rp
 rw [sz] at rz
 exact ⟨⟨(a.a.alloc _).alloc _, (a.z.alloc _).alloc _, (a.o.alloc _).alloc _, rz.alloc _, rp⟩, (a.bw.alloc a.bw.size _).alloc (by simp; omega) _⟩
set_option maxRecDepth 8000 in
set_option maxHeartbeats 32000000 in
theorem l5Do (ts : List At) (op : Int) (x y : List Mono) (lo cap : Nat) (q : Option Addr) (cs : List C4) (l m hh : Nat → Nat) (Bx By : Nat) (vx vy : Value) (w : World) (H : OTab w lo q cap cs l m hh ts) (hlo : lo ≤ w.heap.size) (hx : PRow w Bx vx x) (hy : PRow w By vy y) (hl : ts.length ≤ 200) (ox : okP x = true) (oy : okP y = true) :
 Calls Tryz.prog 21 #[.agg #[.slice q ts.length cap], .int .i64 op, .agg #[vx], .agg #[vy]] w fun e w' => Told2 w lo w' e (doT ts op x y) (doP ts op x y) := by
 obtain ⟨qx, cx, offx, rfl, hx'⟩ := hx
 obtain ⟨qy, cy, offy, rfl, hy'⟩ := hy
 have hx : PRow w Bx (.slice qx x.length cx) x := ⟨qx, cx, offx, rfl, hx'⟩
 have hy : PRow w By (.slice qy y.length cy) y := ⟨qy, cy, offy, rfl, hy'⟩
 obtain ⟨f5, bn⟩ := Five.new w [.slice q ts.length cap] [.slice qx x.length cx] [.slice qy y.length cy] 32 35 35 32 35
 have F := hide f5
 have WX := hide hx
 have WY := hide hy
 have HT := hide (H.below bn)
 have BW := hide bn
 have HH : Hid (∀ i, i < ts.length → hh i ≤ w.heap.size) := fun i hi => H.hi hi
 have HG : Hid (∀ G, q = some ⟨G, 0, none⟩ → lo ≤ G ∧ G < w.heap.size) := fun G e => H.q_lt e
 have OX := hide ox
 have OY := hide oy
 clear f5 bn hx hy hx' hy' H ox oy
 obtain ⟨RT, eT⟩ : ∃ RT, doT ts op x y = RT := ⟨_, rfl⟩
 obtain ⟨RP, eP⟩ : ∃ RP, doP ts op x y = RP := ⟨_, rfl⟩
 rw [eT, eP]
 have ET := hide eT
 have EP := hide eP
 unfold doT at ET
 unfold doP at EP
 clear eT eP
 go_enter Tryz.func21, Tryz.ntmps21
 go_wp2_with fail
 generalize (((((w.alloc (.cells #[.slice q ts.length cap] 32)).alloc (.cells #[.slice qx x.length cx] 35)).alloc (.cells #[.slice qy y.length cy] 35)).alloc (.cells #[.slice none 0 0] 32)).alloc (.cells #[.slice none 0 0] 35)) = V at F HT BW ⊢
 have x0 := F.out.x.cell 0 _ rfl
 have y0 := F.out.y.cell 0 _ rfl
 go_wp2_with fail
 refine (l5Ring op x y Bx By _ _ _ (WX.out.below BW.out) (WY.out.below BW.out)).mono ?_
 rintro e u1 ⟨⟨pa, pl, pc, rfl, MW⟩, hb⟩
 clear x0 y0
 have VL : Hid (w.heap.size + 1 + 1 + 1 + 1 < V.heap.size ∧ V.heap.size ≤ u1.heap.size) := ⟨F.out.p.lt, hb.size⟩
 replace MW := hide MW
 replace F := hide (F.out.below hb)
 replace HT := hide (HT.out.below hb)
 replace BW := hide (BW.out.trans (hb.mono BW.out.size))
 clear hb
 have bo : Below u1.heap.size u1 (u1.alloc (.cells #[.slice pa pl pc] 35)) := (Below.refl _ _).alloc (Nat.le_refl _) _
 have PB := hide (Rec.new u1 [.slice pa pl pc] 35)
 have SA : Hid ((u1.alloc (.cells #[.slice pa pl pc] 35)).heap.size = u1.heap.size + 1) := by simp [Hid]
 replace F := hide (F.out.below bo)
 replace HT := hide (HT.out.below bo)
 replace MW := hide (MW.out.below bo)
 replace BW := hide (BW.out.trans (bo.mono BW.out.size))
 clear bo
 by_cases ho : op = 4 ∨ op = 5
 case neg =>
  have PLB : Hid (plB op x y = ringB op x y) := if_neg ho
  have PLP : Hid (plP op x y = plP op x y) := rfl
  have PLP2 : Hid (ringP op x y = plP op x y) := (if_neg ho).symm
  have f4 : (op == 4) = false := beq_eq_false_iff_ne.2 (fun e => ho (Or.inl e))
  have f5 : (op == 5) = false := beq_eq_false_iff_ne.2 (fun e => ho (Or.inr e))
  clear ho
  have HI0 : u1.heap.size ≤ (u1.alloc (.cells #[.slice pa pl pc] 35)).heap.size := by rw [SA.out]; omega
  have ES := SA

  cases eb : ringB op x y with
  | true =>
   have HI : Hid (u1.heap.size ≤ (u1.alloc (.cells #[.slice pa pl pc] 35)).heap.size) := HI0
   have HD : Hid (ts = RT ∧ (plP op x y) = RP) := show _ ∧ _ by
    rw [← ET.out, ← EP.out]
    have e1 : plB op x y = true := by rw [PLB.out]; exact eb
    rw [if_pos e1, if_pos e1]
    exact ⟨rfl, rfl⟩
   clear ET EP eb
   rw [PLP2.out] at MW
   have bA : Below (u1.alloc (.cells #[.slice pa pl pc] 35)).heap.size (u1.alloc (.cells #[.slice pa pl pc] 35)) (u1.alloc (.cells #[.slice pa pl pc] 35)).drew := (Below.refl _ _).drew
   go_wp2_with fail
   refine (wpIn_wide (n := 0)).1 ?_
   replace F := hide (F.out.below bA)
   replace HT := hide (HT.out.below bA)
   replace MW := hide (MW.out.below bA)
   replace PB := hide (PB.out.below bA)
   replace BW := hide (BW.out.trans (bA.mono BW.out.size))
   refine PhaseIn.region (S := fun w' => Rec w.heap.size [.slice q ts.length cap] w' ∧ Rec u1.heap.size [.slice pa pl pc] w') 4 (by kernel_rfl) ?_
   replace HI : Hid (u1.heap.size ≤ (u1.alloc (.cells #[.slice pa pl pc] 35)).drew.heap.size) := HI.out
   generalize (u1.alloc (.cells #[.slice pa pl pc] 35)).drew = d5 at F HT BW MW PB HI ⊢
   have hHeld := And.intro F.out.t PB.out
   clear bA
   refine PhaseIn.takeE (i := 0) (v := ?_) [0, 2, 3] 36 rfl (by rfl) (by kernel_rfl) (fun _ _ _ h => h) (Or.inl ⟨by kernel_rfl, ?_⟩) hHeld ?_
   rotate_left
   · intro w' hSw
     (try dsimp only at hSw)
     have z0 := hSw.1.cell 0 _ rfl
     go_simp
     first | done | with_reducible rfl
   try simp only [Act.put, sA, List.set]
   refine PhaseIn.takeE (i := 1) (v := ?_) [1, 3] 37 rfl (by rfl) (by kernel_rfl) (fun _ _ _ h => h) (Or.inl ⟨by kernel_rfl, ?_⟩) hHeld ?_
   rotate_left
   · intro w' hSw
     (try dsimp only at hSw)
     have z0 := hSw.2.cell 0 _ rfl
     go_simp
     first | done | with_reducible rfl
   try simp only [Act.put, sA, List.set]
   have z0 := F.out.z.cell 0 _ rfl
   have s0 := F.out.z.soft 0
   refine PhaseIn.one (i := 2) (by kernel_rfl) rfl (by kernel_rfl) (fun K hK => ?_)
   unfold Oper.wpIn
   refine ⟨fun _ _ => trivial, ?_⟩
   go_simp
   have t1 : Turn (w.heap.size + 1 + 1 + 1) d5 (d5.setCell ⟨w.heap.size + 1 + 1 + 1, 0, none⟩ (.slice q ts.length cap)) := (Turn.refl _ d5).setCell (p := ⟨w.heap.size + 1 + 1 + 1, 0, none⟩) rfl _
   have hHeld2 := And.intro (hHeld.1.turn t1 (by omega)) (hHeld.2.turn t1 (by have := VL.out; omega))
   refine hK _ _ (fun _ => hHeld2) ?_
   have ZT := hide (F.out.z.set 0 (.slice q ts.length cap) (by simp) rfl)
   have ZP := hide (F.out.p.turn t1 (by omega))
   replace HT := hide (HT.out.apart t1 (fun G e => by have := (HG.out G e).2; omega) (fun i hi => Or.inr (by have := HH.out i hi; omega)))
   replace MW := hide (MW.out.keep (Keep.of_turn t1) (fun b' h1 h2 (h3 : b' = _) => by have := VL.out; omega))
   replace BW := hide (BW.out.trans (t1.below (by omega) BW.out.size))
   replace HI : Hid (u1.heap.size ≤ (d5.setCell ⟨w.heap.size + 1 + 1 + 1, 0, none⟩ (.slice q ts.length cap)).heap.size) := Nat.le_trans HI.out t1.size
   clear hK K z0 s0 hHeld t1 F
   try simp only [Act.put, sA, List.set]
   generalize d5.setCell ⟨w.heap.size + 1 + 1 + 1, 0, none⟩ (.slice q ts.length cap) = d6 at ZT ZP HT MW BW HI hHeld2 ⊢
   have z0 := ZP.out.cell 0 _ rfl
   have s0 := ZP.out.soft 0
   refine PhaseIn.one (i := 3) (by kernel_rfl) rfl (by kernel_rfl) (fun K hK => ?_)
   unfold Oper.wpIn
   refine ⟨fun _ _ => trivial, ?_⟩
   go_simp
   have t2 : Turn (w.heap.size + 1 + 1 + 1 + 1) d6 (d6.setCell ⟨w.heap.size + 1 + 1 + 1 + 1, 0, none⟩ (.slice pa pl pc)) := (Turn.refl _ d6).setCell (p := ⟨w.heap.size + 1 + 1 + 1 + 1, 0, none⟩) rfl _
   have hHeld3 := And.intro (hHeld2.1.turn t2 (by omega)) (hHeld2.2.turn t2 (by have := VL.out; omega))
   refine hK _ _ (fun _ => hHeld3) ?_
   replace ZT := hide (ZT.out.turn t2 (by omega))
   replace ZP := hide (ZP.out.set 0 (.slice pa pl pc) (by simp) rfl)
   replace HT := hide (HT.out.apart t2 (fun G e => by have := (HG.out G e).2; omega) (fun i hi => Or.inr (by have := HH.out i hi; omega)))
   replace MW := hide ((MW.out.keep (Keep.of_turn t2) (fun b' h1 h2 (h3 : b' = _) => by have := VL.out; omega)).wide (lo' := V.heap.size) (hi' := (d6.setCell ⟨w.heap.size + 1 + 1 + 1 + 1, 0, none⟩ (.slice pa pl pc)).heap.size) (Nat.le_refl _) (Nat.le_trans HI.out t2.size))
   replace BW := hide ((BW.out.trans (t2.below (by omega) BW.out.size)).mono hlo)
   clear hK K z0 s0 hHeld2 t2 HI
   try simp only [Act.put, sA, List.set]
   generalize d6.setCell ⟨w.heap.size + 1 + 1 + 1 + 1, 0, none⟩ (.slice pa pl pc) = d7 at ZT ZP HT MW BW hHeld3 ⊢
   refine PhaseIn.done (by kernel_rfl) ?_ _
   have z0 := ZT.out.cell 0 _ rfl
   have z1 := ZP.out.cell 0 _ rfl
   clear hHeld3
   have TF := hide (told_cast ⟨⟨q, cap, cs, l, m, hh, V.heap.size, _, _, _, rfl, HT.out, (fun G e => by have := (HG.out G e).2; have := VL.out; omega), (fun i hi => by have := HH.out i hi; have := VL.out; omega), by have := VL.out; omega, MW.out⟩, BW.out⟩ HD.out.1 HD.out.2 : Told2 w lo d7 (.returned (.tuple #[.agg #[.slice q ts.length cap], .agg #[.slice pa pl pc]])) RT RP)
   go_wp2
   exact bodyPost_ret (v := .tuple #[.agg #[.slice q ts.length cap], .agg #[.slice pa pl pc]]) (by simp [results, Tryz.results21, go_sem, z0, z1]) rfl TF.out
  | false =>
   have PF : Hid (plB op x y = false) := PLB.out.trans eb
   clear eb MW PB
   have x0 := F.out.x.cell 0 _ rfl
   have y0 := F.out.y.cell 0 _ rfl
   have UL0 : Hid (w.heap.size + 1 + 1 + 1 + 1 < (u1.alloc (.cells #[.slice pa pl pc] 35)).heap.size) := F.out.p.lt
   have bo : Below (u1.alloc (.cells #[.slice pa pl pc] 35)).heap.size (u1.alloc (.cells #[.slice pa pl pc] 35)) ((u1.alloc (.cells #[.slice pa pl pc] 35)).alloc (.cells #[.int .i64 4, .int .i64 op, .slice qx x.length cx, .slice qy y.length cy] 63)) := (Below.refl _ _).alloc (Nat.le_refl _) _
   have AR := hide (Rec.new (u1.alloc (.cells #[.slice pa pl pc] 35)) [.int .i64 4, .int .i64 op, .slice qx x.length cx, .slice qy y.length cy] 63)
   replace F := hide (F.out.below bo)
   replace HT := hide (HT.out.below bo)
   replace BW := hide (BW.out.trans (bo.mono BW.out.size))
   clear bo
   have x1 := F.out.x.cell 0 _ rfl
   have y1 := F.out.y.cell 0 _ rfl
   by_cases o2 : op = 2
   · have HA0 : doA op x y = ⟨4, op, x, y⟩ := if_neg (fun h => h.1 o2)
     have g2 : (op != 2) = false := by simp [o2]
     clear o2
     have HA : Hid (doA op x y = ⟨4, op, x, y⟩) := HA0
     rw [HA.out] at ET EP
     have t0 := F.out.t.cell 0 _ rfl
     have c0 := AR.out.cell 0 _ rfl
     have c1 := AR.out.cell 1 _ rfl
     have c2 := AR.out.cell 2 _ rfl
     have c3 := AR.out.cell 3 _ rfl
     go_wp2_with fail
     refine (l5Put ts ⟨4, op, x, y⟩ lo cap q cs l m hh _ _ _ _ Bx By _ HT.out (Nat.le_trans hlo BW.out.size) (WX.out.below BW.out) (WY.out.below BW.out) hl).mono ?_
     rintro e u7 ⟨q', cap', cs', l', m', h', rfl, ON, hk, aw⟩
     clear t0 c0 c1 c2 c3
     have UL : Hid (w.heap.size + 1 + 1 + 1 + 1 < ((u1.alloc (.cells #[.slice pa pl pc] 35)).alloc (.cells #[.int .i64 4, .int .i64 op, .slice qx x.length cx, .slice qy y.length cy] 63)).heap.size) := F.out.p.lt
     have NS : ∀ b', w.heap.size ≤ b' → ¬ (fun b => q = some ⟨b, 0, none⟩) b' := fun b' hb' (e : q = some ⟨b', 0, none⟩) => by have := (HG.out b' e).2; omega
     have AZ := hide (aw (w.heap.size + 1 + 1 + 1) (by have := UL.out; omega) ⟨fun G e => by have := (HG.out G e).2; omega, fun i hi => Or.inr (by have := HH.out i hi; omega)⟩)
     have AP := hide (aw (w.heap.size + 1 + 1 + 1 + 1) (by have := UL.out; omega) ⟨fun G e => by have := (HG.out G e).2; omega, fun i hi => Or.inr (by have := HH.out i hi; omega)⟩)
     replace F := hide (F.out.keep hk NS)
     have BL : Hid (Below lo w u7) := (BW.out.mono hlo).trans (hk.below (Nat.le_trans hlo BW.out.size) (fun k hk' (e : q = some ⟨k, 0, none⟩) => by have := (HG.out k e).1; omega))
     replace UL : Hid (w.heap.size + 1 + 1 + 1 + 1 < u7.heap.size) := F.out.p.lt
     replace ON := hide ON
     clear hk aw NS HT BW AR
     obtain ⟨TT, eTT⟩ : ∃ TT, putT ts ⟨4, op, x, y⟩ = TT := ⟨_, rfl⟩
     obtain ⟨KK, eKK⟩ : ∃ KK, putN ts ⟨4, op, x, y⟩ = KK := ⟨_, rfl⟩
     rw [eTT] at ON AZ AP ET ⊢
     rw [eKK] at ET EP ⊢
     clear eTT eKK HA
     have bo : Below u7.heap.size u7 (u7.alloc (.cells #[.slice q' TT.length cap'] 32)) := (Below.refl _ _).alloc (Nat.le_refl _) _
     have BX := hide (Rec.new u7 [.slice q' TT.length cap'] 32)
     replace F := hide (F.out.below bo)
     have OB : Hid ((∀ G, q' = some ⟨G, 0, none⟩ → G < u7.heap.size) ∧ ∀ i, i < TT.length → h' i ≤ u7.heap.size) := ⟨fun G e => (ON.out.q_lt e).2, fun i hi => ON.out.hi hi⟩
     have SU : Hid ((u7.alloc (.cells #[.slice q' TT.length cap'] 32)).heap.size = u7.heap.size + 1) := by simp [Hid]
     replace ON := hide (ON.out.below bo)
     replace BL := hide (BL.out.trans (bo.mono (Nat.le_trans hlo BL.out.size)))
     clear bo
     by_cases kn : KK < 0
     · have HD : Hid ([] = RT ∧ [] = RP) := show _ ∧ _ by rw [← ET.out, ← EP.out, if_neg (by rw [PF.out]; decide), if_pos kn, if_neg (by rw [PF.out]; decide), if_pos kn]; exact ⟨rfl, rfl⟩
       clear ET EP
       have z0 := F.out.z.cell 0 _ rfl
       have s0 := F.out.z.soft 0
       have z1 := F.out.p.cell 0 _ rfl
       have s1 := F.out.p.soft 0
       have N1 : Turn (w.heap.size + 1 + 1 + 1) (u7.alloc (.cells #[.slice q' TT.length cap'] 32)) ((u7.alloc (.cells #[.slice q' TT.length cap'] 32)).setCell ⟨w.heap.size + 1 + 1 + 1, 0, none⟩ (.slice none 0 0)) := (Turn.refl _ _).setCell (p := ⟨w.heap.size + 1 + 1 + 1, 0, none⟩) rfl _
       have N2 : Turn (w.heap.size + 1 + 1 + 1 + 1) ((u7.alloc (.cells #[.slice q' TT.length cap'] 32)).setCell ⟨w.heap.size + 1 + 1 + 1, 0, none⟩ (.slice none 0 0)) (((u7.alloc (.cells #[.slice q' TT.length cap'] 32)).setCell ⟨w.heap.size + 1 + 1 + 1, 0, none⟩ (.slice none 0 0)).setCell ⟨w.heap.size + 1 + 1 + 1 + 1, 0, none⟩ (.slice none 0 0)) := (Turn.refl _ _).setCell (p := ⟨w.heap.size + 1 + 1 + 1 + 1, 0, none⟩) rfl _
       have R0 := hide ((F.out.z.set 0 (.slice none 0 0) (by simp) rfl).turn N2 (by omega))
       have R1 := hide ((F.out.p.turn N1 (by omega)).set 0 (.slice none 0 0) (by simp) rfl)
       have TF := hide (told_cast (told_nil (u := w) hlo ((BL.out.trans (N1.below (by omega) (Nat.le_trans hlo BL.out.size))).trans (N2.below (by omega) (Nat.le_trans (Nat.le_trans hlo BL.out.size) N1.size)))) HD.out.1 HD.out.2)
       clear F ON BX AZ AP N1 N2
       go_wp2
       generalize (((u7.alloc (.cells #[.slice q' TT.length cap'] 32)).setCell ⟨w.heap.size + 1 + 1 + 1, 0, none⟩ (.slice none 0 0)).setCell ⟨w.heap.size + 1 + 1 + 1 + 1, 0, none⟩ (.slice none 0 0)) = y9 at R0 R1 TF ⊢
       have r0 := R0.out.cell 0 _ rfl
       have r1 := R1.out.cell 0 _ rfl
       exact bodyPost_ret (v := .tuple #[.agg #[.slice none 0 0], .agg #[.slice none 0 0]]) (by simp [results, Tryz.results21, go_sem, r0, r1]) rfl TF.out
     have HD : Hid (TT = RT ∧ atomP KK = RP) := show _ ∧ _ by rw [← ET.out, ← EP.out, if_neg (by rw [PF.out]; decide), if_neg kn, if_neg (by rw [PF.out]; decide), if_neg kn]; exact ⟨rfl, rfl⟩
     clear ET EP
     have bA : Below (u7.alloc (.cells #[.slice q' TT.length cap'] 32)).heap.size (u7.alloc (.cells #[.slice q' TT.length cap'] 32)) (u7.alloc (.cells #[.slice q' TT.length cap'] 32)).drew := (Below.refl _ _).drew
     go_wp2_with fail
     refine (wpIn_wide (n := 0)).1 ?_
     replace F := hide (F.out.below bA)
     replace BX := hide (BX.out.below bA)
     replace ON := hide (ON.out.below bA)
     replace BL := hide (BL.out.trans (bA.mono (Nat.le_trans hlo BL.out.size)))
     refine PhaseIn.region (S := fun w' => Rec u7.heap.size [.slice q' TT.length cap'] w' ∧ True) 5 (by kernel_rfl) ?_
     have SD : Hid (u7.heap.size < (u7.alloc (.cells #[.slice q' TT.length cap'] 32)).drew.heap.size) := BX.out.lt
     generalize (u7.alloc (.cells #[.slice q' TT.length cap'] 32)).drew = d8 at F BX ON BL SD ⊢
     have hHeld : Rec u7.heap.size [.slice q' TT.length cap'] d8 ∧ True := ⟨BX.out, trivial⟩
     clear bA SU
     refine PhaseIn.takeE (i := 0) (v := ?_) [0, 3, 4] 64 rfl (by rfl) (by kernel_rfl) (fun _ _ _ h => h) (Or.inl ⟨by kernel_rfl, ?_⟩) hHeld ?_
     rotate_left
     · intro w' hSw
       (try dsimp only at hSw)
       have z0 := hSw.1.cell 0 _ rfl
       go_simp
       first | done | with_reducible rfl
     try simp only [Act.put, sA, List.set]
     refine PhaseIn.takeE (i := 1) (v := ?_) [1, 2, 3, 4] 65 rfl (by rfl) (by kernel_rfl) (fun _ _ _ h => h) (Or.inl ⟨by kernel_rfl, ?_⟩) hHeld ?_
     rotate_left
     · intro w' hSw
       (try dsimp only at hSw)
       go_simp
       first | done | with_reducible rfl
     try simp only [Act.put, sA, List.set]
     refine PhaseIn.one (i := 2) (by kernel_rfl) rfl (by kernel_rfl) (fun K hK => ?_)
     unfold Oper.wpIn
     refine ⟨fun _ _ => trivial, ?_⟩
     go_simp
     refine ⟨rfl, (callsIn_wide.2 (specAtom KK _)).mono ?_⟩
     rintro e u9 ⟨ra, rl, rc, rfl, MA, hb⟩
     refine hK _ _ (fun _ => ⟨hHeld.1.below hb, trivial⟩) ?_
     replace hHeld : Rec u7.heap.size [.slice q' TT.length cap'] u9 ∧ True := ⟨hHeld.1.below hb, trivial⟩
     replace MA := hide MA
     have S9 : Hid (d8.heap.size ≤ u9.heap.size) := hb.size
     replace F := hide (F.out.below hb)
     replace ON := hide (ON.out.below hb)
     replace BL := hide (BL.out.trans (hb.mono (Nat.le_trans hlo BL.out.size)))
     clear hK K hb BX
     try simp only [Act.put, sA, List.set]
     have z0 := F.out.z.cell 0 _ rfl
     have s0 := F.out.z.soft 0
     refine PhaseIn.one (i := 3) (by kernel_rfl) rfl (by kernel_rfl) (fun K hK => ?_)
     unfold Oper.wpIn
     refine ⟨fun _ _ => trivial, ?_⟩
     go_simp
     have t1 : Turn (w.heap.size + 1 + 1 + 1) u9 (u9.setCell ⟨w.heap.size + 1 + 1 + 1, 0, none⟩ (.slice q' TT.length cap')) := (Turn.refl _ u9).setCell (p := ⟨w.heap.size + 1 + 1 + 1, 0, none⟩) rfl _
     have hHeld2 : Rec u7.heap.size [.slice q' TT.length cap'] (u9.setCell ⟨w.heap.size + 1 + 1 + 1, 0, none⟩ (.slice q' TT.length cap')) ∧ True := ⟨hHeld.1.turn t1 (by have := UL.out; omega), trivial⟩
     refine hK _ _ (fun _ => hHeld2) ?_
     have ZT := hide (F.out.z.set 0 (.slice q' TT.length cap') (by simp) rfl)
     have ZP := hide (F.out.p.turn t1 (by omega))
     replace ON := hide (ON.out.apart t1 AZ.out.1 AZ.out.2)
     replace MA := hide (MA.out.keep (Keep.of_turn t1) (fun b' h1 h2 (h3 : b' = _) => by have := UL.out; have := SD.out; omega))
     replace BL := hide (BL.out.trans (t1.below (by omega) (Nat.le_trans hlo BL.out.size)))
     have S10 : Hid (u9.heap.size ≤ (u9.setCell ⟨w.heap.size + 1 + 1 + 1, 0, none⟩ (.slice q' TT.length cap')).heap.size) := t1.size
     clear hK K z0 s0 hHeld t1 F
     try simp only [Act.put, sA, List.set]
     generalize u9.setCell ⟨w.heap.size + 1 + 1 + 1, 0, none⟩ (.slice q' TT.length cap') = v6 at ZT ZP ON MA BL S10 hHeld2 ⊢
     have z0 := ZP.out.cell 0 _ rfl
     have s0 := ZP.out.soft 0
     refine PhaseIn.one (i := 4) (by kernel_rfl) rfl (by kernel_rfl) (fun K hK => ?_)
     unfold Oper.wpIn
     refine ⟨fun _ _ => trivial, ?_⟩
     go_simp
     have t2 : Turn (w.heap.size + 1 + 1 + 1 + 1) v6 (v6.setCell ⟨w.heap.size + 1 + 1 + 1 + 1, 0, none⟩ (.slice ra rl rc)) := (Turn.refl _ v6).setCell (p := ⟨w.heap.size + 1 + 1 + 1 + 1, 0, none⟩) rfl _
     have hHeld3 : Rec u7.heap.size [.slice q' TT.length cap'] (v6.setCell ⟨w.heap.size + 1 + 1 + 1 + 1, 0, none⟩ (.slice ra rl rc)) ∧ True := ⟨hHeld2.1.turn t2 (by have := UL.out; omega), trivial⟩
     refine hK _ _ (fun _ => hHeld3) ?_
     replace ZT := hide (ZT.out.turn t2 (by omega))
     replace ZP := hide (ZP.out.set 0 (.slice ra rl rc) (by simp) rfl)
     replace ON := hide (ON.out.apart t2 AP.out.1 AP.out.2)
     replace MA := hide ((MA.out.keep (Keep.of_turn t2) (fun b' h1 h2 (h3 : b' = _) => by have := UL.out; have := SD.out; omega)).wide (lo' := d8.heap.size) (hi' := (v6.setCell ⟨w.heap.size + 1 + 1 + 1 + 1, 0, none⟩ (.slice ra rl rc)).heap.size) (Nat.le_refl _) (Nat.le_trans S10.out t2.size))
     replace BL := hide (BL.out.trans (t2.below (by omega) (Nat.le_trans hlo BL.out.size)))
     clear hK K z0 s0 hHeld2 t2
     try simp only [Act.put, sA, List.set]
     generalize v6.setCell ⟨w.heap.size + 1 + 1 + 1 + 1, 0, none⟩ (.slice ra rl rc) = v7 at ZT ZP ON MA BL hHeld3 ⊢
     refine PhaseIn.done (by kernel_rfl) ?_ _
     have z0 := ZT.out.cell 0 _ rfl
     have z1 := ZP.out.cell 0 _ rfl
     clear hHeld3
     have TF := hide (told_cast ⟨⟨q', cap', cs', l', m', h', d8.heap.size, _, _, _, rfl, ON.out, (fun G e => by have := OB.out.1 G e; have := SD.out; omega), (fun i hi => by have := OB.out.2 i hi; have := SD.out; omega), by have := SD.out; have := UL.out; omega, MA.out⟩, BL.out⟩ HD.out.1 HD.out.2 : Told2 w lo v7 (.returned (.tuple #[.agg #[(.slice q' TT.length cap')], .agg #[(.slice ra rl rc)]])) RT RP)
     go_wp2
     exact bodyPost_ret (v := .tuple #[.agg #[(.slice q' TT.length cap')], .agg #[(.slice ra rl rc)]]) (by simp [results, Tryz.results21, go_sem, z0, z1]) rfl TF.out
   have g2 : (op != 2) = true := by simp [o2]
   have O2 := hide o2
   clear o2
   go_wp2_with fail
   refine (specOrder x y Bx By _ _ _ (WX.out.below BW.out) (WY.out.below BW.out)).mono ?_
   rintro e u6 ⟨rfl, hb⟩
   replace F := hide (F.out.below hb)
   replace HT := hide (HT.out.below hb)
   replace AR := hide (AR.out.below hb)
   replace BW := hide (BW.out.trans (hb.mono BW.out.size))
   clear hb x0 y0 x1 y1
   obtain ⟨od, eod⟩ : ∃ od, ordP x y = od := ⟨_, rfl⟩
   have EO := hide eod
   rw [eod]
   clear eod
   by_cases od0 : 0 < od
   case neg =>
    have HA0 : doA op x y = ⟨4, op, x, y⟩ := if_neg (fun h => od0 (by have := h.2; rw [EO.out] at this; exact this))
    have es : (u1.alloc (.cells #[.slice pa pl pc] 35)).heap.size = u1.heap.size + 1 := ES.out
    rw [es] at AR UL0
    clear es
    have HA : Hid (doA op x y = ⟨4, op, x, y⟩) := HA0
    rw [HA.out] at ET EP
    have t0 := F.out.t.cell 0 _ rfl
    have c0 := AR.out.cell 0 _ rfl
    have c1 := AR.out.cell 1 _ rfl
    have c2 := AR.out.cell 2 _ rfl
    have c3 := AR.out.cell 3 _ rfl
    go_wp2_with fail
    refine (l5Put ts ⟨4, op, x, y⟩ lo cap q cs l m hh _ _ _ _ Bx By _ HT.out (Nat.le_trans hlo BW.out.size) (WX.out.below BW.out) (WY.out.below BW.out) hl).mono ?_
    rintro e u7 ⟨q', cap', cs', l', m', h', rfl, ON, hk, aw⟩
    clear t0 c0 c1 c2 c3
    have UL : Hid (w.heap.size + 1 + 1 + 1 + 1 < u6.heap.size) := F.out.p.lt
    have NS : ∀ b', w.heap.size ≤ b' → ¬ (fun b => q = some ⟨b, 0, none⟩) b' := fun b' hb' (e : q = some ⟨b', 0, none⟩) => by have := (HG.out b' e).2; omega
    have AZ := hide (aw (w.heap.size + 1 + 1 + 1) (by have := UL.out; omega) ⟨fun G e => by have := (HG.out G e).2; omega, fun i hi => Or.inr (by have := HH.out i hi; omega)⟩)
    have AP := hide (aw (w.heap.size + 1 + 1 + 1 + 1) (by have := UL.out; omega) ⟨fun G e => by have := (HG.out G e).2; omega, fun i hi => Or.inr (by have := HH.out i hi; omega)⟩)
    replace F := hide (F.out.keep hk NS)
    have BL : Hid (Below lo w u7) := (BW.out.mono hlo).trans (hk.below (Nat.le_trans hlo BW.out.size) (fun k hk' (e : q = some ⟨k, 0, none⟩) => by have := (HG.out k e).1; omega))
    replace UL : Hid (w.heap.size + 1 + 1 + 1 + 1 < u7.heap.size) := F.out.p.lt
    replace ON := hide ON
    clear hk aw NS HT BW AR
    obtain ⟨TT, eTT⟩ : ∃ TT, putT ts ⟨4, op, x, y⟩ = TT := ⟨_, rfl⟩
    obtain ⟨KK, eKK⟩ : ∃ KK, putN ts ⟨4, op, x, y⟩ = KK := ⟨_, rfl⟩
    rw [eTT] at ON AZ AP ET ⊢
    rw [eKK] at ET EP ⊢
    clear eTT eKK HA
    have bo : Below u7.heap.size u7 (u7.alloc (.cells #[.slice q' TT.length cap'] 32)) := (Below.refl _ _).alloc (Nat.le_refl _) _
    have BX := hide (Rec.new u7 [.slice q' TT.length cap'] 32)
    replace F := hide (F.out.below bo)
    have OB : Hid ((∀ G, q' = some ⟨G, 0, none⟩ → G < u7.heap.size) ∧ ∀ i, i < TT.length → h' i ≤ u7.heap.size) := ⟨fun G e => (ON.out.q_lt e).2, fun i hi => ON.out.hi hi⟩
    have SU : Hid ((u7.alloc (.cells #[.slice q' TT.length cap'] 32)).heap.size = u7.heap.size + 1) := by simp [Hid]
    replace ON := hide (ON.out.below bo)
    replace BL := hide (BL.out.trans (bo.mono (Nat.le_trans hlo BL.out.size)))
    clear bo
    by_cases kn : KK < 0
    · have HD : Hid ([] = RT ∧ [] = RP) := show _ ∧ _ by rw [← ET.out, ← EP.out, if_neg (by rw [PF.out]; decide), if_pos kn, if_neg (by rw [PF.out]; decide), if_pos kn]; exact ⟨rfl, rfl⟩
      clear ET EP
      have z0 := F.out.z.cell 0 _ rfl
      have s0 := F.out.z.soft 0
      have z1 := F.out.p.cell 0 _ rfl
      have s1 := F.out.p.soft 0
      have N1 : Turn (w.heap.size + 1 + 1 + 1) (u7.alloc (.cells #[.slice q' TT.length cap'] 32)) ((u7.alloc (.cells #[.slice q' TT.length cap'] 32)).setCell ⟨w.heap.size + 1 + 1 + 1, 0, none⟩ (.slice none 0 0)) := (Turn.refl _ _).setCell (p := ⟨w.heap.size + 1 + 1 + 1, 0, none⟩) rfl _
      have N2 : Turn (w.heap.size + 1 + 1 + 1 + 1) ((u7.alloc (.cells #[.slice q' TT.length cap'] 32)).setCell ⟨w.heap.size + 1 + 1 + 1, 0, none⟩ (.slice none 0 0)) (((u7.alloc (.cells #[.slice q' TT.length cap'] 32)).setCell ⟨w.heap.size + 1 + 1 + 1, 0, none⟩ (.slice none 0 0)).setCell ⟨w.heap.size + 1 + 1 + 1 + 1, 0, none⟩ (.slice none 0 0)) := (Turn.refl _ _).setCell (p := ⟨w.heap.size + 1 + 1 + 1 + 1, 0, none⟩) rfl _
      have R0 := hide ((F.out.z.set 0 (.slice none 0 0) (by simp) rfl).turn N2 (by omega))
      have R1 := hide ((F.out.p.turn N1 (by omega)).set 0 (.slice none 0 0) (by simp) rfl)
      have TF := hide (told_cast (told_nil (u := w) hlo ((BL.out.trans (N1.below (by omega) (Nat.le_trans hlo BL.out.size))).trans (N2.below (by omega) (Nat.le_trans (Nat.le_trans hlo BL.out.size) N1.size)))) HD.out.1 HD.out.2)
      clear F ON BX AZ AP N1 N2
      go_wp2
      generalize (((u7.alloc (.cells #[.slice q' TT.length cap'] 32)).setCell ⟨w.heap.size + 1 + 1 + 1, 0, none⟩ (.slice none 0 0)).setCell ⟨w.heap.size + 1 + 1 + 1 + 1, 0, none⟩ (.slice none 0 0)) = y9 at R0 R1 TF ⊢
      have r0 := R0.out.cell 0 _ rfl
      have r1 := R1.out.cell 0 _ rfl
      exact bodyPost_ret (v := .tuple #[.agg #[.slice none 0 0], .agg #[.slice none 0 0]]) (by simp [results, Tryz.results21, go_sem, r0, r1]) rfl TF.out
    have HD : Hid (TT = RT ∧ atomP KK = RP) := show _ ∧ _ by rw [← ET.out, ← EP.out, if_neg (by rw [PF.out]; decide), if_neg kn, if_neg (by rw [PF.out]; decide), if_neg kn]; exact ⟨rfl, rfl⟩
    clear ET EP
    have bA : Below (u7.alloc (.cells #[.slice q' TT.length cap'] 32)).heap.size (u7.alloc (.cells #[.slice q' TT.length cap'] 32)) (u7.alloc (.cells #[.slice q' TT.length cap'] 32)).drew := (Below.refl _ _).drew
    go_wp2_with fail
    refine (wpIn_wide (n := 0)).1 ?_
    replace F := hide (F.out.below bA)
    replace BX := hide (BX.out.below bA)
    replace ON := hide (ON.out.below bA)
    replace BL := hide (BL.out.trans (bA.mono (Nat.le_trans hlo BL.out.size)))
    refine PhaseIn.region (S := fun w' => Rec u7.heap.size [.slice q' TT.length cap'] w' ∧ True) 5 (by kernel_rfl) ?_
    have SD : Hid (u7.heap.size < (u7.alloc (.cells #[.slice q' TT.length cap'] 32)).drew.heap.size) := BX.out.lt
    generalize (u7.alloc (.cells #[.slice q' TT.length cap'] 32)).drew = d8 at F BX ON BL SD ⊢
    have hHeld : Rec u7.heap.size [.slice q' TT.length cap'] d8 ∧ True := ⟨BX.out, trivial⟩
    clear bA SU
    refine PhaseIn.takeE (i := 0) (v := ?_) [0, 3, 4] 64 rfl (by rfl) (by kernel_rfl) (fun _ _ _ h => h) (Or.inl ⟨by kernel_rfl, ?_⟩) hHeld ?_
    rotate_left
    · intro w' hSw
      (try dsimp only at hSw)
      have z0 := hSw.1.cell 0 _ rfl
      go_simp
      first | done | with_reducible rfl
    try simp only [Act.put, sA, List.set]
    refine PhaseIn.takeE (i := 1) (v := ?_) [1, 2, 3, 4] 65 rfl (by rfl) (by kernel_rfl) (fun _ _ _ h => h) (Or.inl ⟨by kernel_rfl, ?_⟩) hHeld ?_
    rotate_left
    · intro w' hSw
      (try dsimp only at hSw)
      go_simp
      first | done | with_reducible rfl
    try simp only [Act.put, sA, List.set]
    refine PhaseIn.one (i := 2) (by kernel_rfl) rfl (by kernel_rfl) (fun K hK => ?_)
    unfold Oper.wpIn
    refine ⟨fun _ _ => trivial, ?_⟩
    go_simp
    refine ⟨rfl, (callsIn_wide.2 (specAtom KK _)).mono ?_⟩
    rintro e u9 ⟨ra, rl, rc, rfl, MA, hb⟩
    refine hK _ _ (fun _ => ⟨hHeld.1.below hb, trivial⟩) ?_
    replace hHeld : Rec u7.heap.size [.slice q' TT.length cap'] u9 ∧ True := ⟨hHeld.1.below hb, trivial⟩
    replace MA := hide MA
    have S9 : Hid (d8.heap.size ≤ u9.heap.size) := hb.size
    replace F := hide (F.out.below hb)
    replace ON := hide (ON.out.below hb)
    replace BL := hide (BL.out.trans (hb.mono (Nat.le_trans hlo BL.out.size)))
    clear hK K hb BX
    try simp only [Act.put, sA, List.set]
    have z0 := F.out.z.cell 0 _ rfl
    have s0 := F.out.z.soft 0
    refine PhaseIn.one (i := 3) (by kernel_rfl) rfl (by kernel_rfl) (fun K hK => ?_)
    unfold Oper.wpIn
    refine ⟨fun _ _ => trivial, ?_⟩
    go_simp
    have t1 : Turn (w.heap.size + 1 + 1 + 1) u9 (u9.setCell ⟨w.heap.size + 1 + 1 + 1, 0, none⟩ (.slice q' TT.length cap')) := (Turn.refl _ u9).setCell (p := ⟨w.heap.size + 1 + 1 + 1, 0, none⟩) rfl _
    have hHeld2 : Rec u7.heap.size [.slice q' TT.length cap'] (u9.setCell ⟨w.heap.size + 1 + 1 + 1, 0, none⟩ (.slice q' TT.length cap')) ∧ True := ⟨hHeld.1.turn t1 (by have := UL.out; omega), trivial⟩
    refine hK _ _ (fun _ => hHeld2) ?_
    have ZT := hide (F.out.z.set 0 (.slice q' TT.length cap') (by simp) rfl)
    have ZP := hide (F.out.p.turn t1 (by omega))
    replace ON := hide (ON.out.apart t1 AZ.out.1 AZ.out.2)
    replace MA := hide (MA.out.keep (Keep.of_turn t1) (fun b' h1 h2 (h3 : b' = _) => by have := UL.out; have := SD.out; omega))
    replace BL := hide (BL.out.trans (t1.below (by omega) (Nat.le_trans hlo BL.out.size)))
    have S10 : Hid (u9.heap.size ≤ (u9.setCell ⟨w.heap.size + 1 + 1 + 1, 0, none⟩ (.slice q' TT.length cap')).heap.size) := t1.size
    clear hK K z0 s0 hHeld t1 F
    try simp only [Act.put, sA, List.set]
    generalize u9.setCell ⟨w.heap.size + 1 + 1 + 1, 0, none⟩ (.slice q' TT.length cap') = v6 at ZT ZP ON MA BL S10 hHeld2 ⊢
    have z0 := ZP.out.cell 0 _ rfl
    have s0 := ZP.out.soft 0
    refine PhaseIn.one (i := 4) (by kernel_rfl) rfl (by kernel_rfl) (fun K hK => ?_)
    unfold Oper.wpIn
    refine ⟨fun _ _ => trivial, ?_⟩
    go_simp
    have t2 : Turn (w.heap.size + 1 + 1 + 1 + 1) v6 (v6.setCell ⟨w.heap.size + 1 + 1 + 1 + 1, 0, none⟩ (.slice ra rl rc)) := (Turn.refl _ v6).setCell (p := ⟨w.heap.size + 1 + 1 + 1 + 1, 0, none⟩) rfl _
    have hHeld3 : Rec u7.heap.size [.slice q' TT.length cap'] (v6.setCell ⟨w.heap.size + 1 + 1 + 1 + 1, 0, none⟩ (.slice ra rl rc)) ∧ True := ⟨hHeld2.1.turn t2 (by have := UL.out; omega), trivial⟩
    refine hK _ _ (fun _ => hHeld3) ?_
    replace ZT := hide (ZT.out.turn t2 (by omega))
    replace ZP := hide (ZP.out.set 0 (.slice ra rl rc) (by simp) rfl)
    replace ON := hide (ON.out.apart t2 AP.out.1 AP.out.2)
    replace MA := hide ((MA.out.keep (Keep.of_turn t2) (fun b' h1 h2 (h3 : b' = _) => by have := UL.out; have := SD.out; omega)).wide (lo' := d8.heap.size) (hi' := (v6.setCell ⟨w.heap.size + 1 + 1 + 1 + 1, 0, none⟩ (.slice ra rl rc)).heap.size) (Nat.le_refl _) (Nat.le_trans S10.out t2.size))
    replace BL := hide (BL.out.trans (t2.below (by omega) (Nat.le_trans hlo BL.out.size)))
    clear hK K z0 s0 hHeld2 t2
    try simp only [Act.put, sA, List.set]
    generalize v6.setCell ⟨w.heap.size + 1 + 1 + 1 + 1, 0, none⟩ (.slice ra rl rc) = v7 at ZT ZP ON MA BL hHeld3 ⊢
    refine PhaseIn.done (by kernel_rfl) ?_ _
    have z0 := ZT.out.cell 0 _ rfl
    have z1 := ZP.out.cell 0 _ rfl
    clear hHeld3
    have TF := hide (told_cast ⟨⟨q', cap', cs', l', m', h', d8.heap.size, _, _, _, rfl, ON.out, (fun G e => by have := OB.out.1 G e; have := SD.out; omega), (fun i hi => by have := OB.out.2 i hi; have := SD.out; omega), by have := SD.out; have := UL.out; omega, MA.out⟩, BL.out⟩ HD.out.1 HD.out.2 : Told2 w lo v7 (.returned (.tuple #[.agg #[(.slice q' TT.length cap')], .agg #[(.slice ra rl rc)]])) RT RP)
    go_wp2
    exact bodyPost_ret (v := .tuple #[.agg #[(.slice q' TT.length cap')], .agg #[(.slice ra rl rc)]]) (by simp [results, Tryz.results21, go_sem, z0, z1]) rfl TF.out
   have HA0 : doA op x y = ⟨4, op, y, x⟩ := if_pos ⟨O2.out, by rw [EO.out]; exact od0⟩
   have es : (u1.alloc (.cells #[.slice pa pl pc] 35)).heap.size = u1.heap.size + 1 := ES.out
   rw [es] at AR UL0
   clear es
   have x0 := F.out.x.cell 0 _ rfl
   have y0 := F.out.y.cell 0 _ rfl
   have c0 := AR.out.cell 0 _ rfl
   have c1 := AR.out.cell 1 _ rfl
   have c2 := AR.out.cell 2 _ rfl
   have c3 := AR.out.cell 3 _ rfl
   have s0 := AR.out.soft 0
   have s1 := AR.out.soft 1
   have s2 := AR.out.soft 2
   have s3 := AR.out.soft 3
   have t4 : Turn (u1.heap.size + 1) u6 ((((u6.setCell ⟨u1.heap.size + 1, 0, none⟩ (.int .i64 4)).setCell ⟨u1.heap.size + 1, 1, none⟩ (.int .i64 op)).setCell ⟨u1.heap.size + 1, 2, none⟩ (.slice qy y.length cy)).setCell ⟨u1.heap.size + 1, 3, none⟩ (.slice qx x.length cx)) := (((((Turn.refl (u1.heap.size + 1) u6).setCell (p := ⟨u1.heap.size + 1, 0, none⟩) rfl (.int .i64 4)).setCell (p := ⟨u1.heap.size + 1, 1, none⟩) rfl (.int .i64 op)).setCell (p := ⟨u1.heap.size + 1, 2, none⟩) rfl (.slice qy y.length cy)).setCell (p := ⟨u1.heap.size + 1, 3, none⟩) rfl (.slice qx x.length cx))
   replace AR := hide ((((AR.out.set 0 (.int .i64 4) (by simp) (show _ = ([.int .i64 4, .int .i64 op, .slice qx x.length cx, .slice qy y.length cy] : List Value) from rfl)).set 1 (.int .i64 op) (by simp) (show _ = ([.int .i64 4, .int .i64 op, .slice qx x.length cx, .slice qy y.length cy] : List Value) from rfl)).set 2 (.slice qy y.length cy) (by simp) (show _ = ([.int .i64 4, .int .i64 op, .slice qy y.length cy, .slice qy y.length cy] : List Value) from rfl)).set 3 (.slice qx x.length cx) (by simp) (show _ = ([.int .i64 4, .int .i64 op, .slice qy y.length cy, .slice qx x.length cx] : List Value) from rfl))
   replace F := hide (F.out.turn t4 (Or.inr (by have := UL0.out; omega)))
   replace HT := hide (HT.out.apart t4 (fun G e => by have := (HG.out G e).2; have := UL0.out; omega) (fun i hi => Or.inr (by have := HH.out i hi; have := UL0.out; omega)))
   replace BW := hide (BW.out.trans (t4.below (by have := UL0.out; omega) BW.out.size))
   have t0 := F.out.t.cell 0 _ rfl
   clear t4
   go_wp2_with fail
   generalize ((((u6.setCell ⟨u1.heap.size + 1, 0, none⟩ (.int .i64 4)).setCell ⟨u1.heap.size + 1, 1, none⟩ (.int .i64 op)).setCell ⟨u1.heap.size + 1, 2, none⟩ (.slice qy y.length cy)).setCell ⟨u1.heap.size + 1, 3, none⟩ (.slice qx x.length cx)) = y6 at F HT BW AR t0 ⊢
   clear x0 y0 c0 c1 c2 c3 s0 s1 s2 s3 t0
   have HA : Hid (doA op x y = ⟨4, op, y, x⟩) := HA0
   rw [HA.out] at ET EP
   have t0 := F.out.t.cell 0 _ rfl
   have c0 := AR.out.cell 0 _ rfl
   have c1 := AR.out.cell 1 _ rfl
   have c2 := AR.out.cell 2 _ rfl
   have c3 := AR.out.cell 3 _ rfl
   go_wp2_with fail
   refine (l5Put ts ⟨4, op, y, x⟩ lo cap q cs l m hh _ _ _ _ By Bx _ HT.out (Nat.le_trans hlo BW.out.size) (WY.out.below BW.out) (WX.out.below BW.out) hl).mono ?_
   rintro e u7 ⟨q', cap', cs', l', m', h', rfl, ON, hk, aw⟩
   clear t0 c0 c1 c2 c3
   have UL : Hid (w.heap.size + 1 + 1 + 1 + 1 < y6.heap.size) := F.out.p.lt
   have NS : ∀ b', w.heap.size ≤ b' → ¬ (fun b => q = some ⟨b, 0, none⟩) b' := fun b' hb' (e : q = some ⟨b', 0, none⟩) => by have := (HG.out b' e).2; omega
   have AZ := hide (aw (w.heap.size + 1 + 1 + 1) (by have := UL.out; omega) ⟨fun G e => by have := (HG.out G e).2; omega, fun i hi => Or.inr (by have := HH.out i hi; omega)⟩)
   have AP := hide (aw (w.heap.size + 1 + 1 + 1 + 1) (by have := UL.out; omega) ⟨fun G e => by have := (HG.out G e).2; omega, fun i hi => Or.inr (by have := HH.out i hi; omega)⟩)
   replace F := hide (F.out.keep hk NS)
   have BL : Hid (Below lo w u7) := (BW.out.mono hlo).trans (hk.below (Nat.le_trans hlo BW.out.size) (fun k hk' (e : q = some ⟨k, 0, none⟩) => by have := (HG.out k e).1; omega))
   replace UL : Hid (w.heap.size + 1 + 1 + 1 + 1 < u7.heap.size) := F.out.p.lt
   replace ON := hide ON
   clear hk aw NS HT BW AR
   obtain ⟨TT, eTT⟩ : ∃ TT, putT ts ⟨4, op, y, x⟩ = TT := ⟨_, rfl⟩
   obtain ⟨KK, eKK⟩ : ∃ KK, putN ts ⟨4, op, y, x⟩ = KK := ⟨_, rfl⟩
   rw [eTT] at ON AZ AP ET ⊢
   rw [eKK] at ET EP ⊢
   clear eTT eKK HA
   have bo : Below u7.heap.size u7 (u7.alloc (.cells #[.slice q' TT.length cap'] 32)) := (Below.refl _ _).alloc (Nat.le_refl _) _
   have BX := hide (Rec.new u7 [.slice q' TT.length cap'] 32)
   replace F := hide (F.out.below bo)
   have OB : Hid ((∀ G, q' = some ⟨G, 0, none⟩ → G < u7.heap.size) ∧ ∀ i, i < TT.length → h' i ≤ u7.heap.size) := ⟨fun G e => (ON.out.q_lt e).2, fun i hi => ON.out.hi hi⟩
   have SU : Hid ((u7.alloc (.cells #[.slice q' TT.length cap'] 32)).heap.size = u7.heap.size + 1) := by simp [Hid]
   replace ON := hide (ON.out.below bo)
   replace BL := hide (BL.out.trans (bo.mono (Nat.le_trans hlo BL.out.size)))
   clear bo
   by_cases kn : KK < 0
   · have HD : Hid ([] = RT ∧ [] = RP) := show _ ∧ _ by rw [← ET.out, ← EP.out, if_neg (by rw [PF.out]; decide), if_pos kn, if_neg (by rw [PF.out]; decide), if_pos kn]; exact ⟨rfl, rfl⟩
     clear ET EP
     have z0 := F.out.z.cell 0 _ rfl
     have s0 := F.out.z.soft 0
     have z1 := F.out.p.cell 0 _ rfl
     have s1 := F.out.p.soft 0
     have N1 : Turn (w.heap.size + 1 + 1 + 1) (u7.alloc (.cells #[.slice q' TT.length cap'] 32)) ((u7.alloc (.cells #[.slice q' TT.length cap'] 32)).setCell ⟨w.heap.size + 1 + 1 + 1, 0, none⟩ (.slice none 0 0)) := (Turn.refl _ _).setCell (p := ⟨w.heap.size + 1 + 1 + 1, 0, none⟩) rfl _
     have N2 : Turn (w.heap.size + 1 + 1 + 1 + 1) ((u7.alloc (.cells #[.slice q' TT.length cap'] 32)).setCell ⟨w.heap.size + 1 + 1 + 1, 0, none⟩ (.slice none 0 0)) (((u7.alloc (.cells #[.slice q' TT.length cap'] 32)).setCell ⟨w.heap.size + 1 + 1 + 1, 0, none⟩ (.slice none 0 0)).setCell ⟨w.heap.size + 1 + 1 + 1 + 1, 0, none⟩ (.slice none 0 0)) := (Turn.refl _ _).setCell (p := ⟨w.heap.size + 1 + 1 + 1 + 1, 0, none⟩) rfl _
     have R0 := hide ((F.out.z.set 0 (.slice none 0 0) (by simp) rfl).turn N2 (by omega))
     have R1 := hide ((F.out.p.turn N1 (by omega)).set 0 (.slice none 0 0) (by simp) rfl)
     have TF := hide (told_cast (told_nil (u := w) hlo ((BL.out.trans (N1.below (by omega) (Nat.le_trans hlo BL.out.size))).trans (N2.below (by omega) (Nat.le_trans (Nat.le_trans hlo BL.out.size) N1.size)))) HD.out.1 HD.out.2)
     clear F ON BX AZ AP N1 N2
     go_wp2
     generalize (((u7.alloc (.cells #[.slice q' TT.length cap'] 32)).setCell ⟨w.heap.size + 1 + 1 + 1, 0, none⟩ (.slice none 0 0)).setCell ⟨w.heap.size + 1 + 1 + 1 + 1, 0, none⟩ (.slice none 0 0)) = y9 at R0 R1 TF ⊢
     have r0 := R0.out.cell 0 _ rfl
     have r1 := R1.out.cell 0 _ rfl
     exact bodyPost_ret (v := .tuple #[.agg #[.slice none 0 0], .agg #[.slice none 0 0]]) (by simp [results, Tryz.results21, go_sem, r0, r1]) rfl TF.out
   have HD : Hid (TT = RT ∧ atomP KK = RP) := show _ ∧ _ by rw [← ET.out, ← EP.out, if_neg (by rw [PF.out]; decide), if_neg kn, if_neg (by rw [PF.out]; decide), if_neg kn]; exact ⟨rfl, rfl⟩
   clear ET EP
   have bA : Below (u7.alloc (.cells #[.slice q' TT.length cap'] 32)).heap.size (u7.alloc (.cells #[.slice q' TT.length cap'] 32)) (u7.alloc (.cells #[.slice q' TT.length cap'] 32)).drew := (Below.refl _ _).drew
   go_wp2_with fail
   refine (wpIn_wide (n := 0)).1 ?_
   replace F := hide (F.out.below bA)
   replace BX := hide (BX.out.below bA)
   replace ON := hide (ON.out.below bA)
   replace BL := hide (BL.out.trans (bA.mono (Nat.le_trans hlo BL.out.size)))
   refine PhaseIn.region (S := fun w' => Rec u7.heap.size [.slice q' TT.length cap'] w' ∧ True) 5 (by kernel_rfl) ?_
   have SD : Hid (u7.heap.size < (u7.alloc (.cells #[.slice q' TT.length cap'] 32)).drew.heap.size) := BX.out.lt
   generalize (u7.alloc (.cells #[.slice q' TT.length cap'] 32)).drew = d8 at F BX ON BL SD ⊢
   have hHeld : Rec u7.heap.size [.slice q' TT.length cap'] d8 ∧ True := ⟨BX.out, trivial⟩
   clear bA SU
   refine PhaseIn.takeE (i := 0) (v := ?_) [0, 3, 4] 64 rfl (by rfl) (by kernel_rfl) (fun _ _ _ h => h) (Or.inl ⟨by kernel_rfl, ?_⟩) hHeld ?_
   rotate_left
   · intro w' hSw
     (try dsimp only at hSw)
     have z0 := hSw.1.cell 0 _ rfl
     go_simp
     first | done | with_reducible rfl
   try simp only [Act.put, sA, List.set]
   refine PhaseIn.takeE (i := 1) (v := ?_) [1, 2, 3, 4] 65 rfl (by rfl) (by kernel_rfl) (fun _ _ _ h => h) (Or.inl ⟨by kernel_rfl, ?_⟩) hHeld ?_
   rotate_left
   · intro w' hSw
     (try dsimp only at hSw)
     go_simp
     first | done | with_reducible rfl
   try simp only [Act.put, sA, List.set]
   refine PhaseIn.one (i := 2) (by kernel_rfl) rfl (by kernel_rfl) (fun K hK => ?_)
   unfold Oper.wpIn
   refine ⟨fun _ _ => trivial, ?_⟩
   go_simp
   refine ⟨rfl, (callsIn_wide.2 (specAtom KK _)).mono ?_⟩
   rintro e u9 ⟨ra, rl, rc, rfl, MA, hb⟩
   refine hK _ _ (fun _ => ⟨hHeld.1.below hb, trivial⟩) ?_
   replace hHeld : Rec u7.heap.size [.slice q' TT.length cap'] u9 ∧ True := ⟨hHeld.1.below hb, trivial⟩
   replace MA := hide MA
   have S9 : Hid (d8.heap.size ≤ u9.heap.size) := hb.size
   replace F := hide (F.out.below hb)
   replace ON := hide (ON.out.below hb)
   replace BL := hide (BL.out.trans (hb.mono (Nat.le_trans hlo BL.out.size)))
   clear hK K hb BX
   try simp only [Act.put, sA, List.set]
   have z0 := F.out.z.cell 0 _ rfl
   have s0 := F.out.z.soft 0
   refine PhaseIn.one (i := 3) (by kernel_rfl) rfl (by kernel_rfl) (fun K hK => ?_)
   unfold Oper.wpIn
   refine ⟨fun _ _ => trivial, ?_⟩
   go_simp
   have t1 : Turn (w.heap.size + 1 + 1 + 1) u9 (u9.setCell ⟨w.heap.size + 1 + 1 + 1, 0, none⟩ (.slice q' TT.length cap')) := (Turn.refl _ u9).setCell (p := ⟨w.heap.size + 1 + 1 + 1, 0, none⟩) rfl _
   have hHeld2 : Rec u7.heap.size [.slice q' TT.length cap'] (u9.setCell ⟨w.heap.size + 1 + 1 + 1, 0, none⟩ (.slice q' TT.length cap')) ∧ True := ⟨hHeld.1.turn t1 (by have := UL.out; omega), trivial⟩
   refine hK _ _ (fun _ => hHeld2) ?_
   have ZT := hide (F.out.z.set 0 (.slice q' TT.length cap') (by simp) rfl)
   have ZP := hide (F.out.p.turn t1 (by omega))
   replace ON := hide (ON.out.apart t1 AZ.out.1 AZ.out.2)
   replace MA := hide (MA.out.keep (Keep.of_turn t1) (fun b' h1 h2 (h3 : b' = _) => by have := UL.out; have := SD.out; omega))
   replace BL := hide (BL.out.trans (t1.below (by omega) (Nat.le_trans hlo BL.out.size)))
   have S10 : Hid (u9.heap.size ≤ (u9.setCell ⟨w.heap.size + 1 + 1 + 1, 0, none⟩ (.slice q' TT.length cap')).heap.size) := t1.size
   clear hK K z0 s0 hHeld t1 F
   try simp only [Act.put, sA, List.set]
   generalize u9.setCell ⟨w.heap.size + 1 + 1 + 1, 0, none⟩ (.slice q' TT.length cap') = v6 at ZT ZP ON MA BL S10 hHeld2 ⊢
   have z0 := ZP.out.cell 0 _ rfl
   have s0 := ZP.out.soft 0
   refine PhaseIn.one (i := 4) (by kernel_rfl) rfl (by kernel_rfl) (fun K hK => ?_)
   unfold Oper.wpIn
   refine ⟨fun _ _ => trivial, ?_⟩
   go_simp
   have t2 : Turn (w.heap.size + 1 + 1 + 1 + 1) v6 (v6.setCell ⟨w.heap.size + 1 + 1 + 1 + 1, 0, none⟩ (.slice ra rl rc)) := (Turn.refl _ v6).setCell (p := ⟨w.heap.size + 1 + 1 + 1 + 1, 0, none⟩) rfl _
   have hHeld3 : Rec u7.heap.size [.slice q' TT.length cap'] (v6.setCell ⟨w.heap.size + 1 + 1 + 1 + 1, 0, none⟩ (.slice ra rl rc)) ∧ True := ⟨hHeld2.1.turn t2 (by have := UL.out; omega), trivial⟩
   refine hK _ _ (fun _ => hHeld3) ?_
   replace ZT := hide (ZT.out.turn t2 (by omega))
   replace ZP := hide (ZP.out.set 0 (.slice ra rl rc) (by simp) rfl)
   replace ON := hide (ON.out.apart t2 AP.out.1 AP.out.2)
   replace MA := hide ((MA.out.keep (Keep.of_turn t2) (fun b' h1 h2 (h3 : b' = _) => by have := UL.out; have := SD.out; omega)).wide (lo' := d8.heap.size) (hi' := (v6.setCell ⟨w.heap.size + 1 + 1 + 1 + 1, 0, none⟩ (.slice ra rl rc)).heap.size) (Nat.le_refl _) (Nat.le_trans S10.out t2.size))
   replace BL := hide (BL.out.trans (t2.below (by omega) (Nat.le_trans hlo BL.out.size)))
   clear hK K z0 s0 hHeld2 t2
   try simp only [Act.put, sA, List.set]
   generalize v6.setCell ⟨w.heap.size + 1 + 1 + 1 + 1, 0, none⟩ (.slice ra rl rc) = v7 at ZT ZP ON MA BL hHeld3 ⊢
   refine PhaseIn.done (by kernel_rfl) ?_ _
   have z0 := ZT.out.cell 0 _ rfl
   have z1 := ZP.out.cell 0 _ rfl
   clear hHeld3
   have TF := hide (told_cast ⟨⟨q', cap', cs', l', m', h', d8.heap.size, _, _, _, rfl, ON.out, (fun G e => by have := OB.out.1 G e; have := SD.out; omega), (fun i hi => by have := OB.out.2 i hi; have := SD.out; omega), by have := SD.out; have := UL.out; omega, MA.out⟩, BL.out⟩ HD.out.1 HD.out.2 : Told2 w lo v7 (.returned (.tuple #[.agg #[(.slice q' TT.length cap')], .agg #[(.slice ra rl rc)]])) RT RP)
   go_wp2
   exact bodyPost_ret (v := .tuple #[.agg #[(.slice q' TT.length cap')], .agg #[(.slice ra rl rc)]]) (by simp [results, Tryz.results21, go_sem, z0, z1]) rfl TF.out
 have PLB : Hid (plB op x y = bitsB op x y) := if_pos ho
 have PLP : Hid (plP op x y = plP op x y) := rfl
 have PLP2 : Hid (bitsP op x y = plP op x y) := (if_pos ho).symm
 clear MW
 have UL1 : Hid (w.heap.size + 1 + 1 + 1 + 1 < u1.heap.size) := by have := VL.out; show _ < _; omega
 have HO := hide ho
 have fo : (op == 4) = true ∨ ((op == 4) = false ∧ (op == 5) = true) := by rcases ho with rfl | rfl <;> simp
 clear ho
 have x0 := F.out.x.cell 0 _ rfl
 have y0 := F.out.y.cell 0 _ rfl
 rcases fo with f4 | ⟨f4, f5⟩
 · go_wp2_with fail
   refine (l5Bits op x y Bx By _ _ _ (WX.out.below BW.out) (WY.out.below BW.out) HO.out OX.out OY.out).mono ?_
   rintro e u2 ⟨⟨pb, bl, bc, rfl, MW⟩, hb⟩
   clear x0 y0
   have S2 : Hid ((u1.alloc (.cells #[.slice pa pl pc] 35)).heap.size ≤ u2.heap.size) := hb.size
   replace MW := hide MW
   replace PB := hide (PB.out.below hb)
   replace F := hide (F.out.below hb)
   replace HT := hide (HT.out.below hb)
   replace BW := hide (BW.out.trans (hb.mono BW.out.size))
   clear hb VL
   have VL : Hid (w.heap.size + 1 + 1 + 1 + 1 < (u1.alloc (.cells #[.slice pa pl pc] 35)).heap.size ∧ w.heap.size + 1 + 1 + 1 + 1 < u1.heap.size) := ⟨by have := SA.out; have := UL1.out; omega, UL1.out⟩
   have p0 := PB.out.cell 0 _ rfl
   have q0 := PB.out.soft 0
   have t3 : Turn u1.heap.size u2 (u2.setCell ⟨u1.heap.size, 0, none⟩ (.slice pb bl bc)) := (Turn.refl _ u2).setCell (p := ⟨u1.heap.size, 0, none⟩) rfl _
   replace PB := hide (PB.out.set 0 (.slice pb bl bc) (by simp) rfl)
   replace F := hide (F.out.turn t3 (Or.inr UL1.out))
   replace HT := hide (HT.out.apart t3 (fun G e => by have := (HG.out G e).2; have := UL1.out; omega) (fun i hi => Or.inr (by have := HH.out i hi; have := UL1.out; omega)))
   replace MW := hide (MW.out.keep (Keep.of_turn t3) (fun b' h1 h2 (h3 : b' = _) => by have := SA.out; omega))
   replace BW := hide (BW.out.trans (t3.below (by have := UL1.out; omega) BW.out.size))
   have HI0 : u2.heap.size ≤ (u2.setCell ⟨u1.heap.size, 0, none⟩ (.slice pb bl bc)).heap.size := t3.size
   have ES : Hid ((u2.setCell ⟨u1.heap.size, 0, none⟩ (.slice pb bl bc)).heap.size = u2.heap.size) := by simp [Hid]
   clear t3 UL1
   cases eb : bitsB op x y with
   | true =>
    have HI : Hid (u2.heap.size ≤ (u2.setCell ⟨u1.heap.size, 0, none⟩ (.slice pb bl bc)).heap.size) := HI0
    have HD : Hid (ts = RT ∧ (plP op x y) = RP) := show _ ∧ _ by
     rw [← ET.out, ← EP.out]
     have e1 : plB op x y = true := by rw [PLB.out]; exact eb
     rw [if_pos e1, if_pos e1]
     exact ⟨rfl, rfl⟩
    clear ET EP eb
    rw [PLP2.out] at MW
    have bA : Below (u2.setCell ⟨u1.heap.size, 0, none⟩ (.slice pb bl bc)).heap.size (u2.setCell ⟨u1.heap.size, 0, none⟩ (.slice pb bl bc)) (u2.setCell ⟨u1.heap.size, 0, none⟩ (.slice pb bl bc)).drew := (Below.refl _ _).drew
    go_wp2_with fail
    refine (wpIn_wide (n := 0)).1 ?_
    replace F := hide (F.out.below bA)
    replace HT := hide (HT.out.below bA)
    replace MW := hide (MW.out.below bA)
    replace PB := hide (PB.out.below bA)
    replace BW := hide (BW.out.trans (bA.mono BW.out.size))
    refine PhaseIn.region (S := fun w' => Rec w.heap.size [.slice q ts.length cap] w' ∧ Rec u1.heap.size [.slice pb bl bc] w') 4 (by kernel_rfl) ?_
    replace HI : Hid (u2.heap.size ≤ (u2.setCell ⟨u1.heap.size, 0, none⟩ (.slice pb bl bc)).drew.heap.size) := HI.out
    generalize (u2.setCell ⟨u1.heap.size, 0, none⟩ (.slice pb bl bc)).drew = d5 at F HT BW MW PB HI ⊢
    have hHeld := And.intro F.out.t PB.out
    clear bA
    refine PhaseIn.takeE (i := 0) (v := ?_) [0, 2, 3] 36 rfl (by rfl) (by kernel_rfl) (fun _ _ _ h => h) (Or.inl ⟨by kernel_rfl, ?_⟩) hHeld ?_
    rotate_left
    · intro w' hSw
      (try dsimp only at hSw)
      have z0 := hSw.1.cell 0 _ rfl
      go_simp
      first | done | with_reducible rfl
    try simp only [Act.put, sA, List.set]
    refine PhaseIn.takeE (i := 1) (v := ?_) [1, 3] 37 rfl (by rfl) (by kernel_rfl) (fun _ _ _ h => h) (Or.inl ⟨by kernel_rfl, ?_⟩) hHeld ?_
    rotate_left
    · intro w' hSw
      (try dsimp only at hSw)
      have z0 := hSw.2.cell 0 _ rfl
      go_simp
      first | done | with_reducible rfl
    try simp only [Act.put, sA, List.set]
    have z0 := F.out.z.cell 0 _ rfl
    have s0 := F.out.z.soft 0
    refine PhaseIn.one (i := 2) (by kernel_rfl) rfl (by kernel_rfl) (fun K hK => ?_)
    unfold Oper.wpIn
    refine ⟨fun _ _ => trivial, ?_⟩
    go_simp
    have t1 : Turn (w.heap.size + 1 + 1 + 1) d5 (d5.setCell ⟨w.heap.size + 1 + 1 + 1, 0, none⟩ (.slice q ts.length cap)) := (Turn.refl _ d5).setCell (p := ⟨w.heap.size + 1 + 1 + 1, 0, none⟩) rfl _
    have hHeld2 := And.intro (hHeld.1.turn t1 (by omega)) (hHeld.2.turn t1 (by have := VL.out; omega))
    refine hK _ _ (fun _ => hHeld2) ?_
    have ZT := hide (F.out.z.set 0 (.slice q ts.length cap) (by simp) rfl)
    have ZP := hide (F.out.p.turn t1 (by omega))
    replace HT := hide (HT.out.apart t1 (fun G e => by have := (HG.out G e).2; omega) (fun i hi => Or.inr (by have := HH.out i hi; omega)))
    replace MW := hide (MW.out.keep (Keep.of_turn t1) (fun b' h1 h2 (h3 : b' = _) => by have := VL.out; omega))
    replace BW := hide (BW.out.trans (t1.below (by omega) BW.out.size))
    replace HI : Hid (u2.heap.size ≤ (d5.setCell ⟨w.heap.size + 1 + 1 + 1, 0, none⟩ (.slice q ts.length cap)).heap.size) := Nat.le_trans HI.out t1.size
    clear hK K z0 s0 hHeld t1 F
    try simp only [Act.put, sA, List.set]
    generalize d5.setCell ⟨w.heap.size + 1 + 1 + 1, 0, none⟩ (.slice q ts.length cap) = d6 at ZT ZP HT MW BW HI hHeld2 ⊢
    have z0 := ZP.out.cell 0 _ rfl
    have s0 := ZP.out.soft 0
    refine PhaseIn.one (i := 3) (by kernel_rfl) rfl (by kernel_rfl) (fun K hK => ?_)
    unfold Oper.wpIn
    refine ⟨fun _ _ => trivial, ?_⟩
    go_simp
    have t2 : Turn (w.heap.size + 1 + 1 + 1 + 1) d6 (d6.setCell ⟨w.heap.size + 1 + 1 + 1 + 1, 0, none⟩ (.slice pb bl bc)) := (Turn.refl _ d6).setCell (p := ⟨w.heap.size + 1 + 1 + 1 + 1, 0, none⟩) rfl _
    have hHeld3 := And.intro (hHeld2.1.turn t2 (by omega)) (hHeld2.2.turn t2 (by have := VL.out; omega))
    refine hK _ _ (fun _ => hHeld3) ?_
    replace ZT := hide (ZT.out.turn t2 (by omega))
    replace ZP := hide (ZP.out.set 0 (.slice pb bl bc) (by simp) rfl)
    replace HT := hide (HT.out.apart t2 (fun G e => by have := (HG.out G e).2; omega) (fun i hi => Or.inr (by have := HH.out i hi; omega)))
    replace MW := hide ((MW.out.keep (Keep.of_turn t2) (fun b' h1 h2 (h3 : b' = _) => by have := VL.out; omega)).wide (lo' := (u1.alloc (.cells #[.slice pa pl pc] 35)).heap.size) (hi' := (d6.setCell ⟨w.heap.size + 1 + 1 + 1 + 1, 0, none⟩ (.slice pb bl bc)).heap.size) (Nat.le_refl _) (Nat.le_trans HI.out t2.size))
    replace BW := hide ((BW.out.trans (t2.below (by omega) BW.out.size)).mono hlo)
    clear hK K z0 s0 hHeld2 t2 HI
    try simp only [Act.put, sA, List.set]
    generalize d6.setCell ⟨w.heap.size + 1 + 1 + 1 + 1, 0, none⟩ (.slice pb bl bc) = d7 at ZT ZP HT MW BW hHeld3 ⊢
    refine PhaseIn.done (by kernel_rfl) ?_ _
    have z0 := ZT.out.cell 0 _ rfl
    have z1 := ZP.out.cell 0 _ rfl
    clear hHeld3
    have TF := hide (told_cast ⟨⟨q, cap, cs, l, m, hh, (u1.alloc (.cells #[.slice pa pl pc] 35)).heap.size, _, _, _, rfl, HT.out, (fun G e => by have := (HG.out G e).2; have := VL.out; omega), (fun i hi => by have := HH.out i hi; have := VL.out; omega), by have := VL.out; omega, MW.out⟩, BW.out⟩ HD.out.1 HD.out.2 : Told2 w lo d7 (.returned (.tuple #[.agg #[.slice q ts.length cap], .agg #[.slice pb bl bc]])) RT RP)
    go_wp2
    exact bodyPost_ret (v := .tuple #[.agg #[.slice q ts.length cap], .agg #[.slice pb bl bc]]) (by simp [results, Tryz.results21, go_sem, z0, z1]) rfl TF.out
   | false =>
    have PF : Hid (plB op x y = false) := PLB.out.trans eb
    clear eb MW PB
    have x0 := F.out.x.cell 0 _ rfl
    have y0 := F.out.y.cell 0 _ rfl
    have UL0 : Hid (w.heap.size + 1 + 1 + 1 + 1 < (u2.setCell ⟨u1.heap.size, 0, none⟩ (.slice pb bl bc)).heap.size) := F.out.p.lt
    have bo : Below (u2.setCell ⟨u1.heap.size, 0, none⟩ (.slice pb bl bc)).heap.size (u2.setCell ⟨u1.heap.size, 0, none⟩ (.slice pb bl bc)) ((u2.setCell ⟨u1.heap.size, 0, none⟩ (.slice pb bl bc)).alloc (.cells #[.int .i64 4, .int .i64 op, .slice qx x.length cx, .slice qy y.length cy] 63)) := (Below.refl _ _).alloc (Nat.le_refl _) _
    have AR := hide (Rec.new (u2.setCell ⟨u1.heap.size, 0, none⟩ (.slice pb bl bc)) [.int .i64 4, .int .i64 op, .slice qx x.length cx, .slice qy y.length cy] 63)
    replace F := hide (F.out.below bo)
    replace HT := hide (HT.out.below bo)
    replace BW := hide (BW.out.trans (bo.mono BW.out.size))
    clear bo
    have x1 := F.out.x.cell 0 _ rfl
    have y1 := F.out.y.cell 0 _ rfl
    by_cases o2 : op = 2
    · have HA0 : doA op x y = ⟨4, op, x, y⟩ := if_neg (fun h => h.1 o2)
      have g2 : (op != 2) = false := by simp [o2]
      clear o2
      have HA : Hid (doA op x y = ⟨4, op, x, y⟩) := HA0
      rw [HA.out] at ET EP
      have t0 := F.out.t.cell 0 _ rfl
      have c0 := AR.out.cell 0 _ rfl
      have c1 := AR.out.cell 1 _ rfl
      have c2 := AR.out.cell 2 _ rfl
      have c3 := AR.out.cell 3 _ rfl
      go_wp2_with fail
      refine (l5Put ts ⟨4, op, x, y⟩ lo cap q cs l m hh _ _ _ _ Bx By _ HT.out (Nat.le_trans hlo BW.out.size) (WX.out.below BW.out) (WY.out.below BW.out) hl).mono ?_
      rintro e u7 ⟨q', cap', cs', l', m', h', rfl, ON, hk, aw⟩
      clear t0 c0 c1 c2 c3
      have UL : Hid (w.heap.size + 1 + 1 + 1 + 1 < ((u2.setCell ⟨u1.heap.size, 0, none⟩ (.slice pb bl bc)).alloc (.cells #[.int .i64 4, .int .i64 op, .slice qx x.length cx, .slice qy y.length cy] 63)).heap.size) := F.out.p.lt
      have NS : ∀ b', w.heap.size ≤ b' → ¬ (fun b => q = some ⟨b, 0, none⟩) b' := fun b' hb' (e : q = some ⟨b', 0, none⟩) => by have := (HG.out b' e).2; omega
      have AZ := hide (aw (w.heap.size + 1 + 1 + 1) (by have := UL.out; omega) ⟨fun G e => by have := (HG.out G e).2; omega, fun i hi => Or.inr (by have := HH.out i hi; omega)⟩)
      have AP := hide (aw (w.heap.size + 1 + 1 + 1 + 1) (by have := UL.out; omega) ⟨fun G e => by have := (HG.out G e).2; omega, fun i hi => Or.inr (by have := HH.out i hi; omega)⟩)
      replace F := hide (F.out.keep hk NS)
      have BL : Hid (Below lo w u7) := (BW.out.mono hlo).trans (hk.below (Nat.le_trans hlo BW.out.size) (fun k hk' (e : q = some ⟨k, 0, none⟩) => by have := (HG.out k e).1; omega))
      replace UL : Hid (w.heap.size + 1 + 1 + 1 + 1 < u7.heap.size) := F.out.p.lt
      replace ON := hide ON
      clear hk aw NS HT BW AR
      obtain ⟨TT, eTT⟩ : ∃ TT, putT ts ⟨4, op, x, y⟩ = TT := ⟨_, rfl⟩
      obtain ⟨KK, eKK⟩ : ∃ KK, putN ts ⟨4, op, x, y⟩ = KK := ⟨_, rfl⟩
      rw [eTT] at ON AZ AP ET ⊢
      rw [eKK] at ET EP ⊢
      clear eTT eKK HA
      have bo : Below u7.heap.size u7 (u7.alloc (.cells #[.slice q' TT.length cap'] 32)) := (Below.refl _ _).alloc (Nat.le_refl _) _
      have BX := hide (Rec.new u7 [.slice q' TT.length cap'] 32)
      replace F := hide (F.out.below bo)
      have OB : Hid ((∀ G, q' = some ⟨G, 0, none⟩ → G < u7.heap.size) ∧ ∀ i, i < TT.length → h' i ≤ u7.heap.size) := ⟨fun G e => (ON.out.q_lt e).2, fun i hi => ON.out.hi hi⟩
      have SU : Hid ((u7.alloc (.cells #[.slice q' TT.length cap'] 32)).heap.size = u7.heap.size + 1) := by simp [Hid]
      replace ON := hide (ON.out.below bo)
      replace BL := hide (BL.out.trans (bo.mono (Nat.le_trans hlo BL.out.size)))
      clear bo
      by_cases kn : KK < 0
      · have HD : Hid ([] = RT ∧ [] = RP) := show _ ∧ _ by rw [← ET.out, ← EP.out, if_neg (by rw [PF.out]; decide), if_pos kn, if_neg (by rw [PF.out]; decide), if_pos kn]; exact ⟨rfl, rfl⟩
        clear ET EP
        have z0 := F.out.z.cell 0 _ rfl
        have s0 := F.out.z.soft 0
        have z1 := F.out.p.cell 0 _ rfl
        have s1 := F.out.p.soft 0
        have N1 : Turn (w.heap.size + 1 + 1 + 1) (u7.alloc (.cells #[.slice q' TT.length cap'] 32)) ((u7.alloc (.cells #[.slice q' TT.length cap'] 32)).setCell ⟨w.heap.size + 1 + 1 + 1, 0, none⟩ (.slice none 0 0)) := (Turn.refl _ _).setCell (p := ⟨w.heap.size + 1 + 1 + 1, 0, none⟩) rfl _
        have N2 : Turn (w.heap.size + 1 + 1 + 1 + 1) ((u7.alloc (.cells #[.slice q' TT.length cap'] 32)).setCell ⟨w.heap.size + 1 + 1 + 1, 0, none⟩ (.slice none 0 0)) (((u7.alloc (.cells #[.slice q' TT.length cap'] 32)).setCell ⟨w.heap.size + 1 + 1 + 1, 0, none⟩ (.slice none 0 0)).setCell ⟨w.heap.size + 1 + 1 + 1 + 1, 0, none⟩ (.slice none 0 0)) := (Turn.refl _ _).setCell (p := ⟨w.heap.size + 1 + 1 + 1 + 1, 0, none⟩) rfl _
        have R0 := hide ((F.out.z.set 0 (.slice none 0 0) (by simp) rfl).turn N2 (by omega))
        have R1 := hide ((F.out.p.turn N1 (by omega)).set 0 (.slice none 0 0) (by simp) rfl)
        have TF := hide (told_cast (told_nil (u := w) hlo ((BL.out.trans (N1.below (by omega) (Nat.le_trans hlo BL.out.size))).trans (N2.below (by omega) (Nat.le_trans (Nat.le_trans hlo BL.out.size) N1.size)))) HD.out.1 HD.out.2)
        clear F ON BX AZ AP N1 N2
        go_wp2
        generalize (((u7.alloc (.cells #[.slice q' TT.length cap'] 32)).setCell ⟨w.heap.size + 1 + 1 + 1, 0, none⟩ (.slice none 0 0)).setCell ⟨w.heap.size + 1 + 1 + 1 + 1, 0, none⟩ (.slice none 0 0)) = y9 at R0 R1 TF ⊢
        have r0 := R0.out.cell 0 _ rfl
        have r1 := R1.out.cell 0 _ rfl
        exact bodyPost_ret (v := .tuple #[.agg #[.slice none 0 0], .agg #[.slice none 0 0]]) (by simp [results, Tryz.results21, go_sem, r0, r1]) rfl TF.out
      have HD : Hid (TT = RT ∧ atomP KK = RP) := show _ ∧ _ by rw [← ET.out, ← EP.out, if_neg (by rw [PF.out]; decide), if_neg kn, if_neg (by rw [PF.out]; decide), if_neg kn]; exact ⟨rfl, rfl⟩
      clear ET EP
      have bA : Below (u7.alloc (.cells #[.slice q' TT.length cap'] 32)).heap.size (u7.alloc (.cells #[.slice q' TT.length cap'] 32)) (u7.alloc (.cells #[.slice q' TT.length cap'] 32)).drew := (Below.refl _ _).drew
      go_wp2_with fail
      refine (wpIn_wide (n := 0)).1 ?_
      replace F := hide (F.out.below bA)
      replace BX := hide (BX.out.below bA)
      replace ON := hide (ON.out.below bA)
      replace BL := hide (BL.out.trans (bA.mono (Nat.le_trans hlo BL.out.size)))
      refine PhaseIn.region (S := fun w' => Rec u7.heap.size [.slice q' TT.length cap'] w' ∧ True) 5 (by kernel_rfl) ?_
      have SD : Hid (u7.heap.size < (u7.alloc (.cells #[.slice q' TT.length cap'] 32)).drew.heap.size) := BX.out.lt
      generalize (u7.alloc (.cells #[.slice q' TT.length cap'] 32)).drew = d8 at F BX ON BL SD ⊢
      have hHeld : Rec u7.heap.size [.slice q' TT.length cap'] d8 ∧ True := ⟨BX.out, trivial⟩
      clear bA SU
      refine PhaseIn.takeE (i := 0) (v := ?_) [0, 3, 4] 64 rfl (by rfl) (by kernel_rfl) (fun _ _ _ h => h) (Or.inl ⟨by kernel_rfl, ?_⟩) hHeld ?_
      rotate_left
      · intro w' hSw
        (try dsimp only at hSw)
        have z0 := hSw.1.cell 0 _ rfl
        go_simp
        first | done | with_reducible rfl
      try simp only [Act.put, sA, List.set]
      refine PhaseIn.takeE (i := 1) (v := ?_) [1, 2, 3, 4] 65 rfl (by rfl) (by kernel_rfl) (fun _ _ _ h => h) (Or.inl ⟨by kernel_rfl, ?_⟩) hHeld ?_
      rotate_left
      · intro w' hSw
        (try dsimp only at hSw)
        go_simp
        first | done | with_reducible rfl
      try simp only [Act.put, sA, List.set]
      refine PhaseIn.one (i := 2) (by kernel_rfl) rfl (by kernel_rfl) (fun K hK => ?_)
      unfold Oper.wpIn
      refine ⟨fun _ _ => trivial, ?_⟩
      go_simp
      refine ⟨rfl, (callsIn_wide.2 (specAtom KK _)).mono ?_⟩
      rintro e u9 ⟨ra, rl, rc, rfl, MA, hb⟩
      refine hK _ _ (fun _ => ⟨hHeld.1.below hb, trivial⟩) ?_
      replace hHeld : Rec u7.heap.size [.slice q' TT.length cap'] u9 ∧ True := ⟨hHeld.1.below hb, trivial⟩
      replace MA := hide MA
      have S9 : Hid (d8.heap.size ≤ u9.heap.size) := hb.size
      replace F := hide (F.out.below hb)
      replace ON := hide (ON.out.below hb)
      replace BL := hide (BL.out.trans (hb.mono (Nat.le_trans hlo BL.out.size)))
      clear hK K hb BX
      try simp only [Act.put, sA, List.set]
      have z0 := F.out.z.cell 0 _ rfl
      have s0 := F.out.z.soft 0
      refine PhaseIn.one (i := 3) (by kernel_rfl) rfl (by kernel_rfl) (fun K hK => ?_)
      unfold Oper.wpIn
      refine ⟨fun _ _ => trivial, ?_⟩
      go_simp
      have t1 : Turn (w.heap.size + 1 + 1 + 1) u9 (u9.setCell ⟨w.heap.size + 1 + 1 + 1, 0, none⟩ (.slice q' TT.length cap')) := (Turn.refl _ u9).setCell (p := ⟨w.heap.size + 1 + 1 + 1, 0, none⟩) rfl _
      have hHeld2 : Rec u7.heap.size [.slice q' TT.length cap'] (u9.setCell ⟨w.heap.size + 1 + 1 + 1, 0, none⟩ (.slice q' TT.length cap')) ∧ True := ⟨hHeld.1.turn t1 (by have := UL.out; omega), trivial⟩
      refine hK _ _ (fun _ => hHeld2) ?_
      have ZT := hide (F.out.z.set 0 (.slice q' TT.length cap') (by simp) rfl)
      have ZP := hide (F.out.p.turn t1 (by omega))
      replace ON := hide (ON.out.apart t1 AZ.out.1 AZ.out.2)
      replace MA := hide (MA.out.keep (Keep.of_turn t1) (fun b' h1 h2 (h3 : b' = _) => by have := UL.out; have := SD.out; omega))
      replace BL := hide (BL.out.trans (t1.below (by omega) (Nat.le_trans hlo BL.out.size)))
      have S10 : Hid (u9.heap.size ≤ (u9.setCell ⟨w.heap.size + 1 + 1 + 1, 0, none⟩ (.slice q' TT.length cap')).heap.size) := t1.size
      clear hK K z0 s0 hHeld t1 F
      try simp only [Act.put, sA, List.set]
      generalize u9.setCell ⟨w.heap.size + 1 + 1 + 1, 0, none⟩ (.slice q' TT.length cap') = v6 at ZT ZP ON MA BL S10 hHeld2 ⊢
      have z0 := ZP.out.cell 0 _ rfl
      have s0 := ZP.out.soft 0
      refine PhaseIn.one (i := 4) (by kernel_rfl) rfl (by kernel_rfl) (fun K hK => ?_)
      unfold Oper.wpIn
      refine ⟨fun _ _ => trivial, ?_⟩
      go_simp
      have t2 : Turn (w.heap.size + 1 + 1 + 1 + 1) v6 (v6.setCell ⟨w.heap.size + 1 + 1 + 1 + 1, 0, none⟩ (.slice ra rl rc)) := (Turn.refl _ v6).setCell (p := ⟨w.heap.size + 1 + 1 + 1 + 1, 0, none⟩) rfl _
      have hHeld3 : Rec u7.heap.size [.slice q' TT.length cap'] (v6.setCell ⟨w.heap.size + 1 + 1 + 1 + 1, 0, none⟩ (.slice ra rl rc)) ∧ True := ⟨hHeld2.1.turn t2 (by have := UL.out; omega), trivial⟩
      refine hK _ _ (fun _ => hHeld3) ?_
      replace ZT := hide (ZT.out.turn t2 (by omega))
      replace ZP := hide (ZP.out.set 0 (.slice ra rl rc) (by simp) rfl)
      replace ON := hide (ON.out.apart t2 AP.out.1 AP.out.2)
      replace MA := hide ((MA.out.keep (Keep.of_turn t2) (fun b' h1 h2 (h3 : b' = _) => by have := UL.out; have := SD.out; omega)).wide (lo' := d8.heap.size) (hi' := (v6.setCell ⟨w.heap.size + 1 + 1 + 1 + 1, 0, none⟩ (.slice ra rl rc)).heap.size) (Nat.le_refl _) (Nat.le_trans S10.out t2.size))
      replace BL := hide (BL.out.trans (t2.below (by omega) (Nat.le_trans hlo BL.out.size)))
      clear hK K z0 s0 hHeld2 t2
      try simp only [Act.put, sA, List.set]
      generalize v6.setCell ⟨w.heap.size + 1 + 1 + 1 + 1, 0, none⟩ (.slice ra rl rc) = v7 at ZT ZP ON MA BL hHeld3 ⊢
      refine PhaseIn.done (by kernel_rfl) ?_ _
      have z0 := ZT.out.cell 0 _ rfl
      have z1 := ZP.out.cell 0 _ rfl
      clear hHeld3
      have TF := hide (told_cast ⟨⟨q', cap', cs', l', m', h', d8.heap.size, _, _, _, rfl, ON.out, (fun G e => by have := OB.out.1 G e; have := SD.out; omega), (fun i hi => by have := OB.out.2 i hi; have := SD.out; omega), by have := SD.out; have := UL.out; omega, MA.out⟩, BL.out⟩ HD.out.1 HD.out.2 : Told2 w lo v7 (.returned (.tuple #[.agg #[(.slice q' TT.length cap')], .agg #[(.slice ra rl rc)]])) RT RP)
      go_wp2
      exact bodyPost_ret (v := .tuple #[.agg #[(.slice q' TT.length cap')], .agg #[(.slice ra rl rc)]]) (by simp [results, Tryz.results21, go_sem, z0, z1]) rfl TF.out
    have g2 : (op != 2) = true := by simp [o2]
    have O2 := hide o2
    clear o2
    go_wp2_with fail
    refine (specOrder x y Bx By _ _ _ (WX.out.below BW.out) (WY.out.below BW.out)).mono ?_
    rintro e u6 ⟨rfl, hb⟩
    replace F := hide (F.out.below hb)
    replace HT := hide (HT.out.below hb)
    replace AR := hide (AR.out.below hb)
    replace BW := hide (BW.out.trans (hb.mono BW.out.size))
    clear hb x0 y0 x1 y1
    obtain ⟨od, eod⟩ : ∃ od, ordP x y = od := ⟨_, rfl⟩
    have EO := hide eod
    rw [eod]
    clear eod
    by_cases od0 : 0 < od
    case neg =>
     have HA0 : doA op x y = ⟨4, op, x, y⟩ := if_neg (fun h => od0 (by have := h.2; rw [EO.out] at this; exact this))
     have es : (u2.setCell ⟨u1.heap.size, 0, none⟩ (.slice pb bl bc)).heap.size = u2.heap.size := ES.out
     rw [es] at AR UL0
     clear es
     have HA : Hid (doA op x y = ⟨4, op, x, y⟩) := HA0
     rw [HA.out] at ET EP
     have t0 := F.out.t.cell 0 _ rfl
     have c0 := AR.out.cell 0 _ rfl
     have c1 := AR.out.cell 1 _ rfl
     have c2 := AR.out.cell 2 _ rfl
     have c3 := AR.out.cell 3 _ rfl
     go_wp2_with fail
     refine (l5Put ts ⟨4, op, x, y⟩ lo cap q cs l m hh _ _ _ _ Bx By _ HT.out (Nat.le_trans hlo BW.out.size) (WX.out.below BW.out) (WY.out.below BW.out) hl).mono ?_
     rintro e u7 ⟨q', cap', cs', l', m', h', rfl, ON, hk, aw⟩
     clear t0 c0 c1 c2 c3
     have UL : Hid (w.heap.size + 1 + 1 + 1 + 1 < u6.heap.size) := F.out.p.lt
     have NS : ∀ b', w.heap.size ≤ b' → ¬ (fun b => q = some ⟨b, 0, none⟩) b' := fun b' hb' (e : q = some ⟨b', 0, none⟩) => by have := (HG.out b' e).2; omega
     have AZ := hide (aw (w.heap.size + 1 + 1 + 1) (by have := UL.out; omega) ⟨fun G e => by have := (HG.out G e).2; omega, fun i hi => Or.inr (by have := HH.out i hi; omega)⟩)
     have AP := hide (aw (w.heap.size + 1 + 1 + 1 + 1) (by have := UL.out; omega) ⟨fun G e => by have := (HG.out G e).2; omega, fun i hi => Or.inr (by have := HH.out i hi; omega)⟩)
     replace F := hide (F.out.keep hk NS)
     have BL : Hid (Below lo w u7) := (BW.out.mono hlo).trans (hk.below (Nat.le_trans hlo BW.out.size) (fun k hk' (e : q = some ⟨k, 0, none⟩) => by have := (HG.out k e).1; omega))
     replace UL : Hid (w.heap.size + 1 + 1 + 1 + 1 < u7.heap.size) := F.out.p.lt
     replace ON := hide ON
     clear hk aw NS HT BW AR
     obtain ⟨TT, eTT⟩ : ∃ TT, putT ts ⟨4, op, x, y⟩ = TT := ⟨_, rfl⟩
     obtain ⟨KK, eKK⟩ : ∃ KK, putN ts ⟨4, op, x, y⟩ = KK := ⟨_, rfl⟩
     rw [eTT] at ON AZ AP ET ⊢
     rw [eKK] at ET EP ⊢
     clear eTT eKK HA
     have bo : Below u7.heap.size u7 (u7.alloc (.cells #[.slice q' TT.length cap'] 32)) := (Below.refl _ _).alloc (Nat.le_refl _) _
     have BX := hide (Rec.new u7 [.slice q' TT.length cap'] 32)
     replace F := hide (F.out.below bo)
     have OB : Hid ((∀ G, q' = some ⟨G, 0, none⟩ → G < u7.heap.size) ∧ ∀ i, i < TT.length → h' i ≤ u7.heap.size) := ⟨fun G e => (ON.out.q_lt e).2, fun i hi => ON.out.hi hi⟩
     have SU : Hid ((u7.alloc (.cells #[.slice q' TT.length cap'] 32)).heap.size = u7.heap.size + 1) := by simp [Hid]
     replace ON := hide (ON.out.below bo)
     replace BL := hide (BL.out.trans (bo.mono (Nat.le_trans hlo BL.out.size)))
     clear bo
     by_cases kn : KK < 0
     · have HD : Hid ([] = RT ∧ [] = RP) := show _ ∧ _ by rw [← ET.out, ← EP.out, if_neg (by rw [PF.out]; decide), if_pos kn, if_neg (by rw [PF.out]; decide), if_pos kn]; exact ⟨rfl, rfl⟩
       clear ET EP
       have z0 := F.out.z.cell 0 _ rfl
       have s0 := F.out.z.soft 0
       have z1 := F.out.p.cell 0 _ rfl
       have s1 := F.out.p.soft 0
       have N1 : Turn (w.heap.size + 1 + 1 + 1) (u7.alloc (.cells #[.slice q' TT.length cap'] 32)) ((u7.alloc (.cells #[.slice q' TT.length cap'] 32)).setCell ⟨w.heap.size + 1 + 1 + 1, 0, none⟩ (.slice none 0 0)) := (Turn.refl _ _).setCell (p := ⟨w.heap.size + 1 + 1 + 1, 0, none⟩) rfl _
       have N2 : Turn (w.heap.size + 1 + 1 + 1 + 1) ((u7.alloc (.cells #[.slice q' TT.length cap'] 32)).setCell ⟨w.heap.size + 1 + 1 + 1, 0, none⟩ (.slice none 0 0)) (((u7.alloc (.cells #[.slice q' TT.length cap'] 32)).setCell ⟨w.heap.size + 1 + 1 + 1, 0, none⟩ (.slice none 0 0)).setCell ⟨w.heap.size + 1 + 1 + 1 + 1, 0, none⟩ (.slice none 0 0)) := (Turn.refl _ _).setCell (p := ⟨w.heap.size + 1 + 1 + 1 + 1, 0, none⟩) rfl _
       have R0 := hide ((F.out.z.set 0 (.slice none 0 0) (by simp) rfl).turn N2 (by omega))
       have R1 := hide ((F.out.p.turn N1 (by omega)).set 0 (.slice none 0 0) (by simp) rfl)
       have TF := hide (told_cast (told_nil (u := w) hlo ((BL.out.trans (N1.below (by omega) (Nat.le_trans hlo BL.out.size))).trans (N2.below (by omega) (Nat.le_trans (Nat.le_trans hlo BL.out.size) N1.size)))) HD.out.1 HD.out.2)
       clear F ON BX AZ AP N1 N2
       go_wp2
       generalize (((u7.alloc (.cells #[.slice q' TT.length cap'] 32)).setCell ⟨w.heap.size + 1 + 1 + 1, 0, none⟩ (.slice none 0 0)).setCell ⟨w.heap.size + 1 + 1 + 1 + 1, 0, none⟩ (.slice none 0 0)) = y9 at R0 R1 TF ⊢
       have r0 := R0.out.cell 0 _ rfl
       have r1 := R1.out.cell 0 _ rfl
       exact bodyPost_ret (v := .tuple #[.agg #[.slice none 0 0], .agg #[.slice none 0 0]]) (by simp [results, Tryz.results21, go_sem, r0, r1]) rfl TF.out
     have HD : Hid (TT = RT ∧ atomP KK = RP) := show _ ∧ _ by rw [← ET.out, ← EP.out, if_neg (by rw [PF.out]; decide), if_neg kn, if_neg (by rw [PF.out]; decide), if_neg kn]; exact ⟨rfl, rfl⟩
     clear ET EP
     have bA : Below (u7.alloc (.cells #[.slice q' TT.length cap'] 32)).heap.size (u7.alloc (.cells #[.slice q' TT.length cap'] 32)) (u7.alloc (.cells #[.slice q' TT.length cap'] 32)).drew := (Below.refl _ _).drew
     go_wp2_with fail
     refine (wpIn_wide (n := 0)).1 ?_
     replace F := hide (F.out.below bA)
     replace BX := hide (BX.out.below bA)
     replace ON := hide (ON.out.below bA)
     replace BL := hide (BL.out.trans (bA.mono (Nat.le_trans hlo BL.out.size)))
     refine PhaseIn.region (S := fun w' => Rec u7.heap.size [.slice q' TT.length cap'] w' ∧ True) 5 (by kernel_rfl) ?_
     have SD : Hid (u7.heap.size < (u7.alloc (.cells #[.slice q' TT.length cap'] 32)).drew.heap.size) := BX.out.lt
     generalize (u7.alloc (.cells #[.slice q' TT.length cap'] 32)).drew = d8 at F BX ON BL SD ⊢
     have hHeld : Rec u7.heap.size [.slice q' TT.length cap'] d8 ∧ True := ⟨BX.out, trivial⟩
     clear bA SU
     refine PhaseIn.takeE (i := 0) (v := ?_) [0, 3, 4] 64 rfl (by rfl) (by kernel_rfl) (fun _ _ _ h => h) (Or.inl ⟨by kernel_rfl, ?_⟩) hHeld ?_
     rotate_left
     · intro w' hSw
       (try dsimp only at hSw)
       have z0 := hSw.1.cell 0 _ rfl
       go_simp
       first | done | with_reducible rfl
     try simp only [Act.put, sA, List.set]
     refine PhaseIn.takeE (i := 1) (v := ?_) [1, 2, 3, 4] 65 rfl (by rfl) (by kernel_rfl) (fun _ _ _ h => h) (Or.inl ⟨by kernel_rfl, ?_⟩) hHeld ?_
     rotate_left
     · intro w' hSw
       (try dsimp only at hSw)
       go_simp
       first | done | with_reducible rfl
     try simp only [Act.put, sA, List.set]
     refine PhaseIn.one (i := 2) (by kernel_rfl) rfl (by kernel_rfl) (fun K hK => ?_)
     unfold Oper.wpIn
     refine ⟨fun _ _ => trivial, ?_⟩
     go_simp
     refine ⟨rfl, (callsIn_wide.2 (specAtom KK _)).mono ?_⟩
     rintro e u9 ⟨ra, rl, rc, rfl, MA, hb⟩
     refine hK _ _ (fun _ => ⟨hHeld.1.below hb, trivial⟩) ?_
     replace hHeld : Rec u7.heap.size [.slice q' TT.length cap'] u9 ∧ True := ⟨hHeld.1.below hb, trivial⟩
     replace MA := hide MA
     have S9 : Hid (d8.heap.size ≤ u9.heap.size) := hb.size
     replace F := hide (F.out.below hb)
     replace ON := hide (ON.out.below hb)
     replace BL := hide (BL.out.trans (hb.mono (Nat.le_trans hlo BL.out.size)))
     clear hK K hb BX
     try simp only [Act.put, sA, List.set]
     have z0 := F.out.z.cell 0 _ rfl
     have s0 := F.out.z.soft 0
     refine PhaseIn.one (i := 3) (by kernel_rfl) rfl (by kernel_rfl) (fun K hK => ?_)
     unfold Oper.wpIn
     refine ⟨fun _ _ => trivial, ?_⟩
     go_simp
     have t1 : Turn (w.heap.size + 1 + 1 + 1) u9 (u9.setCell ⟨w.heap.size + 1 + 1 + 1, 0, none⟩ (.slice q' TT.length cap')) := (Turn.refl _ u9).setCell (p := ⟨w.heap.size + 1 + 1 + 1, 0, none⟩) rfl _
     have hHeld2 : Rec u7.heap.size [.slice q' TT.length cap'] (u9.setCell ⟨w.heap.size + 1 + 1 + 1, 0, none⟩ (.slice q' TT.length cap')) ∧ True := ⟨hHeld.1.turn t1 (by have := UL.out; omega), trivial⟩
     refine hK _ _ (fun _ => hHeld2) ?_
     have ZT := hide (F.out.z.set 0 (.slice q' TT.length cap') (by simp) rfl)
     have ZP := hide (F.out.p.turn t1 (by omega))
     replace ON := hide (ON.out.apart t1 AZ.out.1 AZ.out.2)
     replace MA := hide (MA.out.keep (Keep.of_turn t1) (fun b' h1 h2 (h3 : b' = _) => by have := UL.out; have := SD.out; omega))
     replace BL := hide (BL.out.trans (t1.below (by omega) (Nat.le_trans hlo BL.out.size)))
     have S10 : Hid (u9.heap.size ≤ (u9.setCell ⟨w.heap.size + 1 + 1 + 1, 0, none⟩ (.slice q' TT.length cap')).heap.size) := t1.size
     clear hK K z0 s0 hHeld t1 F
     try simp only [Act.put, sA, List.set]
     generalize u9.setCell ⟨w.heap.size + 1 + 1 + 1, 0, none⟩ (.slice q' TT.length cap') = v6 at ZT ZP ON MA BL S10 hHeld2 ⊢
     have z0 := ZP.out.cell 0 _ rfl
     have s0 := ZP.out.soft 0
     refine PhaseIn.one (i := 4) (by kernel_rfl) rfl (by kernel_rfl) (fun K hK => ?_)
     unfold Oper.wpIn
     refine ⟨fun _ _ => trivial, ?_⟩
     go_simp
     have t2 : Turn (w.heap.size + 1 + 1 + 1 + 1) v6 (v6.setCell ⟨w.heap.size + 1 + 1 + 1 + 1, 0, none⟩ (.slice ra rl rc)) := (Turn.refl _ v6).setCell (p := ⟨w.heap.size + 1 + 1 + 1 + 1, 0, none⟩) rfl _
     have hHeld3 : Rec u7.heap.size [.slice q' TT.length cap'] (v6.setCell ⟨w.heap.size + 1 + 1 + 1 + 1, 0, none⟩ (.slice ra rl rc)) ∧ True := ⟨hHeld2.1.turn t2 (by have := UL.out; omega), trivial⟩
     refine hK _ _ (fun _ => hHeld3) ?_
     replace ZT := hide (ZT.out.turn t2 (by omega))
     replace ZP := hide (ZP.out.set 0 (.slice ra rl rc) (by simp) rfl)
     replace ON := hide (ON.out.apart t2 AP.out.1 AP.out.2)
     replace MA := hide ((MA.out.keep (Keep.of_turn t2) (fun b' h1 h2 (h3 : b' = _) => by have := UL.out; have := SD.out; omega)).wide (lo' := d8.heap.size) (hi' := (v6.setCell ⟨w.heap.size + 1 + 1 + 1 + 1, 0, none⟩ (.slice ra rl rc)).heap.size) (Nat.le_refl _) (Nat.le_trans S10.out t2.size))
     replace BL := hide (BL.out.trans (t2.below (by omega) (Nat.le_trans hlo BL.out.size)))
     clear hK K z0 s0 hHeld2 t2
     try simp only [Act.put, sA, List.set]
     generalize v6.setCell ⟨w.heap.size + 1 + 1 + 1 + 1, 0, none⟩ (.slice ra rl rc) = v7 at ZT ZP ON MA BL hHeld3 ⊢
     refine PhaseIn.done (by kernel_rfl) ?_ _
     have z0 := ZT.out.cell 0 _ rfl
     have z1 := ZP.out.cell 0 _ rfl
     clear hHeld3
     have TF := hide (told_cast ⟨⟨q', cap', cs', l', m', h', d8.heap.size, _, _, _, rfl, ON.out, (fun G e => by have := OB.out.1 G e; have := SD.out; omega), (fun i hi => by have := OB.out.2 i hi; have := SD.out; omega), by have := SD.out; have := UL.out; omega, MA.out⟩, BL.out⟩ HD.out.1 HD.out.2 : Told2 w lo v7 (.returned (.tuple #[.agg #[(.slice q' TT.length cap')], .agg #[(.slice ra rl rc)]])) RT RP)
     go_wp2
     exact bodyPost_ret (v := .tuple #[.agg #[(.slice q' TT.length cap')], .agg #[(.slice ra rl rc)]]) (by simp [results, Tryz.results21, go_sem, z0, z1]) rfl TF.out
    have HA0 : doA op x y = ⟨4, op, y, x⟩ := if_pos ⟨O2.out, by rw [EO.out]; exact od0⟩
    have es : (u2.setCell ⟨u1.heap.size, 0, none⟩ (.slice pb bl bc)).heap.size = u2.heap.size := ES.out
    rw [es] at AR UL0
    clear es
    have x0 := F.out.x.cell 0 _ rfl
    have y0 := F.out.y.cell 0 _ rfl
    have c0 := AR.out.cell 0 _ rfl
    have c1 := AR.out.cell 1 _ rfl
    have c2 := AR.out.cell 2 _ rfl
    have c3 := AR.out.cell 3 _ rfl
    have s0 := AR.out.soft 0
    have s1 := AR.out.soft 1
    have s2 := AR.out.soft 2
    have s3 := AR.out.soft 3
    have t4 : Turn (u2.heap.size) u6 ((((u6.setCell ⟨u2.heap.size, 0, none⟩ (.int .i64 4)).setCell ⟨u2.heap.size, 1, none⟩ (.int .i64 op)).setCell ⟨u2.heap.size, 2, none⟩ (.slice qy y.length cy)).setCell ⟨u2.heap.size, 3, none⟩ (.slice qx x.length cx)) := (((((Turn.refl (u2.heap.size) u6).setCell (p := ⟨u2.heap.size, 0, none⟩) rfl (.int .i64 4)).setCell (p := ⟨u2.heap.size, 1, none⟩) rfl (.int .i64 op)).setCell (p := ⟨u2.heap.size, 2, none⟩) rfl (.slice qy y.length cy)).setCell (p := ⟨u2.heap.size, 3, none⟩) rfl (.slice qx x.length cx))
    replace AR := hide ((((AR.out.set 0 (.int .i64 4) (by simp) (show _ = ([.int .i64 4, .int .i64 op, .slice qx x.length cx, .slice qy y.length cy] : List Value) from rfl)).set 1 (.int .i64 op) (by simp) (show _ = ([.int .i64 4, .int .i64 op, .slice qx x.length cx, .slice qy y.length cy] : List Value) from rfl)).set 2 (.slice qy y.length cy) (by simp) (show _ = ([.int .i64 4, .int .i64 op, .slice qy y.length cy, .slice qy y.length cy] : List Value) from rfl)).set 3 (.slice qx x.length cx) (by simp) (show _ = ([.int .i64 4, .int .i64 op, .slice qy y.length cy, .slice qx x.length cx] : List Value) from rfl))
    replace F := hide (F.out.turn t4 (Or.inr (by have := UL0.out; omega)))
    replace HT := hide (HT.out.apart t4 (fun G e => by have := (HG.out G e).2; have := UL0.out; omega) (fun i hi => Or.inr (by have := HH.out i hi; have := UL0.out; omega)))
    replace BW := hide (BW.out.trans (t4.below (by have := UL0.out; omega) BW.out.size))
    have t0 := F.out.t.cell 0 _ rfl
    clear t4
    go_wp2_with fail
    generalize ((((u6.setCell ⟨u2.heap.size, 0, none⟩ (.int .i64 4)).setCell ⟨u2.heap.size, 1, none⟩ (.int .i64 op)).setCell ⟨u2.heap.size, 2, none⟩ (.slice qy y.length cy)).setCell ⟨u2.heap.size, 3, none⟩ (.slice qx x.length cx)) = y6 at F HT BW AR t0 ⊢
    clear x0 y0 c0 c1 c2 c3 s0 s1 s2 s3 t0
    have HA : Hid (doA op x y = ⟨4, op, y, x⟩) := HA0
    rw [HA.out] at ET EP
    have t0 := F.out.t.cell 0 _ rfl
    have c0 := AR.out.cell 0 _ rfl
    have c1 := AR.out.cell 1 _ rfl
    have c2 := AR.out.cell 2 _ rfl
    have c3 := AR.out.cell 3 _ rfl
    go_wp2_with fail
    refine (l5Put ts ⟨4, op, y, x⟩ lo cap q cs l m hh _ _ _ _ By Bx _ HT.out (Nat.le_trans hlo BW.out.size) (WY.out.below BW.out) (WX.out.below BW.out) hl).mono ?_
    rintro e u7 ⟨q', cap', cs', l', m', h', rfl, ON, hk, aw⟩
    clear t0 c0 c1 c2 c3
    have UL : Hid (w.heap.size + 1 + 1 + 1 + 1 < y6.heap.size) := F.out.p.lt
    have NS : ∀ b', w.heap.size ≤ b' → ¬ (fun b => q = some ⟨b, 0, none⟩) b' := fun b' hb' (e : q = some ⟨b', 0, none⟩) => by have := (HG.out b' e).2; omega
    have AZ := hide (aw (w.heap.size + 1 + 1 + 1) (by have := UL.out; omega) ⟨fun G e => by have := (HG.out G e).2; omega, fun i hi => Or.inr (by have := HH.out i hi; omega)⟩)
    have AP := hide (aw (w.heap.size + 1 + 1 + 1 + 1) (by have := UL.out; omega) ⟨fun G e => by have := (HG.out G e).2; omega, fun i hi => Or.inr (by have := HH.out i hi; omega)⟩)
    replace F := hide (F.out.keep hk NS)
    have BL : Hid (Below lo w u7) := (BW.out.mono hlo).trans (hk.below (Nat.le_trans hlo BW.out.size) (fun k hk' (e : q = some ⟨k, 0, none⟩) => by have := (HG.out k e).1; omega))
    replace UL : Hid (w.heap.size + 1 + 1 + 1 + 1 < u7.heap.size) := F.out.p.lt
    replace ON := hide ON
    clear hk aw NS HT BW AR
    obtain ⟨TT, eTT⟩ : ∃ TT, putT ts ⟨4, op, y, x⟩ = TT := ⟨_, rfl⟩
    obtain ⟨KK, eKK⟩ : ∃ KK, putN ts ⟨4, op, y, x⟩ = KK := ⟨_, rfl⟩
    rw [eTT] at ON AZ AP ET ⊢
    rw [eKK] at ET EP ⊢
    clear eTT eKK HA
    have bo : Below u7.heap.size u7 (u7.alloc (.cells #[.slice q' TT.length cap'] 32)) := (Below.refl _ _).alloc (Nat.le_refl _) _
    have BX := hide (Rec.new u7 [.slice q' TT.length cap'] 32)
    replace F := hide (F.out.below bo)
    have OB : Hid ((∀ G, q' = some ⟨G, 0, none⟩ → G < u7.heap.size) ∧ ∀ i, i < TT.length → h' i ≤ u7.heap.size) := ⟨fun G e => (ON.out.q_lt e).2, fun i hi => ON.out.hi hi⟩
    have SU : Hid ((u7.alloc (.cells #[.slice q' TT.length cap'] 32)).heap.size = u7.heap.size + 1) := by simp [Hid]
    replace ON := hide (ON.out.below bo)
    replace BL := hide (BL.out.trans (bo.mono (Nat.le_trans hlo BL.out.size)))
    clear bo
    by_cases kn : KK < 0
    · have HD : Hid ([] = RT ∧ [] = RP) := show _ ∧ _ by rw [← ET.out, ← EP.out, if_neg (by rw [PF.out]; decide), if_pos kn, if_neg (by rw [PF.out]; decide), if_pos kn]; exact ⟨rfl, rfl⟩
      clear ET EP
      have z0 := F.out.z.cell 0 _ rfl
      have s0 := F.out.z.soft 0
      have z1 := F.out.p.cell 0 _ rfl
      have s1 := F.out.p.soft 0
      have N1 : Turn (w.heap.size + 1 + 1 + 1) (u7.alloc (.cells #[.slice q' TT.length cap'] 32)) ((u7.alloc (.cells #[.slice q' TT.length cap'] 32)).setCell ⟨w.heap.size + 1 + 1 + 1, 0, none⟩ (.slice none 0 0)) := (Turn.refl _ _).setCell (p := ⟨w.heap.size + 1 + 1 + 1, 0, none⟩) rfl _
      have N2 : Turn (w.heap.size + 1 + 1 + 1 + 1) ((u7.alloc (.cells #[.slice q' TT.length cap'] 32)).setCell ⟨w.heap.size + 1 + 1 + 1, 0, none⟩ (.slice none 0 0)) (((u7.alloc (.cells #[.slice q' TT.length cap'] 32)).setCell ⟨w.heap.size + 1 + 1 + 1, 0, none⟩ (.slice none 0 0)).setCell ⟨w.heap.size + 1 + 1 + 1 + 1, 0, none⟩ (.slice none 0 0)) := (Turn.refl _ _).setCell (p := ⟨w.heap.size + 1 + 1 + 1 + 1, 0, none⟩) rfl _
      have R0 := hide ((F.out.z.set 0 (.slice none 0 0) (by simp) rfl).turn N2 (by omega))
      have R1 := hide ((F.out.p.turn N1 (by omega)).set 0 (.slice none 0 0) (by simp) rfl)
      have TF := hide (told_cast (told_nil (u := w) hlo ((BL.out.trans (N1.below (by omega) (Nat.le_trans hlo BL.out.size))).trans (N2.below (by omega) (Nat.le_trans (Nat.le_trans hlo BL.out.size) N1.size)))) HD.out.1 HD.out.2)
      clear F ON BX AZ AP N1 N2
      go_wp2
      generalize (((u7.alloc (.cells #[.slice q' TT.length cap'] 32)).setCell ⟨w.heap.size + 1 + 1 + 1, 0, none⟩ (.slice none 0 0)).setCell ⟨w.heap.size + 1 + 1 + 1 + 1, 0, none⟩ (.slice none 0 0)) = y9 at R0 R1 TF ⊢
      have r0 := R0.out.cell 0 _ rfl
      have r1 := R1.out.cell 0 _ rfl
      exact bodyPost_ret (v := .tuple #[.agg #[.slice none 0 0], .agg #[.slice none 0 0]]) (by simp [results, Tryz.results21, go_sem, r0, r1]) rfl TF.out
    have HD : Hid (TT = RT ∧ atomP KK = RP) := show _ ∧ _ by rw [← ET.out, ← EP.out, if_neg (by rw [PF.out]; decide), if_neg kn, if_neg (by rw [PF.out]; decide), if_neg kn]; exact ⟨rfl, rfl⟩
    clear ET EP
    have bA : Below (u7.alloc (.cells #[.slice q' TT.length cap'] 32)).heap.size (u7.alloc (.cells #[.slice q' TT.length cap'] 32)) (u7.alloc (.cells #[.slice q' TT.length cap'] 32)).drew := (Below.refl _ _).drew
    go_wp2_with fail
    refine (wpIn_wide (n := 0)).1 ?_
    replace F := hide (F.out.below bA)
    replace BX := hide (BX.out.below bA)
    replace ON := hide (ON.out.below bA)
    replace BL := hide (BL.out.trans (bA.mono (Nat.le_trans hlo BL.out.size)))
    refine PhaseIn.region (S := fun w' => Rec u7.heap.size [.slice q' TT.length cap'] w' ∧ True) 5 (by kernel_rfl) ?_
    have SD : Hid (u7.heap.size < (u7.alloc (.cells #[.slice q' TT.length cap'] 32)).drew.heap.size) := BX.out.lt
    generalize (u7.alloc (.cells #[.slice q' TT.length cap'] 32)).drew = d8 at F BX ON BL SD ⊢
    have hHeld : Rec u7.heap.size [.slice q' TT.length cap'] d8 ∧ True := ⟨BX.out, trivial⟩
    clear bA SU
    refine PhaseIn.takeE (i := 0) (v := ?_) [0, 3, 4] 64 rfl (by rfl) (by kernel_rfl) (fun _ _ _ h => h) (Or.inl ⟨by kernel_rfl, ?_⟩) hHeld ?_
    rotate_left
    · intro w' hSw
      (try dsimp only at hSw)
      have z0 := hSw.1.cell 0 _ rfl
      go_simp
      first | done | with_reducible rfl
    try simp only [Act.put, sA, List.set]
    refine PhaseIn.takeE (i := 1) (v := ?_) [1, 2, 3, 4] 65 rfl (by rfl) (by kernel_rfl) (fun _ _ _ h => h) (Or.inl ⟨by kernel_rfl, ?_⟩) hHeld ?_
    rotate_left
    · intro w' hSw
      (try dsimp only at hSw)
      go_simp
      first | done | with_reducible rfl
    try simp only [Act.put, sA, List.set]
    refine PhaseIn.one (i := 2) (by kernel_rfl) rfl (by kernel_rfl) (fun K hK => ?_)
    unfold Oper.wpIn
    refine ⟨fun _ _ => trivial, ?_⟩
    go_simp
    refine ⟨rfl, (callsIn_wide.2 (specAtom KK _)).mono ?_⟩
    rintro e u9 ⟨ra, rl, rc, rfl, MA, hb⟩
    refine hK _ _ (fun _ => ⟨hHeld.1.below hb, trivial⟩) ?_
    replace hHeld : Rec u7.heap.size [.slice q' TT.length cap'] u9 ∧ True := ⟨hHeld.1.below hb, trivial⟩
    replace MA := hide MA
    have S9 : Hid (d8.heap.size ≤ u9.heap.size) := hb.size
    replace F := hide (F.out.below hb)
    replace ON := hide (ON.out.below hb)
    replace BL := hide (BL.out.trans (hb.mono (Nat.le_trans hlo BL.out.size)))
    clear hK K hb BX
    try simp only [Act.put, sA, List.set]
    have z0 := F.out.z.cell 0 _ rfl
    have s0 := F.out.z.soft 0
    refine PhaseIn.one (i := 3) (by kernel_rfl) rfl (by kernel_rfl) (fun K hK => ?_)
    unfold Oper.wpIn
    refine ⟨fun _ _ => trivial, ?_⟩
    go_simp
    have t1 : Turn (w.heap.size + 1 + 1 + 1) u9 (u9.setCell ⟨w.heap.size + 1 + 1 + 1, 0, none⟩ (.slice q' TT.length cap')) := (Turn.refl _ u9).setCell (p := ⟨w.heap.size + 1 + 1 + 1, 0, none⟩) rfl _
    have hHeld2 : Rec u7.heap.size [.slice q' TT.length cap'] (u9.setCell ⟨w.heap.size + 1 + 1 + 1, 0, none⟩ (.slice q' TT.length cap')) ∧ True := ⟨hHeld.1.turn t1 (by have := UL.out; omega), trivial⟩
    refine hK _ _ (fun _ => hHeld2) ?_
    have ZT := hide (F.out.z.set 0 (.slice q' TT.length cap') (by simp) rfl)
    have ZP := hide (F.out.p.turn t1 (by omega))
    replace ON := hide (ON.out.apart t1 AZ.out.1 AZ.out.2)
    replace MA := hide (MA.out.keep (Keep.of_turn t1) (fun b' h1 h2 (h3 : b' = _) => by have := UL.out; have := SD.out; omega))
    replace BL := hide (BL.out.trans (t1.below (by omega) (Nat.le_trans hlo BL.out.size)))
    have S10 : Hid (u9.heap.size ≤ (u9.setCell ⟨w.heap.size + 1 + 1 + 1, 0, none⟩ (.slice q' TT.length cap')).heap.size) := t1.size
    clear hK K z0 s0 hHeld t1 F
    try simp only [Act.put, sA, List.set]
    generalize u9.setCell ⟨w.heap.size + 1 + 1 + 1, 0, none⟩ (.slice q' TT.length cap') = v6 at ZT ZP ON MA BL S10 hHeld2 ⊢
    have z0 := ZP.out.cell 0 _ rfl
    have s0 := ZP.out.soft 0
    refine PhaseIn.one (i := 4) (by kernel_rfl) rfl (by kernel_rfl) (fun K hK => ?_)
    unfold Oper.wpIn
    refine ⟨fun _ _ => trivial, ?_⟩
    go_simp
    have t2 : Turn (w.heap.size + 1 + 1 + 1 + 1) v6 (v6.setCell ⟨w.heap.size + 1 + 1 + 1 + 1, 0, none⟩ (.slice ra rl rc)) := (Turn.refl _ v6).setCell (p := ⟨w.heap.size + 1 + 1 + 1 + 1, 0, none⟩) rfl _
    have hHeld3 : Rec u7.heap.size [.slice q' TT.length cap'] (v6.setCell ⟨w.heap.size + 1 + 1 + 1 + 1, 0, none⟩ (.slice ra rl rc)) ∧ True := ⟨hHeld2.1.turn t2 (by have := UL.out; omega), trivial⟩
    refine hK _ _ (fun _ => hHeld3) ?_
    replace ZT := hide (ZT.out.turn t2 (by omega))
    replace ZP := hide (ZP.out.set 0 (.slice ra rl rc) (by simp) rfl)
    replace ON := hide (ON.out.apart t2 AP.out.1 AP.out.2)
    replace MA := hide ((MA.out.keep (Keep.of_turn t2) (fun b' h1 h2 (h3 : b' = _) => by have := UL.out; have := SD.out; omega)).wide (lo' := d8.heap.size) (hi' := (v6.setCell ⟨w.heap.size + 1 + 1 + 1 + 1, 0, none⟩ (.slice ra rl rc)).heap.size) (Nat.le_refl _) (Nat.le_trans S10.out t2.size))
    replace BL := hide (BL.out.trans (t2.below (by omega) (Nat.le_trans hlo BL.out.size)))
    clear hK K z0 s0 hHeld2 t2
    try simp only [Act.put, sA, List.set]
    generalize v6.setCell ⟨w.heap.size + 1 + 1 + 1 + 1, 0, none⟩ (.slice ra rl rc) = v7 at ZT ZP ON MA BL hHeld3 ⊢
    refine PhaseIn.done (by kernel_rfl) ?_ _
    have z0 := ZT.out.cell 0 _ rfl
    have z1 := ZP.out.cell 0 _ rfl
    clear hHeld3
    have TF := hide (told_cast ⟨⟨q', cap', cs', l', m', h', d8.heap.size, _, _, _, rfl, ON.out, (fun G e => by have := OB.out.1 G e; have := SD.out; omega), (fun i hi => by have := OB.out.2 i hi; have := SD.out; omega), by have := SD.out; have := UL.out; omega, MA.out⟩, BL.out⟩ HD.out.1 HD.out.2 : Told2 w lo v7 (.returned (.tuple #[.agg #[(.slice q' TT.length cap')], .agg #[(.slice ra rl rc)]])) RT RP)
    go_wp2
    exact bodyPost_ret (v := .tuple #[.agg #[(.slice q' TT.length cap')], .agg #[(.slice ra rl rc)]]) (by simp [results, Tryz.results21, go_sem, z0, z1]) rfl TF.out
 · go_wp2_with fail
   refine (l5Bits op x y Bx By _ _ _ (WX.out.below BW.out) (WY.out.below BW.out) HO.out OX.out OY.out).mono ?_
   rintro e u2 ⟨⟨pb, bl, bc, rfl, MW⟩, hb⟩
   clear x0 y0
   have S2 : Hid ((u1.alloc (.cells #[.slice pa pl pc] 35)).heap.size ≤ u2.heap.size) := hb.size
   replace MW := hide MW
   replace PB := hide (PB.out.below hb)
   replace F := hide (F.out.below hb)
   replace HT := hide (HT.out.below hb)
   replace BW := hide (BW.out.trans (hb.mono BW.out.size))
   clear hb VL
   have VL : Hid (w.heap.size + 1 + 1 + 1 + 1 < (u1.alloc (.cells #[.slice pa pl pc] 35)).heap.size ∧ w.heap.size + 1 + 1 + 1 + 1 < u1.heap.size) := ⟨by have := SA.out; have := UL1.out; omega, UL1.out⟩
   have p0 := PB.out.cell 0 _ rfl
   have q0 := PB.out.soft 0
   have t3 : Turn u1.heap.size u2 (u2.setCell ⟨u1.heap.size, 0, none⟩ (.slice pb bl bc)) := (Turn.refl _ u2).setCell (p := ⟨u1.heap.size, 0, none⟩) rfl _
   replace PB := hide (PB.out.set 0 (.slice pb bl bc) (by simp) rfl)
   replace F := hide (F.out.turn t3 (Or.inr UL1.out))
   replace HT := hide (HT.out.apart t3 (fun G e => by have := (HG.out G e).2; have := UL1.out; omega) (fun i hi => Or.inr (by have := HH.out i hi; have := UL1.out; omega)))
   replace MW := hide (MW.out.keep (Keep.of_turn t3) (fun b' h1 h2 (h3 : b' = _) => by have := SA.out; omega))
   replace BW := hide (BW.out.trans (t3.below (by have := UL1.out; omega) BW.out.size))
   have HI0 : u2.heap.size ≤ (u2.setCell ⟨u1.heap.size, 0, none⟩ (.slice pb bl bc)).heap.size := t3.size
   have ES : Hid ((u2.setCell ⟨u1.heap.size, 0, none⟩ (.slice pb bl bc)).heap.size = u2.heap.size) := by simp [Hid]
   clear t3 UL1
   cases eb : bitsB op x y with
   | true =>
    have HI : Hid (u2.heap.size ≤ (u2.setCell ⟨u1.heap.size, 0, none⟩ (.slice pb bl bc)).heap.size) := HI0
    have HD : Hid (ts = RT ∧ (plP op x y) = RP) := show _ ∧ _ by
     rw [← ET.out, ← EP.out]
     have e1 : plB op x y = true := by rw [PLB.out]; exact eb
     rw [if_pos e1, if_pos e1]
     exact ⟨rfl, rfl⟩
    clear ET EP eb
    rw [PLP2.out] at MW
    have bA : Below (u2.setCell ⟨u1.heap.size, 0, none⟩ (.slice pb bl bc)).heap.size (u2.setCell ⟨u1.heap.size, 0, none⟩ (.slice pb bl bc)) (u2.setCell ⟨u1.heap.size, 0, none⟩ (.slice pb bl bc)).drew := (Below.refl _ _).drew
    go_wp2_with fail
    refine (wpIn_wide (n := 0)).1 ?_
    replace F := hide (F.out.below bA)
    replace HT := hide (HT.out.below bA)
    replace MW := hide (MW.out.below bA)
    replace PB := hide (PB.out.below bA)
    replace BW := hide (BW.out.trans (bA.mono BW.out.size))
    refine PhaseIn.region (S := fun w' => Rec w.heap.size [.slice q ts.length cap] w' ∧ Rec u1.heap.size [.slice pb bl bc] w') 4 (by kernel_rfl) ?_
    replace HI : Hid (u2.heap.size ≤ (u2.setCell ⟨u1.heap.size, 0, none⟩ (.slice pb bl bc)).drew.heap.size) := HI.out
    generalize (u2.setCell ⟨u1.heap.size, 0, none⟩ (.slice pb bl bc)).drew = d5 at F HT BW MW PB HI ⊢
    have hHeld := And.intro F.out.t PB.out
    clear bA
    refine PhaseIn.takeE (i := 0) (v := ?_) [0, 2, 3] 36 rfl (by rfl) (by kernel_rfl) (fun _ _ _ h => h) (Or.inl ⟨by kernel_rfl, ?_⟩) hHeld ?_
    rotate_left
    · intro w' hSw
      (try dsimp only at hSw)
      have z0 := hSw.1.cell 0 _ rfl
      go_simp
      first | done | with_reducible rfl
    try simp only [Act.put, sA, List.set]
    refine PhaseIn.takeE (i := 1) (v := ?_) [1, 3] 37 rfl (by rfl) (by kernel_rfl) (fun _ _ _ h => h) (Or.inl ⟨by kernel_rfl, ?_⟩) hHeld ?_
    rotate_left
    · intro w' hSw
      (try dsimp only at hSw)
      have z0 := hSw.2.cell 0 _ rfl
      go_simp
      first | done | with_reducible rfl
    try simp only [Act.put, sA, List.set]
    have z0 := F.out.z.cell 0 _ rfl
    have s0 := F.out.z.soft 0
    refine PhaseIn.one (i := 2) (by kernel_rfl) rfl (by kernel_rfl) (fun K hK => ?_)
    unfold Oper.wpIn
    refine ⟨fun _ _ => trivial, ?_⟩
    go_simp
    have t1 : Turn (w.heap.size + 1 + 1 + 1) d5 (d5.setCell ⟨w.heap.size + 1 + 1 + 1, 0, none⟩ (.slice q ts.length cap)) := (Turn.refl _ d5).setCell (p := ⟨w.heap.size + 1 + 1 + 1, 0, none⟩) rfl _
    have hHeld2 := And.intro (hHeld.1.turn t1 (by omega)) (hHeld.2.turn t1 (by have := VL.out; omega))
    refine hK _ _ (fun _ => hHeld2) ?_
    have ZT := hide (F.out.z.set 0 (.slice q ts.length cap) (by simp) rfl)
    have ZP := hide (F.out.p.turn t1 (by omega))
    replace HT := hide (HT.out.apart t1 (fun G e => by have := (HG.out G e).2; omega) (fun i hi => Or.inr (by have := HH.out i hi; omega)))
    replace MW := hide (MW.out.keep (Keep.of_turn t1) (fun b' h1 h2 (h3 : b' = _) => by have := VL.out; omega))
    replace BW := hide (BW.out.trans (t1.below (by omega) BW.out.size))
    replace HI : Hid (u2.heap.size ≤ (d5.setCell ⟨w.heap.size + 1 + 1 + 1, 0, none⟩ (.slice q ts.length cap)).heap.size) := Nat.le_trans HI.out t1.size
    clear hK K z0 s0 hHeld t1 F
    try simp only [Act.put, sA, List.set]
    generalize d5.setCell ⟨w.heap.size + 1 + 1 + 1, 0, none⟩ (.slice q ts.length cap) = d6 at ZT ZP HT MW BW HI hHeld2 ⊢
    have z0 := ZP.out.cell 0 _ rfl
    have s0 := ZP.out.soft 0
    refine PhaseIn.one (i := 3) (by kernel_rfl) rfl (by kernel_rfl) (fun K hK => ?_)
    unfold Oper.wpIn
    refine ⟨fun _ _ => trivial, ?_⟩
    go_simp
    have t2 : Turn (w.heap.size + 1 + 1 + 1 + 1) d6 (d6.setCell ⟨w.heap.size + 1 + 1 + 1 + 1, 0, none⟩ (.slice pb bl bc)) := (Turn.refl _ d6).setCell (p := ⟨w.heap.size + 1 + 1 + 1 + 1, 0, none⟩) rfl _
    have hHeld3 := And.intro (hHeld2.1.turn t2 (by omega)) (hHeld2.2.turn t2 (by have := VL.out; omega))
    refine hK _ _ (fun _ => hHeld3) ?_
    replace ZT := hide (ZT.out.turn t2 (by omega))
    replace ZP := hide (ZP.out.set 0 (.slice pb bl bc) (by simp) rfl)
    replace HT := hide (HT.out.apart t2 (fun G e => by have := (HG.out G e).2; omega) (fun i hi => Or.inr (by have := HH.out i hi; omega)))
    replace MW := hide ((MW.out.keep (Keep.of_turn t2) (fun b' h1 h2 (h3 : b' = _) => by have := VL.out; omega)).wide (lo' := (u1.alloc (.cells #[.slice pa pl pc] 35)).heap.size) (hi' := (d6.setCell ⟨w.heap.size + 1 + 1 + 1 + 1, 0, none⟩ (.slice pb bl bc)).heap.size) (Nat.le_refl _) (Nat.le_trans HI.out t2.size))
    replace BW := hide ((BW.out.trans (t2.below (by omega) BW.out.size)).mono hlo)
    clear hK K z0 s0 hHeld2 t2 HI
    try simp only [Act.put, sA, List.set]
    generalize d6.setCell ⟨w.heap.size + 1 + 1 + 1 + 1, 0, none⟩ (.slice pb bl bc) = d7 at ZT ZP HT MW BW hHeld3 ⊢
    refine PhaseIn.done (by kernel_rfl) ?_ _
    have z0 := ZT.out.cell 0 _ rfl
    have z1 := ZP.out.cell 0 _ rfl
    clear hHeld3
    have TF := hide (told_cast ⟨⟨q, cap, cs, l, m, hh, (u1.alloc (.cells #[.slice pa pl pc] 35)).heap.size, _, _, _, rfl, HT.out, (fun G e => by have := (HG.out G e).2; have := VL.out; omega), (fun i hi => by have := HH.out i hi; have := VL.out; omega), by have := VL.out; omega, MW.out⟩, BW.out⟩ HD.out.1 HD.out.2 : Told2 w lo d7 (.returned (.tuple #[.agg #[.slice q ts.length cap], .agg #[.slice pb bl bc]])) RT RP)
    go_wp2
    exact bodyPost_ret (v := .tuple #[.agg #[.slice q ts.length cap], .agg #[.slice pb bl bc]]) (by simp [results, Tryz.results21, go_sem, z0, z1]) rfl TF.out
   | false =>
    have PF : Hid (plB op x y = false) := PLB.out.trans eb
    clear eb MW PB
    have x0 := F.out.x.cell 0 _ rfl
    have y0 := F.out.y.cell 0 _ rfl
    have UL0 : Hid (w.heap.size + 1 + 1 + 1 + 1 < (u2.setCell ⟨u1.heap.size, 0, none⟩ (.slice pb bl bc)).heap.size) := F.out.p.lt
    have bo : Below (u2.setCell ⟨u1.heap.size, 0, none⟩ (.slice pb bl bc)).heap.size (u2.setCell ⟨u1.heap.size, 0, none⟩ (.slice pb bl bc)) ((u2.setCell ⟨u1.heap.size, 0, none⟩ (.slice pb bl bc)).alloc (.cells #[.int .i64 4, .int .i64 op, .slice qx x.length cx, .slice qy y.length cy] 63)) := (Below.refl _ _).alloc (Nat.le_refl _) _
    have AR := hide (Rec.new (u2.setCell ⟨u1.heap.size, 0, none⟩ (.slice pb bl bc)) [.int .i64 4, .int .i64 op, .slice qx x.length cx, .slice qy y.length cy] 63)
    replace F := hide (F.out.below bo)
    replace HT := hide (HT.out.below bo)
    replace BW := hide (BW.out.trans (bo.mono BW.out.size))
    clear bo
    have x1 := F.out.x.cell 0 _ rfl
    have y1 := F.out.y.cell 0 _ rfl
    by_cases o2 : op = 2
    · have HA0 : doA op x y = ⟨4, op, x, y⟩ := if_neg (fun h => h.1 o2)
      have g2 : (op != 2) = false := by simp [o2]
      clear o2
      have HA : Hid (doA op x y = ⟨4, op, x, y⟩) := HA0
      rw [HA.out] at ET EP
      have t0 := F.out.t.cell 0 _ rfl
      have c0 := AR.out.cell 0 _ rfl
      have c1 := AR.out.cell 1 _ rfl
      have c2 := AR.out.cell 2 _ rfl
      have c3 := AR.out.cell 3 _ rfl
      go_wp2_with fail
      refine (l5Put ts ⟨4, op, x, y⟩ lo cap q cs l m hh _ _ _ _ Bx By _ HT.out (Nat.le_trans hlo BW.out.size) (WX.out.below BW.out) (WY.out.below BW.out) hl).mono ?_
      rintro e u7 ⟨q', cap', cs', l', m', h', rfl, ON, hk, aw⟩
      clear t0 c0 c1 c2 c3
      have UL : Hid (w.heap.size + 1 + 1 + 1 + 1 < ((u2.setCell ⟨u1.heap.size, 0, none⟩ (.slice pb bl bc)).alloc (.cells #[.int .i64 4, .int .i64 op, .slice qx x.length cx, .slice qy y.length cy] 63)).heap.size) := F.out.p.lt
      have NS : ∀ b', w.heap.size ≤ b' → ¬ (fun b => q = some ⟨b, 0, none⟩) b' := fun b' hb' (e : q = some ⟨b', 0, none⟩) => by have := (HG.out b' e).2; omega
      have AZ := hide (aw (w.heap.size + 1 + 1 + 1) (by have := UL.out; omega) ⟨fun G e => by have := (HG.out G e).2; omega, fun i hi => Or.inr (by have := HH.out i hi; omega)⟩)
      have AP := hide (aw (w.heap.size + 1 + 1 + 1 + 1) (by have := UL.out; omega) ⟨fun G e => by have := (HG.out G e).2; omega, fun i hi => Or.inr (by have := HH.out i hi; omega)⟩)
      replace F := hide (F.out.keep hk NS)
      have BL : Hid (Below lo w u7) := (BW.out.mono hlo).trans (hk.below (Nat.le_trans hlo BW.out.size) (fun k hk' (e : q = some ⟨k, 0, none⟩) => by have := (HG.out k e).1; omega))
      replace UL : Hid (w.heap.size + 1 + 1 + 1 + 1 < u7.heap.size) := F.out.p.lt
      replace ON := hide ON
      clear hk aw NS HT BW AR
      obtain ⟨TT, eTT⟩ : ∃ TT, putT ts ⟨4, op, x, y⟩ = TT := ⟨_, rfl⟩
      obtain ⟨KK, eKK⟩ : ∃ KK, putN ts ⟨4, op, x, y⟩ = KK := ⟨_, rfl⟩
      rw [eTT] at ON AZ AP ET ⊢
      rw [eKK] at ET EP ⊢
      clear eTT eKK HA
      have bo : Below u7.heap.size u7 (u7.alloc (.cells #[.slice q' TT.length cap'] 32)) := (Below.refl _ _).alloc (Nat.le_refl _) _
      have BX := hide (Rec.new u7 [.slice q' TT.length cap'] 32)
      replace F := hide (F.out.below bo)
      have OB : Hid ((∀ G, q' = some ⟨G, 0, none⟩ → G < u7.heap.size) ∧ ∀ i, i < TT.length → h' i ≤ u7.heap.size) := ⟨fun G e => (ON.out.q_lt e).2, fun i hi => ON.out.hi hi⟩
      have SU : Hid ((u7.alloc (.cells #[.slice q' TT.length cap'] 32)).heap.size = u7.heap.size + 1) := by simp [Hid]
      replace ON := hide (ON.out.below bo)
      replace BL := hide (BL.out.trans (bo.mono (Nat.le_trans hlo BL.out.size)))
      clear bo
      by_cases kn : KK < 0
      · have HD : Hid ([] = RT ∧ [] = RP) := show _ ∧ _ by rw [← ET.out, ← EP.out, if_neg (by rw [PF.out]; decide), if_pos kn, if_neg (by rw [PF.out]; decide), if_pos kn]; exact ⟨rfl, rfl⟩
        clear ET EP
        have z0 := F.out.z.cell 0 _ rfl
        have s0 := F.out.z.soft 0
        have z1 := F.out.p.cell 0 _ rfl
        have s1 := F.out.p.soft 0
        have N1 : Turn (w.heap.size + 1 + 1 + 1) (u7.alloc (.cells #[.slice q' TT.length cap'] 32)) ((u7.alloc (.cells #[.slice q' TT.length cap'] 32)).setCell ⟨w.heap.size + 1 + 1 + 1, 0, none⟩ (.slice none 0 0)) := (Turn.refl _ _).setCell (p := ⟨w.heap.size + 1 + 1 + 1, 0, none⟩) rfl _
        have N2 : Turn (w.heap.size + 1 + 1 + 1 + 1) ((u7.alloc (.cells #[.slice q' TT.length cap'] 32)).setCell ⟨w.heap.size + 1 + 1 + 1, 0, none⟩ (.slice none 0 0)) (((u7.alloc (.cells #[.slice q' TT.length cap'] 32)).setCell ⟨w.heap.size + 1 + 1 + 1, 0, none⟩ (.slice none 0 0)).setCell ⟨w.heap.size + 1 + 1 + 1 + 1, 0, none⟩ (.slice none 0 0)) := (Turn.refl _ _).setCell (p := ⟨w.heap.size + 1 + 1 + 1 + 1, 0, none⟩) rfl _
        have R0 := hide ((F.out.z.set 0 (.slice none 0 0) (by simp) rfl).turn N2 (by omega))
        have R1 := hide ((F.out.p.turn N1 (by omega)).set 0 (.slice none 0 0) (by simp) rfl)
        have TF := hide (told_cast (told_nil (u := w) hlo ((BL.out.trans (N1.below (by omega) (Nat.le_trans hlo BL.out.size))).trans (N2.below (by omega) (Nat.le_trans (Nat.le_trans hlo BL.out.size) N1.size)))) HD.out.1 HD.out.2)
        clear F ON BX AZ AP N1 N2
        go_wp2
        generalize (((u7.alloc (.cells #[.slice q' TT.length cap'] 32)).setCell ⟨w.heap.size + 1 + 1 + 1, 0, none⟩ (.slice none 0 0)).setCell ⟨w.heap.size + 1 + 1 + 1 + 1, 0, none⟩ (.slice none 0 0)) = y9 at R0 R1 TF ⊢
        have r0 := R0.out.cell 0 _ rfl
        have r1 := R1.out.cell 0 _ rfl
        exact bodyPost_ret (v := .tuple #[.agg #[.slice none 0 0], .agg #[.slice none 0 0]]) (by simp [results, Tryz.results21, go_sem, r0, r1]) rfl TF.out
      have HD : Hid (TT = RT ∧ atomP KK = RP) := show _ ∧ _ by rw [← ET.out, ← EP.out, if_neg (by rw [PF.out]; decide), if_neg kn, if_neg (by rw [PF.out]; decide), if_neg kn]; exact ⟨rfl, rfl⟩
      clear ET EP
      have bA : Below (u7.alloc (.cells #[.slice q' TT.length cap'] 32)).heap.size (u7.alloc (.cells #[.slice q' TT.length cap'] 32)) (u7.alloc (.cells #[.slice q' TT.length cap'] 32)).drew := (Below.refl _ _).drew
      go_wp2_with fail
      refine (wpIn_wide (n := 0)).1 ?_
      replace F := hide (F.out.below bA)
      replace BX := hide (BX.out.below bA)
      replace ON := hide (ON.out.below bA)
      replace BL := hide (BL.out.trans (bA.mono (Nat.le_trans hlo BL.out.size)))
      refine PhaseIn.region (S := fun w' => Rec u7.heap.size [.slice q' TT.length cap'] w' ∧ True) 5 (by kernel_rfl) ?_
      have SD : Hid (u7.heap.size < (u7.alloc (.cells #[.slice q' TT.length cap'] 32)).drew.heap.size) := BX.out.lt
      generalize (u7.alloc (.cells #[.slice q' TT.length cap'] 32)).drew = d8 at F BX ON BL SD ⊢
      have hHeld : Rec u7.heap.size [.slice q' TT.length cap'] d8 ∧ True := ⟨BX.out, trivial⟩
      clear bA SU
      refine PhaseIn.takeE (i := 0) (v := ?_) [0, 3, 4] 64 rfl (by rfl) (by kernel_rfl) (fun _ _ _ h => h) (Or.inl ⟨by kernel_rfl, ?_⟩) hHeld ?_
      rotate_left
      · intro w' hSw
        (try dsimp only at hSw)
        have z0 := hSw.1.cell 0 _ rfl
        go_simp
        first | done | with_reducible rfl
      try simp only [Act.put, sA, List.set]
      refine PhaseIn.takeE (i := 1) (v := ?_) [1, 2, 3, 4] 65 rfl (by rfl) (by kernel_rfl) (fun _ _ _ h => h) (Or.inl ⟨by kernel_rfl, ?_⟩) hHeld ?_
      rotate_left
      · intro w' hSw
        (try dsimp only at hSw)
        go_simp
        first | done | with_reducible rfl
      try simp only [Act.put, sA, List.set]
      refine PhaseIn.one (i := 2) (by kernel_rfl) rfl (by kernel_rfl) (fun K hK => ?_)
      unfold Oper.wpIn
      refine ⟨fun _ _ => trivial, ?_⟩
      go_simp
      refine ⟨rfl, (callsIn_wide.2 (specAtom KK _)).mono ?_⟩
      rintro e u9 ⟨ra, rl, rc, rfl, MA, hb⟩
      refine hK _ _ (fun _ => ⟨hHeld.1.below hb, trivial⟩) ?_
      replace hHeld : Rec u7.heap.size [.slice q' TT.length cap'] u9 ∧ True := ⟨hHeld.1.below hb, trivial⟩
      replace MA := hide MA
      have S9 : Hid (d8.heap.size ≤ u9.heap.size) := hb.size
      replace F := hide (F.out.below hb)
      replace ON := hide (ON.out.below hb)
      replace BL := hide (BL.out.trans (hb.mono (Nat.le_trans hlo BL.out.size)))
      clear hK K hb BX
      try simp only [Act.put, sA, List.set]
      have z0 := F.out.z.cell 0 _ rfl
      have s0 := F.out.z.soft 0
      refine PhaseIn.one (i := 3) (by kernel_rfl) rfl (by kernel_rfl) (fun K hK => ?_)
      unfold Oper.wpIn
      refine ⟨fun _ _ => trivial, ?_⟩
      go_simp
      have t1 : Turn (w.heap.size + 1 + 1 + 1) u9 (u9.setCell ⟨w.heap.size + 1 + 1 + 1, 0, none⟩ (.slice q' TT.length cap')) := (Turn.refl _ u9).setCell (p := ⟨w.heap.size + 1 + 1 + 1, 0, none⟩) rfl _
      have hHeld2 : Rec u7.heap.size [.slice q' TT.length cap'] (u9.setCell ⟨w.heap.size + 1 + 1 + 1, 0, none⟩ (.slice q' TT.length cap')) ∧ True := ⟨hHeld.1.turn t1 (by have := UL.out; omega), trivial⟩
      refine hK _ _ (fun _ => hHeld2) ?_
      have ZT := hide (F.out.z.set 0 (.slice q' TT.length cap') (by simp) rfl)
      have ZP := hide (F.out.p.turn t1 (by omega))
      replace ON := hide (ON.out.apart t1 AZ.out.1 AZ.out.2)
      replace MA := hide (MA.out.keep (Keep.of_turn t1) (fun b' h1 h2 (h3 : b' = _) => by have := UL.out; have := SD.out; omega))
      replace BL := hide (BL.out.trans (t1.below (by omega) (Nat.le_trans hlo BL.out.size)))
      have S10 : Hid (u9.heap.size ≤ (u9.setCell ⟨w.heap.size + 1 + 1 + 1, 0, none⟩ (.slice q' TT.length cap')).heap.size) := t1.size
      clear hK K z0 s0 hHeld t1 F
      try simp only [Act.put, sA, List.set]
      generalize u9.setCell ⟨w.heap.size + 1 + 1 + 1, 0, none⟩ (.slice q' TT.length cap') = v6 at ZT ZP ON MA BL S10 hHeld2 ⊢
      have z0 := ZP.out.cell 0 _ rfl
      have s0 := ZP.out.soft 0
      refine PhaseIn.one (i := 4) (by kernel_rfl) rfl (by kernel_rfl) (fun K hK => ?_)
      unfold Oper.wpIn
      refine ⟨fun _ _ => trivial, ?_⟩
      go_simp
      have t2 : Turn (w.heap.size + 1 + 1 + 1 + 1) v6 (v6.setCell ⟨w.heap.size + 1 + 1 + 1 + 1, 0, none⟩ (.slice ra rl rc)) := (Turn.refl _ v6).setCell (p := ⟨w.heap.size + 1 + 1 + 1 + 1, 0, none⟩) rfl _
      have hHeld3 : Rec u7.heap.size [.slice q' TT.length cap'] (v6.setCell ⟨w.heap.size + 1 + 1 + 1 + 1, 0, none⟩ (.slice ra rl rc)) ∧ True := ⟨hHeld2.1.turn t2 (by have := UL.out; omega), trivial⟩
      refine hK _ _ (fun _ => hHeld3) ?_
      replace ZT := hide (ZT.out.turn t2 (by omega))
      replace ZP := hide (ZP.out.set 0 (.slice ra rl rc) (by simp) rfl)
      replace ON := hide (ON.out.apart t2 AP.out.1 AP.out.2)
      replace MA := hide ((MA.out.keep (Keep.of_turn t2) (fun b' h1 h2 (h3 : b' = _) => by have := UL.out; have := SD.out; omega)).wide (lo' := d8.heap.size) (hi' := (v6.setCell ⟨w.heap.size + 1 + 1 + 1 + 1, 0, none⟩ (.slice ra rl rc)).heap.size) (Nat.le_refl _) (Nat.le_trans S10.out t2.size))
      replace BL := hide (BL.out.trans (t2.below (by omega) (Nat.le_trans hlo BL.out.size)))
      clear hK K z0 s0 hHeld2 t2
      try simp only [Act.put, sA, List.set]
      generalize v6.setCell ⟨w.heap.size + 1 + 1 + 1 + 1, 0, none⟩ (.slice ra rl rc) = v7 at ZT ZP ON MA BL hHeld3 ⊢
      refine PhaseIn.done (by kernel_rfl) ?_ _
      have z0 := ZT.out.cell 0 _ rfl
      have z1 := ZP.out.cell 0 _ rfl
      clear hHeld3
      have TF := hide (told_cast ⟨⟨q', cap', cs', l', m', h', d8.heap.size, _, _, _, rfl, ON.out, (fun G e => by have := OB.out.1 G e; have := SD.out; omega), (fun i hi => by have := OB.out.2 i hi; have := SD.out; omega), by have := SD.out; have := UL.out; omega, MA.out⟩, BL.out⟩ HD.out.1 HD.out.2 : Told2 w lo v7 (.returned (.tuple #[.agg #[(.slice q' TT.length cap')], .agg #[(.slice ra rl rc)]])) RT RP)
      go_wp2
      exact bodyPost_ret (v := .tuple #[.agg #[(.slice q' TT.length cap')], .agg #[(.slice ra rl rc)]]) (by simp [results, Tryz.results21, go_sem, z0, z1]) rfl TF.out
    have g2 : (op != 2) = true := by simp [o2]
    have O2 := hide o2
    clear o2
    go_wp2_with fail
    refine (specOrder x y Bx By _ _ _ (WX.out.below BW.out) (WY.out.below BW.out)).mono ?_
    rintro e u6 ⟨rfl, hb⟩
    replace F := hide (F.out.below hb)
    replace HT := hide (HT.out.below hb)
    replace AR := hide (AR.out.below hb)
    replace BW := hide (BW.out.trans (hb.mono BW.out.size))
    clear hb x0 y0 x1 y1
    obtain ⟨od, eod⟩ : ∃ od, ordP x y = od := ⟨_, rfl⟩
    have EO := hide eod
    rw [eod]
    clear eod
    by_cases od0 : 0 < od
    case neg =>
     have HA0 : doA op x y = ⟨4, op, x, y⟩ := if_neg (fun h => od0 (by have := h.2; rw [EO.out] at this; exact this))
     have es : (u2.setCell ⟨u1.heap.size, 0, none⟩ (.slice pb bl bc)).heap.size = u2.heap.size := ES.out
     rw [es] at AR UL0
     clear es
     have HA : Hid (doA op x y = ⟨4, op, x, y⟩) := HA0
     rw [HA.out] at ET EP
     have t0 := F.out.t.cell 0 _ rfl
     have c0 := AR.out.cell 0 _ rfl
     have c1 := AR.out.cell 1 _ rfl
     have c2 := AR.out.cell 2 _ rfl
     have c3 := AR.out.cell 3 _ rfl
     go_wp2_with fail
     refine (l5Put ts ⟨4, op, x, y⟩ lo cap q cs l m hh _ _ _ _ Bx By _ HT.out (Nat.le_trans hlo BW.out.size) (WX.out.below BW.out) (WY.out.below BW.out) hl).mono ?_
     rintro e u7 ⟨q', cap', cs', l', m', h', rfl, ON, hk, aw⟩
     clear t0 c0 c1 c2 c3
     have UL : Hid (w.heap.size + 1 + 1 + 1 + 1 < u6.heap.size) := F.out.p.lt
     have NS : ∀ b', w.heap.size ≤ b' → ¬ (fun b => q = some ⟨b, 0, none⟩) b' := fun b' hb' (e : q = some ⟨b', 0, none⟩) => by have := (HG.out b' e).2; omega
     have AZ := hide (aw (w.heap.size + 1 + 1 + 1) (by have := UL.out; omega) ⟨fun G e => by have := (HG.out G e).2; omega, fun i hi => Or.inr (by have := HH.out i hi; omega)⟩)
     have AP := hide (aw (w.heap.size + 1 + 1 + 1 + 1) (by have := UL.out; omega) ⟨fun G e => by have := (HG.out G e).2; omega, fun i hi => Or.inr (by have := HH.out i hi; omega)⟩)
     replace F := hide (F.out.keep hk NS)
     have BL : Hid (Below lo w u7) := (BW.out.mono hlo).trans (hk.below (Nat.le_trans hlo BW.out.size) (fun k hk' (e : q = some ⟨k, 0, none⟩) => by have := (HG.out k e).1; omega))
     replace UL : Hid (w.heap.size + 1 + 1 + 1 + 1 < u7.heap.size) := F.out.p.lt
     replace ON := hide ON
     clear hk aw NS HT BW AR
     obtain ⟨TT, eTT⟩ : ∃ TT, putT ts ⟨4, op, x, y⟩ = TT := ⟨_, rfl⟩
     obtain ⟨KK, eKK⟩ : ∃ KK, putN ts ⟨4, op, x, y⟩ = KK := ⟨_, rfl⟩
     rw [eTT] at ON AZ AP ET ⊢
     rw [eKK] at ET EP ⊢
     clear eTT eKK HA
     have bo : Below u7.heap.size u7 (u7.alloc (.cells #[.slice q' TT.length cap'] 32)) := (Below.refl _ _).alloc (Nat.le_refl _) _
     have BX := hide (Rec.new u7 [.slice q' TT.length cap'] 32)
     replace F := hide (F.out.below bo)
     have OB : Hid ((∀ G, q' = some ⟨G, 0, none⟩ → G < u7.heap.size) ∧ ∀ i, i < TT.length → h' i ≤ u7.heap.size) := ⟨fun G e => (ON.out.q_lt e).2, fun i hi => ON.out.hi hi⟩
     have SU : Hid ((u7.alloc (.cells #[.slice q' TT.length cap'] 32)).heap.size = u7.heap.size + 1) := by simp [Hid]
     replace ON := hide (ON.out.below bo)
     replace BL := hide (BL.out.trans (bo.mono (Nat.le_trans hlo BL.out.size)))
     clear bo
     by_cases kn : KK < 0
     · have HD : Hid ([] = RT ∧ [] = RP) := show _ ∧ _ by rw [← ET.out, ← EP.out, if_neg (by rw [PF.out]; decide), if_pos kn, if_neg (by rw [PF.out]; decide), if_pos kn]; exact ⟨rfl, rfl⟩
       clear ET EP
       have z0 := F.out.z.cell 0 _ rfl
       have s0 := F.out.z.soft 0
       have z1 := F.out.p.cell 0 _ rfl
       have s1 := F.out.p.soft 0
       have N1 : Turn (w.heap.size + 1 + 1 + 1) (u7.alloc (.cells #[.slice q' TT.length cap'] 32)) ((u7.alloc (.cells #[.slice q' TT.length cap'] 32)).setCell ⟨w.heap.size + 1 + 1 + 1, 0, none⟩ (.slice none 0 0)) := (Turn.refl _ _).setCell (p := ⟨w.heap.size + 1 + 1 + 1, 0, none⟩) rfl _
       have N2 : Turn (w.heap.size + 1 + 1 + 1 + 1) ((u7.alloc (.cells #[.slice q' TT.length cap'] 32)).setCell ⟨w.heap.size + 1 + 1 + 1, 0, none⟩ (.slice none 0 0)) (((u7.alloc (.cells #[.slice q' TT.length cap'] 32)).setCell ⟨w.heap.size + 1 + 1 + 1, 0, none⟩ (.slice none 0 0)).setCell ⟨w.heap.size + 1 + 1 + 1 + 1, 0, none⟩ (.slice none 0 0)) := (Turn.refl _ _).setCell (p := ⟨w.heap.size + 1 + 1 + 1 + 1, 0, none⟩) rfl _
       have R0 := hide ((F.out.z.set 0 (.slice none 0 0) (by simp) rfl).turn N2 (by omega))
       have R1 := hide ((F.out.p.turn N1 (by omega)).set 0 (.slice none 0 0) (by simp) rfl)
       have TF := hide (told_cast (told_nil (u := w) hlo ((BL.out.trans (N1.below (by omega) (Nat.le_trans hlo BL.out.size))).trans (N2.below (by omega) (Nat.le_trans (Nat.le_trans hlo BL.out.size) N1.size)))) HD.out.1 HD.out.2)
       clear F ON BX AZ AP N1 N2
       go_wp2
       generalize (((u7.alloc (.cells #[.slice q' TT.length cap'] 32)).setCell ⟨w.heap.size + 1 + 1 + 1, 0, none⟩ (.slice none 0 0)).setCell ⟨w.heap.size + 1 + 1 + 1 + 1, 0, none⟩ (.slice none 0 0)) = y9 at R0 R1 TF ⊢
       have r0 := R0.out.cell 0 _ rfl
       have r1 := R1.out.cell 0 _ rfl
       exact bodyPost_ret (v := .tuple #[.agg #[.slice none 0 0], .agg #[.slice none 0 0]]) (by simp [results, Tryz.results21, go_sem, r0, r1]) rfl TF.out
     have HD : Hid (TT = RT ∧ atomP KK = RP) := show _ ∧ _ by rw [← ET.out, ← EP.out, if_neg (by rw [PF.out]; decide), if_neg kn, if_neg (by rw [PF.out]; decide), if_neg kn]; exact ⟨rfl, rfl⟩
     clear ET EP
     have bA : Below (u7.alloc (.cells #[.slice q' TT.length cap'] 32)).heap.size (u7.alloc (.cells #[.slice q' TT.length cap'] 32)) (u7.alloc (.cells #[.slice q' TT.length cap'] 32)).drew := (Below.refl _ _).drew
     go_wp2_with fail
     refine (wpIn_wide (n := 0)).1 ?_
     replace F := hide (F.out.below bA)
     replace BX := hide (BX.out.below bA)
     replace ON := hide (ON.out.below bA)
     replace BL := hide (BL.out.trans (bA.mono (Nat.le_trans hlo BL.out.size)))
     refine PhaseIn.region (S := fun w' => Rec u7.heap.size [.slice q' TT.length cap'] w' ∧ True) 5 (by kernel_rfl) ?_
     have SD : Hid (u7.heap.size < (u7.alloc (.cells #[.slice q' TT.length cap'] 32)).drew.heap.size) := BX.out.lt
     generalize (u7.alloc (.cells #[.slice q' TT.length cap'] 32)).drew = d8 at F BX ON BL SD ⊢
     have hHeld : Rec u7.heap.size [.slice q' TT.length cap'] d8 ∧ True := ⟨BX.out, trivial⟩
     clear bA SU
     refine PhaseIn.takeE (i := 0) (v := ?_) [0, 3, 4] 64 rfl (by rfl) (by kernel_rfl) (fun _ _ _ h => h) (Or.inl ⟨by kernel_rfl, ?_⟩) hHeld ?_
     rotate_left
     · intro w' hSw
       (try dsimp only at hSw)
       have z0 := hSw.1.cell 0 _ rfl
       go_simp
       first | done | with_reducible rfl
     try simp only [Act.put, sA, List.set]
     refine PhaseIn.takeE (i := 1) (v := ?_) [1, 2, 3, 4] 65 rfl (by rfl) (by kernel_rfl) (fun _ _ _ h => h) (Or.inl ⟨by kernel_rfl, ?_⟩) hHeld ?_
     rotate_left
     · intro w' hSw
       (try dsimp only at hSw)
       go_simp
       first | done | with_reducible rfl
     try simp only [Act.put, sA, List.set]
     refine PhaseIn.one (i := 2) (by kernel_rfl) rfl (by kernel_rfl) (fun K hK => ?_)
     unfold Oper.wpIn
     refine ⟨fun _ _ => trivial, ?_⟩
     go_simp
     refine ⟨rfl, (callsIn_wide.2 (specAtom KK _)).mono ?_⟩
     rintro e u9 ⟨ra, rl, rc, rfl, MA, hb⟩
     refine hK _ _ (fun _ => ⟨hHeld.1.below hb, trivial⟩) ?_
     replace hHeld : Rec u7.heap.size [.slice q' TT.length cap'] u9 ∧ True := ⟨hHeld.1.below hb, trivial⟩
     replace MA := hide MA
     have S9 : Hid (d8.heap.size ≤ u9.heap.size) := hb.size
     replace F := hide (F.out.below hb)
     replace ON := hide (ON.out.below hb)
     replace BL := hide (BL.out.trans (hb.mono (Nat.le_trans hlo BL.out.size)))
     clear hK K hb BX
     try simp only [Act.put, sA, List.set]
     have z0 := F.out.z.cell 0 _ rfl
     have s0 := F.out.z.soft 0
     refine PhaseIn.one (i := 3) (by kernel_rfl) rfl (by kernel_rfl) (fun K hK => ?_)
     unfold Oper.wpIn
     refine ⟨fun _ _ => trivial, ?_⟩
     go_simp
     have t1 : Turn (w.heap.size + 1 + 1 + 1) u9 (u9.setCell ⟨w.heap.size + 1 + 1 + 1, 0, none⟩ (.slice q' TT.length cap')) := (Turn.refl _ u9).setCell (p := ⟨w.heap.size + 1 + 1 + 1, 0, none⟩) rfl _
     have hHeld2 : Rec u7.heap.size [.slice q' TT.length cap'] (u9.setCell ⟨w.heap.size + 1 + 1 + 1, 0, none⟩ (.slice q' TT.length cap')) ∧ True := ⟨hHeld.1.turn t1 (by have := UL.out; omega), trivial⟩
     refine hK _ _ (fun _ => hHeld2) ?_
     have ZT := hide (F.out.z.set 0 (.slice q' TT.length cap') (by simp) rfl)
     have ZP := hide (F.out.p.turn t1 (by omega))
     replace ON := hide (ON.out.apart t1 AZ.out.1 AZ.out.2)
     replace MA := hide (MA.out.keep (Keep.of_turn t1) (fun b' h1 h2 (h3 : b' = _) => by have := UL.out; have := SD.out; omega))
     replace BL := hide (BL.out.trans (t1.below (by omega) (Nat.le_trans hlo BL.out.size)))
     have S10 : Hid (u9.heap.size ≤ (u9.setCell ⟨w.heap.size + 1 + 1 + 1, 0, none⟩ (.slice q' TT.length cap')).heap.size) := t1.size
     clear hK K z0 s0 hHeld t1 F
     try simp only [Act.put, sA, List.set]
     generalize u9.setCell ⟨w.heap.size + 1 + 1 + 1, 0, none⟩ (.slice q' TT.length cap') = v6 at ZT ZP ON MA BL S10 hHeld2 ⊢
     have z0 := ZP.out.cell 0 _ rfl
     have s0 := ZP.out.soft 0
     refine PhaseIn.one (i := 4) (by kernel_rfl) rfl (by kernel_rfl) (fun K hK => ?_)
     unfold Oper.wpIn
     refine ⟨fun _ _ => trivial, ?_⟩
     go_simp
     have t2 : Turn (w.heap.size + 1 + 1 + 1 + 1) v6 (v6.setCell ⟨w.heap.size + 1 + 1 + 1 + 1, 0, none⟩ (.slice ra rl rc)) := (Turn.refl _ v6).setCell (p := ⟨w.heap.size + 1 + 1 + 1 + 1, 0, none⟩) rfl _
     have hHeld3 : Rec u7.heap.size [.slice q' TT.length cap'] (v6.setCell ⟨w.heap.size + 1 + 1 + 1 + 1, 0, none⟩ (.slice ra rl rc)) ∧ True := ⟨hHeld2.1.turn t2 (by have := UL.out; omega), trivial⟩
     refine hK _ _ (fun _ => hHeld3) ?_
     replace ZT := hide (ZT.out.turn t2 (by omega))
     replace ZP := hide (ZP.out.set 0 (.slice ra rl rc) (by simp) rfl)
     replace ON := hide (ON.out.apart t2 AP.out.1 AP.out.2)
     replace MA := hide ((MA.out.keep (Keep.of_turn t2) (fun b' h1 h2 (h3 : b' = _) => by have := UL.out; have := SD.out; omega)).wide (lo' := d8.heap.size) (hi' := (v6.setCell ⟨w.heap.size + 1 + 1 + 1 + 1, 0, none⟩ (.slice ra rl rc)).heap.size) (Nat.le_refl _) (Nat.le_trans S10.out t2.size))
     replace BL := hide (BL.out.trans (t2.below (by omega) (Nat.le_trans hlo BL.out.size)))
     clear hK K z0 s0 hHeld2 t2
     try simp only [Act.put, sA, List.set]
     generalize v6.setCell ⟨w.heap.size + 1 + 1 + 1 + 1, 0, none⟩ (.slice ra rl rc) = v7 at ZT ZP ON MA BL hHeld3 ⊢
     refine PhaseIn.done (by kernel_rfl) ?_ _
     have z0 := ZT.out.cell 0 _ rfl
     have z1 := ZP.out.cell 0 _ rfl
     clear hHeld3
     have TF := hide (told_cast ⟨⟨q', cap', cs', l', m', h', d8.heap.size, _, _, _, rfl, ON.out, (fun G e => by have := OB.out.1 G e; have := SD.out; omega), (fun i hi => by have := OB.out.2 i hi; have := SD.out; omega), by have := SD.out; have := UL.out; omega, MA.out⟩, BL.out⟩ HD.out.1 HD.out.2 : Told2 w lo v7 (.returned (.tuple #[.agg #[(.slice q' TT.length cap')], .agg #[(.slice ra rl rc)]])) RT RP)
     go_wp2
     exact bodyPost_ret (v := .tuple #[.agg #[(.slice q' TT.length cap')], .agg #[(.slice ra rl rc)]]) (by simp [results, Tryz.results21, go_sem, z0, z1]) rfl TF.out
    have HA0 : doA op x y = ⟨4, op, y, x⟩ := if_pos ⟨O2.out, by rw [EO.out]; exact od0⟩
    have es : (u2.setCell ⟨u1.heap.size, 0, none⟩ (.slice pb bl bc)).heap.size = u2.heap.size := ES.out
    rw [es] at AR UL0
    clear es
    have x0 := F.out.x.cell 0 _ rfl
    have y0 := F.out.y.cell 0 _ rfl
    have c0 := AR.out.cell 0 _ rfl
    have c1 := AR.out.cell 1 _ rfl
    have c2 := AR.out.cell 2 _ rfl
    have c3 := AR.out.cell 3 _ rfl
    have s0 := AR.out.soft 0
    have s1 := AR.out.soft 1
    have s2 := AR.out.soft 2
    have s3 := AR.out.soft 3
    have t4 : Turn (u2.heap.size) u6 ((((u6.setCell ⟨u2.heap.size, 0, none⟩ (.int .i64 4)).setCell ⟨u2.heap.size, 1, none⟩ (.int .i64 op)).setCell ⟨u2.heap.size, 2, none⟩ (.slice qy y.length cy)).setCell ⟨u2.heap.size, 3, none⟩ (.slice qx x.length cx)) := (((((Turn.refl (u2.heap.size) u6).setCell (p := ⟨u2.heap.size, 0, none⟩) rfl (.int .i64 4)).setCell (p := ⟨u2.heap.size, 1, none⟩) rfl (.int .i64 op)).setCell (p := ⟨u2.heap.size, 2, none⟩) rfl (.slice qy y.length cy)).setCell (p := ⟨u2.heap.size, 3, none⟩) rfl (.slice qx x.length cx))
    replace AR := hide ((((AR.out.set 0 (.int .i64 4) (by simp) (show _ = ([.int .i64 4, .int .i64 op, .slice qx x.length cx, .slice qy y.length cy] : List Value) from rfl)).set 1 (.int .i64 op) (by simp) (show _ = ([.int .i64 4, .int .i64 op, .slice qx x.length cx, .slice qy y.length cy] : List Value) from rfl)).set 2 (.slice qy y.length cy) (by simp) (show _ = ([.int .i64 4, .int .i64 op, .slice qy y.length cy, .slice qy y.length cy] : List Value) from rfl)).set 3 (.slice qx x.length cx) (by simp) (show _ = ([.int .i64 4, .int .i64 op, .slice qy y.length cy, .slice qx x.length cx] : List Value) from rfl))
    replace F := hide (F.out.turn t4 (Or.inr (by have := UL0.out; omega)))
    replace HT := hide (HT.out.apart t4 (fun G e => by have := (HG.out G e).2; have := UL0.out; omega) (fun i hi => Or.inr (by have := HH.out i hi; have := UL0.out; omega)))
    replace BW := hide (BW.out.trans (t4.below (by have := UL0.out; omega) BW.out.size))
    have t0 := F.out.t.cell 0 _ rfl
    clear t4
    go_wp2_with fail
    generalize ((((u6.setCell ⟨u2.heap.size, 0, none⟩ (.int .i64 4)).setCell ⟨u2.heap.size, 1, none⟩ (.int .i64 op)).setCell ⟨u2.heap.size, 2, none⟩ (.slice qy y.length cy)).setCell ⟨u2.heap.size, 3, none⟩ (.slice qx x.length cx)) = y6 at F HT BW AR t0 ⊢
    clear x0 y0 c0 c1 c2 c3 s0 s1 s2 s3 t0
    have HA : Hid (doA op x y = ⟨4, op, y, x⟩) := HA0
    rw [HA.out] at ET EP
    have t0 := F.out.t.cell 0 _ rfl
    have c0 := AR.out.cell 0 _ rfl
    have c1 := AR.out.cell 1 _ rfl
    have c2 := AR.out.cell 2 _ rfl
    have c3 := AR.out.cell 3 _ rfl
    go_wp2_with fail
    refine (l5Put ts ⟨4, op, y, x⟩ lo cap q cs l m hh _ _ _ _ By Bx _ HT.out (Nat.le_trans hlo BW.out.size) (WY.out.below BW.out) (WX.out.below BW.out) hl).mono ?_
    rintro e u7 ⟨q', cap', cs', l', m', h', rfl, ON, hk, aw⟩
    clear t0 c0 c1 c2 c3
    have UL : Hid (w.heap.size + 1 + 1 + 1 + 1 < y6.heap.size) := F.out.p.lt
    have NS : ∀ b', w.heap.size ≤ b' → ¬ (fun b => q = some ⟨b, 0, none⟩) b' := fun b' hb' (e : q = some ⟨b', 0, none⟩) => by have := (HG.out b' e).2; omega
    have AZ := hide (aw (w.heap.size + 1 + 1 + 1) (by have := UL.out; omega) ⟨fun G e => by have := (HG.out G e).2; omega, fun i hi => Or.inr (by have := HH.out i hi; omega)⟩)
    have AP := hide (aw (w.heap.size + 1 + 1 + 1 + 1) (by have := UL.out; omega) ⟨fun G e => by have := (HG.out G e).2; omega, fun i hi => Or.inr (by have := HH.out i hi; omega)⟩)
    replace F := hide (F.out.keep hk NS)
    have BL : Hid (Below lo w u7) := (BW.out.mono hlo).trans (hk.below (Nat.le_trans hlo BW.out.size) (fun k hk' (e : q = some ⟨k, 0, none⟩) => by have := (HG.out k e).1; omega))
    replace UL : Hid (w.heap.size + 1 + 1 + 1 + 1 < u7.heap.size) := F.out.p.lt
    replace ON := hide ON
    clear hk aw NS HT BW AR
    obtain ⟨TT, eTT⟩ : ∃ TT, putT ts ⟨4, op, y, x⟩ = TT := ⟨_, rfl⟩
    obtain ⟨KK, eKK⟩ : ∃ KK, putN ts ⟨4, op, y, x⟩ = KK := ⟨_, rfl⟩
    rw [eTT] at ON AZ AP ET ⊢
    rw [eKK] at ET EP ⊢
    clear eTT eKK HA
    have bo : Below u7.heap.size u7 (u7.alloc (.cells #[.slice q' TT.length cap'] 32)) := (Below.refl _ _).alloc (Nat.le_refl _) _
    have BX := hide (Rec.new u7 [.slice q' TT.length cap'] 32)
    replace F := hide (F.out.below bo)
    have OB : Hid ((∀ G, q' = some ⟨G, 0, none⟩ → G < u7.heap.size) ∧ ∀ i, i < TT.length → h' i ≤ u7.heap.size) := ⟨fun G e => (ON.out.q_lt e).2, fun i hi => ON.out.hi hi⟩
    have SU : Hid ((u7.alloc (.cells #[.slice q' TT.length cap'] 32)).heap.size = u7.heap.size + 1) := by simp [Hid]
    replace ON := hide (ON.out.below bo)
    replace BL := hide (BL.out.trans (bo.mono (Nat.le_trans hlo BL.out.size)))
    clear bo
    by_cases kn : KK < 0
    · have HD : Hid ([] = RT ∧ [] = RP) := show _ ∧ _ by rw [← ET.out, ← EP.out, if_neg (by rw [PF.out]; decide), if_pos kn, if_neg (by rw [PF.out]; decide), if_pos kn]; exact ⟨rfl, rfl⟩
      clear ET EP
      have z0 := F.out.z.cell 0 _ rfl
      have s0 := F.out.z.soft 0
      have z1 := F.out.p.cell 0 _ rfl
      have s1 := F.out.p.soft 0
      have N1 : Turn (w.heap.size + 1 + 1 + 1) (u7.alloc (.cells #[.slice q' TT.length cap'] 32)) ((u7.alloc (.cells #[.slice q' TT.length cap'] 32)).setCell ⟨w.heap.size + 1 + 1 + 1, 0, none⟩ (.slice none 0 0)) := (Turn.refl _ _).setCell (p := ⟨w.heap.size + 1 + 1 + 1, 0, none⟩) rfl _
      have N2 : Turn (w.heap.size + 1 + 1 + 1 + 1) ((u7.alloc (.cells #[.slice q' TT.length cap'] 32)).setCell ⟨w.heap.size + 1 + 1 + 1, 0, none⟩ (.slice none 0 0)) (((u7.alloc (.cells #[.slice q' TT.length cap'] 32)).setCell ⟨w.heap.size + 1 + 1 + 1, 0, none⟩ (.slice none 0 0)).setCell ⟨w.heap.size + 1 + 1 + 1 + 1, 0, none⟩ (.slice none 0 0)) := (Turn.refl _ _).setCell (p := ⟨w.heap.size + 1 + 1 + 1 + 1, 0, none⟩) rfl _
      have R0 := hide ((F.out.z.set 0 (.slice none 0 0) (by simp) rfl).turn N2 (by omega))
      have R1 := hide ((F.out.p.turn N1 (by omega)).set 0 (.slice none 0 0) (by simp) rfl)
      have TF := hide (told_cast (told_nil (u := w) hlo ((BL.out.trans (N1.below (by omega) (Nat.le_trans hlo BL.out.size))).trans (N2.below (by omega) (Nat.le_trans (Nat.le_trans hlo BL.out.size) N1.size)))) HD.out.1 HD.out.2)
      clear F ON BX AZ AP N1 N2
      go_wp2
      generalize (((u7.alloc (.cells #[.slice q' TT.length cap'] 32)).setCell ⟨w.heap.size + 1 + 1 + 1, 0, none⟩ (.slice none 0 0)).setCell ⟨w.heap.size + 1 + 1 + 1 + 1, 0, none⟩ (.slice none 0 0)) = y9 at R0 R1 TF ⊢
      have r0 := R0.out.cell 0 _ rfl
      have r1 := R1.out.cell 0 _ rfl
      exact bodyPost_ret (v := .tuple #[.agg #[.slice none 0 0], .agg #[.slice none 0 0]]) (by simp [results, Tryz.results21, go_sem, r0, r1]) rfl TF.out
    have HD : Hid (TT = RT ∧ atomP KK = RP) := show _ ∧ _ by rw [← ET.out, ← EP.out, if_neg (by rw [PF.out]; decide), if_neg kn, if_neg (by rw [PF.out]; decide), if_neg kn]; exact ⟨rfl, rfl⟩
    clear ET EP
    have bA : Below (u7.alloc (.cells #[.slice q' TT.length cap'] 32)).heap.size (u7.alloc (.cells #[.slice q' TT.length cap'] 32)) (u7.alloc (.cells #[.slice q' TT.length cap'] 32)).drew := (Below.refl _ _).drew
    go_wp2_with fail
    refine (wpIn_wide (n := 0)).1 ?_
    replace F := hide (F.out.below bA)
    replace BX := hide (BX.out.below bA)
    replace ON := hide (ON.out.below bA)
    replace BL := hide (BL.out.trans (bA.mono (Nat.le_trans hlo BL.out.size)))
    refine PhaseIn.region (S := fun w' => Rec u7.heap.size [.slice q' TT.length cap'] w' ∧ True) 5 (by kernel_rfl) ?_
    have SD : Hid (u7.heap.size < (u7.alloc (.cells #[.slice q' TT.length cap'] 32)).drew.heap.size) := BX.out.lt
    generalize (u7.alloc (.cells #[.slice q' TT.length cap'] 32)).drew = d8 at F BX ON BL SD ⊢
    have hHeld : Rec u7.heap.size [.slice q' TT.length cap'] d8 ∧ True := ⟨BX.out, trivial⟩
    clear bA SU
    refine PhaseIn.takeE (i := 0) (v := ?_) [0, 3, 4] 64 rfl (by rfl) (by kernel_rfl) (fun _ _ _ h => h) (Or.inl ⟨by kernel_rfl, ?_⟩) hHeld ?_
    rotate_left
    · intro w' hSw
      (try dsimp only at hSw)
      have z0 := hSw.1.cell 0 _ rfl
      go_simp
      first | done | with_reducible rfl
    try simp only [Act.put, sA, List.set]
    refine PhaseIn.takeE (i := 1) (v := ?_) [1, 2, 3, 4] 65 rfl (by rfl) (by kernel_rfl) (fun _ _ _ h => h) (Or.inl ⟨by kernel_rfl, ?_⟩) hHeld ?_
    rotate_left
    · intro w' hSw
      (try dsimp only at hSw)
      go_simp
      first | done | with_reducible rfl
    try simp only [Act.put, sA, List.set]
    refine PhaseIn.one (i := 2) (by kernel_rfl) rfl (by kernel_rfl) (fun K hK => ?_)
    unfold Oper.wpIn
    refine ⟨fun _ _ => trivial, ?_⟩
    go_simp
    refine ⟨rfl, (callsIn_wide.2 (specAtom KK _)).mono ?_⟩
    rintro e u9 ⟨ra, rl, rc, rfl, MA, hb⟩
    refine hK _ _ (fun _ => ⟨hHeld.1.below hb, trivial⟩) ?_
    replace hHeld : Rec u7.heap.size [.slice q' TT.length cap'] u9 ∧ True := ⟨hHeld.1.below hb, trivial⟩
    replace MA := hide MA
    have S9 : Hid (d8.heap.size ≤ u9.heap.size) := hb.size
    replace F := hide (F.out.below hb)
    replace ON := hide (ON.out.below hb)
    replace BL := hide (BL.out.trans (hb.mono (Nat.le_trans hlo BL.out.size)))
    clear hK K hb BX
    try simp only [Act.put, sA, List.set]
    have z0 := F.out.z.cell 0 _ rfl
    have s0 := F.out.z.soft 0
    refine PhaseIn.one (i := 3) (by kernel_rfl) rfl (by kernel_rfl) (fun K hK => ?_)
    unfold Oper.wpIn
    refine ⟨fun _ _ => trivial, ?_⟩
    go_simp
    have t1 : Turn (w.heap.size + 1 + 1 + 1) u9 (u9.setCell ⟨w.heap.size + 1 + 1 + 1, 0, none⟩ (.slice q' TT.length cap')) := (Turn.refl _ u9).setCell (p := ⟨w.heap.size + 1 + 1 + 1, 0, none⟩) rfl _
    have hHeld2 : Rec u7.heap.size [.slice q' TT.length cap'] (u9.setCell ⟨w.heap.size + 1 + 1 + 1, 0, none⟩ (.slice q' TT.length cap')) ∧ True := ⟨hHeld.1.turn t1 (by have := UL.out; omega), trivial⟩
    refine hK _ _ (fun _ => hHeld2) ?_
    have ZT := hide (F.out.z.set 0 (.slice q' TT.length cap') (by simp) rfl)
    have ZP := hide (F.out.p.turn t1 (by omega))
    replace ON := hide (ON.out.apart t1 AZ.out.1 AZ.out.2)
    replace MA := hide (MA.out.keep (Keep.of_turn t1) (fun b' h1 h2 (h3 : b' = _) => by have := UL.out; have := SD.out; omega))
    replace BL := hide (BL.out.trans (t1.below (by omega) (Nat.le_trans hlo BL.out.size)))
    have S10 : Hid (u9.heap.size ≤ (u9.setCell ⟨w.heap.size + 1 + 1 + 1, 0, none⟩ (.slice q' TT.length cap')).heap.size) := t1.size
    clear hK K z0 s0 hHeld t1 F
    try simp only [Act.put, sA, List.set]
    generalize u9.setCell ⟨w.heap.size + 1 + 1 + 1, 0, none⟩ (.slice q' TT.length cap') = v6 at ZT ZP ON MA BL S10 hHeld2 ⊢
    have z0 := ZP.out.cell 0 _ rfl
    have s0 := ZP.out.soft 0
    refine PhaseIn.one (i := 4) (by kernel_rfl) rfl (by kernel_rfl) (fun K hK => ?_)
    unfold Oper.wpIn
    refine ⟨fun _ _ => trivial, ?_⟩
    go_simp
    have t2 : Turn (w.heap.size + 1 + 1 + 1 + 1) v6 (v6.setCell ⟨w.heap.size + 1 + 1 + 1 + 1, 0, none⟩ (.slice ra rl rc)) := (Turn.refl _ v6).setCell (p := ⟨w.heap.size + 1 + 1 + 1 + 1, 0, none⟩) rfl _
    have hHeld3 : Rec u7.heap.size [.slice q' TT.length cap'] (v6.setCell ⟨w.heap.size + 1 + 1 + 1 + 1, 0, none⟩ (.slice ra rl rc)) ∧ True := ⟨hHeld2.1.turn t2 (by have := UL.out; omega), trivial⟩
    refine hK _ _ (fun _ => hHeld3) ?_
    replace ZT := hide (ZT.out.turn t2 (by omega))
    replace ZP := hide (ZP.out.set 0 (.slice ra rl rc) (by simp) rfl)
    replace ON := hide (ON.out.apart t2 AP.out.1 AP.out.2)
    replace MA := hide ((MA.out.keep (Keep.of_turn t2) (fun b' h1 h2 (h3 : b' = _) => by have := UL.out; have := SD.out; omega)).wide (lo' := d8.heap.size) (hi' := (v6.setCell ⟨w.heap.size + 1 + 1 + 1 + 1, 0, none⟩ (.slice ra rl rc)).heap.size) (Nat.le_refl _) (Nat.le_trans S10.out t2.size))
    replace BL := hide (BL.out.trans (t2.below (by omega) (Nat.le_trans hlo BL.out.size)))
    clear hK K z0 s0 hHeld2 t2
    try simp only [Act.put, sA, List.set]
    generalize v6.setCell ⟨w.heap.size + 1 + 1 + 1 + 1, 0, none⟩ (.slice ra rl rc) = v7 at ZT ZP ON MA BL hHeld3 ⊢
    refine PhaseIn.done (by kernel_rfl) ?_ _
    have z0 := ZT.out.cell 0 _ rfl
    have z1 := ZP.out.cell 0 _ rfl
    clear hHeld3
    have TF := hide (told_cast ⟨⟨q', cap', cs', l', m', h', d8.heap.size, _, _, _, rfl, ON.out, (fun G e => by have := OB.out.1 G e; have := SD.out; omega), (fun i hi => by have := OB.out.2 i hi; have := SD.out; omega), by have := SD.out; have := UL.out; omega, MA.out⟩, BL.out⟩ HD.out.1 HD.out.2 : Told2 w lo v7 (.returned (.tuple #[.agg #[(.slice q' TT.length cap')], .agg #[(.slice ra rl rc)]])) RT RP)
    go_wp2
    exact bodyPost_ret (v := .tuple #[.agg #[(.slice q' TT.length cap')], .agg #[(.slice ra rl rc)]]) (by simp [results, Tryz.results21, go_sem, z0, z1]) rfl TF.out
end Go.Proofs.YtggilenddbobnaaGreat.Tab
