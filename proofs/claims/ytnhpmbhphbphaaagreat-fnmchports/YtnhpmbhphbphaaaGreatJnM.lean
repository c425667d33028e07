/-
  The program's deeds on a machine behind a pointer: contracts of behind, goOn, setRegister, interrupt, standsStill.
-/
import Derived.Test.YtnhpmbhphbphaaaGreatMchK
import Derived.Test.YtnhpmbhphbphaaaGreatJnL
import Derived.Test.YtnhpmbhphbphaaaGreatMchG
namespace Go.Proofs.YtnhpmbhphbphaaaGreat.Mch
open Go.ChangeShapes Go.WideShapes Go.ChangeAt Go.RowKit IntS
/-- A block of a type with these cells. -/
structure Box (Z : Nat) (t : TypeId) (cs : List Value) (u : World) : Prop where
  r : Rec Z cs u
  t : IsT u Z t
theorem Box.new (w : World) (cs : List Value) (t : TypeId) : Box w.heap.size t cs (w.alloc (.cells cs.toArray t)) := ⟨Rec.new w cs t, IsT.new w cs.toArray t⟩
theorem Box.below {Z : Nat} {t : TypeId} {cs : List Value} {u u' : World} (h : Box Z t cs u) (hb : Below u.heap.size u u') : Box Z t cs u' := ⟨h.r.below hb, h.t.below hb⟩
theorem Box.alloc {Z : Nat} {t : TypeId} {cs : List Value} {u : World} (h : Box Z t cs u) (o : Obj) : Box Z t cs (u.alloc o) := h.below ((Below.refl _ _).alloc (Nat.le_refl _) o)
theorem Box.ints {Z lo : Nat} {t : TypeId} {cs : List Value} {u u' : World} (h : Box Z t cs u) (ht : t ≠ 3) (hi : Ints lo u u') : Box Z t cs u' := ⟨h.r.ints h.t ht hi, h.t.ints ht hi⟩
theorem Box.set {Z : Nat} {t : TypeId} {cs cs' : List Value} {u : World} (h : Box Z t cs u) (i : Nat) (v : Value) (hi : i < cs.length) (he : cs.set i v = cs') : Box Z t cs' (u.setCell ⟨Z, i, none⟩ v) := ⟨h.r.set i v hi he, h.t.set _ _⟩
theorem Box.other {Z : Nat} {t : TypeId} {cs : List Value} {u : World} (h : Box Z t cs u) (p : Addr) (v : Value) (hp : p.block ≠ Z) : Box Z t cs (u.setCell p v) := ⟨h.r.other p v hp, h.t.set _ _⟩
theorem IsT.keep {S : Nat → Prop} {w w' : World} {b : Nat} {t : TypeId} (h : IsT w b t) (hk : Keep S w w') (hb : ¬ S b) : IsT w' b t := by
  have hl := h.lt
  obtain ⟨cur, fz, h⟩ := h
  exact ⟨cur, fz, (hk.block b hl hb).trans h⟩
theorem Box.keep {S : Nat → Prop} {Z : Nat} {t : TypeId} {cs : List Value} {w w' : World} (h : Box Z t cs w) (hk : Keep S w w') (hZ : ¬ S Z) : Box Z t cs w' := ⟨h.r.keep hk hZ, IsT.keep h.t hk hZ⟩
theorem rec_far {Z Y : Nat} {cs : List Value} {w : World} (h : Rec Z cs w) (hY : Y ≠ Z) (v0 v1 v2 v3 v4 v5 v6 v7 v8 v9 : Value) : Rec Z cs ((((((((((w.setCell ⟨Y, 0, none⟩ v0).setCell ⟨Y, 1, none⟩ v1).setCell ⟨Y, 2, none⟩ v2).setCell ⟨Y, 3, none⟩ v3).setCell ⟨Y, 4, none⟩ v4).setCell ⟨Y, 5, none⟩ v5).setCell ⟨Y, 6, none⟩ v6).setCell ⟨Y, 7, none⟩ v7).setCell ⟨Y, 8, none⟩ v8).setCell ⟨Y, 9, none⟩ v9) :=
  (((((((((h.other ⟨Y, 0, none⟩ v0 hY).other ⟨Y, 1, none⟩ v1 hY).other ⟨Y, 2, none⟩ v2 hY).other ⟨Y, 3, none⟩ v3 hY).other ⟨Y, 4, none⟩ v4 hY).other ⟨Y, 5, none⟩ v5 hY).other ⟨Y, 6, none⟩ v6 hY).other ⟨Y, 7, none⟩ v7 hY).other ⟨Y, 8, none⟩ v8 hY).other ⟨Y, 9, none⟩ v9 hY
theorem Box.far {Z Y : Nat} {t : TypeId} {cs : List Value} {u : World} (h : Box Z t cs u) (hY : Y ≠ Z) (v0 v1 v2 v3 v4 v5 v6 v7 v8 v9 : Value) : Box Z t cs ((((((((((u.setCell ⟨Y, 0, none⟩ v0).setCell ⟨Y, 1, none⟩ v1).setCell ⟨Y, 2, none⟩ v2).setCell ⟨Y, 3, none⟩ v3).setCell ⟨Y, 4, none⟩ v4).setCell ⟨Y, 5, none⟩ v5).setCell ⟨Y, 6, none⟩ v6).setCell ⟨Y, 7, none⟩ v7).setCell ⟨Y, 8, none⟩ v8).setCell ⟨Y, 9, none⟩ v9) :=
  ⟨rec_far h.r hY v0 v1 v2 v3 v4 v5 v6 v7 v8 v9, ((((((((((h.t.set _ _).set _ _).set _ _).set _ _).set _ _).set _ _).set _ _).set _ _).set _ _).set _ _)⟩
theorem Box.ten {Z : Nat} {t : TypeId} {x0 x1 x2 x3 x4 x5 x6 x7 x8 x9 : Value} {u : World} (h : Box Z t [x0, x1, x2, x3, x4, x5, x6, x7, x8, x9] u) (v0 v1 v2 v3 v4 v5 v6 v7 v8 v9 : Value) : Box Z t [v0, v1, v2, v3, v4, v5, v6, v7, v8, v9] ((((((((((u.setCell ⟨Z, 0, none⟩ v0).setCell ⟨Z, 1, none⟩ v1).setCell ⟨Z, 2, none⟩ v2).setCell ⟨Z, 3, none⟩ v3).setCell ⟨Z, 4, none⟩ v4).setCell ⟨Z, 5, none⟩ v5).setCell ⟨Z, 6, none⟩ v6).setCell ⟨Z, 7, none⟩ v7).setCell ⟨Z, 8, none⟩ v8).setCell ⟨Z, 9, none⟩ v9) :=
  ⟨h.r.ten v0 v1 v2 v3 v4 v5 v6 v7 v8 v9, ((((((((((h.t.set _ _).set _ _).set _ _).set _ _).set _ _).set _ _).set _ _).set _ _).set _ _).set _ _)⟩
end Go.Proofs.YtnhpmbhphbphaaaGreat.Mch
namespace Go.Proofs.YtnhpmbhphbphaaaGreat.MchI
open Go.ChangeShapes Go.WideShapes Go.ChangeAt Go.RowKit IntS Mch
theorem behind (Z : Nat) (pc : Int) (w : World) (z1 : w.cell? ⟨Z, 1, none⟩ = some (.int .i64 pc)) (p0 : 0 ≤ pc) (p1 : pc < 65536) :
    Calls Tryz.prog 85 #[.pointer (some ⟨Z, 0, none⟩)] w fun e w' => e = .returned (.int .i64 ((pc + 1) % 65536)) ∧ w' = w := by
  go_enter Tryz.func85, Tryz.ntmps85
  go_wp2_with fail
  refine (Wrd.implWrap (pc + 1) _).mono ?_
  rintro e u ⟨rfl, rfl⟩
  go_wp2
  go_ret
  exact ⟨rfl, rfl⟩
theorem goOn (Z : Nat) (pc count place : Int) (w : World) (z1 : w.cell? ⟨Z, 1, none⟩ = some (.int .i64 pc)) (y1 : w.frozen? ⟨Z, 1, none⟩ = false) (z9 : w.cell? ⟨Z, 9, none⟩ = some (.int .i64 count)) (y9 : w.frozen? ⟨Z, 9, none⟩ = false) (c0 : 0 ≤ count) (c1 : count ≤ 1000000) :
    Calls Tryz.prog 57 #[.pointer (some ⟨Z, 0, none⟩), .int .i64 place] w fun e w' => e = .returned (.tuple #[]) ∧ w' = (w.setCell ⟨Z, 1, none⟩ (.int .i64 place)).setCell ⟨Z, 9, none⟩ (.int .i64 (count + 1)) := by
  go_enter Tryz.func57, Tryz.ntmps57
  go_wp2
  go_end0
  exact ⟨rfl, rfl⟩
theorem setRegister (Z b1 o1 n1 k1 d : Nat) (pc x n : Int) (w : World) (z0 : w.cell? ⟨Z, 0, none⟩ = some (.slice (some ⟨b1, o1, none⟩) n1 k1)) (z1 : w.cell? ⟨Z, 1, none⟩ = some (.int .i64 pc)) (hd : ((d : Nat) : Int) < (n1 : Int)) (cx : w.cell? ⟨b1, o1 + d, none⟩ = some (.int .i64 x)) (fx : w.frozen? ⟨b1, o1 + d, none⟩ = false) (hb : b1 ≠ Z) (p0 : 0 ≤ pc) (p1 : pc < 65536) :
    Calls Tryz.prog 60 #[.pointer (some ⟨Z, 0, none⟩), .int .i64 d, .int .i64 n] w fun e w' => e = .returned (.int .i64 ((pc + 1) % 65536)) ∧ w' = w.setCell ⟨b1, o1 + d, none⟩ (.int .i64 n) := by
  have z1' : (w.setCell ⟨b1, o1 + d, none⟩ (.int .i64 n)).cell? ⟨Z, 1, none⟩ = some (.int .i64 pc) := by
    rw [World.cell?_setCell_other _ _ _ _ (fun e => hb (congrArg Addr.block e))]
    exact z1
  go_enter Tryz.func60, Tryz.ntmps60
  go_wp2_with fail
  refine (behind Z pc _ z1' p0 p1).mono ?_
  rintro e u ⟨rfl, rfl⟩
  go_wp2
  go_ret
  exact ⟨rfl, rfl⟩
set_option maxRecDepth 8000 in
set_option maxHeartbeats 4000000 in
theorem interrupt (Z : Nat) (r e i o : Value) (pc save halt count : Int) (lets waits irq : Bool) (w : World) (h : Box Z 25 [r, .int .i64 pc, e, .int .i64 save, .bool lets, .bool waits, .int .i64 halt, i, o, .int .i64 count] w) :
    Calls Tryz.prog 55 #[.pointer (some ⟨Z, 0, none⟩), .bool irq] w fun x w' => x = .returned (.tuple #[]) ∧ Turn Z w w' ∧
      Box Z 25 (if (waits || irq) && lets then [r, .int .i64 48, e, .int .i64 pc, .bool false, .bool false, .int .i64 halt, i, o, .int .i64 count] else [r, .int .i64 pc, e, .int .i64 save, .bool lets, .bool (waits || irq), .int .i64 halt, i, o, .int .i64 count]) w' := by
  have H := hide h
  have z1 := h.r.cell 1 _ rfl
  have z3 := h.r.cell 3 _ rfl
  have z4 := h.r.cell 4 _ rfl
  have z5 := h.r.cell 5 _ rfl
  have y1 := h.r.soft 1
  have y3 := h.r.soft 3
  have y4 := h.r.soft 4
  have y5 := h.r.soft 5
  clear h
  cases waits <;> cases irq <;> cases lets
  all_goals
    go_enter Tryz.func55, Tryz.ntmps55
    go_wp2
    go_end0
  all_goals
    clear z1 z3 z4 z5 y1 y3 y4 y5
  · exact ⟨rfl, (Turn.refl Z w).setCell rfl _, H.out.set 5 _ (by simp) rfl⟩
  · exact ⟨rfl, (Turn.refl Z w).setCell rfl _, H.out.set 5 _ (by simp) rfl⟩
  · exact ⟨rfl, (Turn.refl Z w).setCell rfl _, H.out.set 5 _ (by simp) rfl⟩
  · exact ⟨rfl, (((((Turn.refl Z w).setCell rfl _).setCell rfl _).setCell rfl _).setCell rfl _).setCell rfl _, ((((H.out.set 5 _ (by simp) rfl).set 5 _ (by simp) rfl).set 4 _ (by simp) rfl).set 3 _ (by simp) rfl).set 1 _ (by simp) rfl⟩
  · exact ⟨rfl, (Turn.refl Z w).setCell rfl _, H.out.set 5 _ (by simp) rfl⟩
  · exact ⟨rfl, (((((Turn.refl Z w).setCell rfl _).setCell rfl _).setCell rfl _).setCell rfl _).setCell rfl _, ((((H.out.set 5 _ (by simp) rfl).set 5 _ (by simp) rfl).set 4 _ (by simp) rfl).set 3 _ (by simp) rfl).set 1 _ (by simp) rfl⟩
  · exact ⟨rfl, (Turn.refl Z w).setCell rfl _, H.out.set 5 _ (by simp) rfl⟩
  · exact ⟨rfl, (((((Turn.refl Z w).setCell rfl _).setCell rfl _).setCell rfl _).setCell rfl _).setCell rfl _, ((((H.out.set 5 _ (by simp) rfl).set 5 _ (by simp) rfl).set 4 _ (by simp) rfl).set 3 _ (by simp) rfl).set 1 _ (by simp) rfl⟩
set_option maxHeartbeats 2000000 in
theorem standsStill (q1 q2 q3 q4 : Option Addr) (n1 n2 n3 n4 j1 j2 j3 j4 : Nat) (pc save halt count : Int) (lets waits : Bool) (w : World) :
    Calls Tryz.prog 47 #[.agg #[.slice q1 n1 j1, .int .i64 pc, .slice q2 n2 j2, .int .i64 save, .bool lets, .bool waits, .int .i64 halt, .slice q3 n3 j3, .slice q4 n4 j4, .int .i64 count]] w fun e w' => e = .returned (.bool (decide (halt ≠ 0 ∨ 1000000 ≤ count))) ∧ Below w.heap.size w w' := by
  by_cases hh : halt = 0
  · have t1 : (halt != 0) = false := by simpa using hh
    by_cases hc : 1000000 ≤ count
    · rw [decide_eq_true (Or.inr hc)]
      clear hh
      go_enter Tryz.func47, Tryz.ntmps47
      go_wp2
      go_ret
      refine ⟨rfl, ?_⟩
      go_grown
    · rw [decide_eq_false (fun e => e.elim (fun e => e hh) hc)]
      clear hh
      go_enter Tryz.func47, Tryz.ntmps47
      go_wp2
      go_ret
      refine ⟨rfl, ?_⟩
      go_grown
  · have t1 : (halt != 0) = true := by simpa using hh
    rw [decide_eq_true (Or.inl hh)]
    clear hh
    go_enter Tryz.func47, Tryz.ntmps47
    go_wp2
    go_ret
    refine ⟨rfl, ?_⟩
    go_grown
end Go.Proofs.YtnhpmbhphbphaaaGreat.MchI
namespace Go.Proofs.YtnhpmbhphbphaaaGreat.Mch
open Go.ChangeShapes Go.WideShapes Go.ChangeAt Go.RowKit IntS
theorem Turn.ten {w : World} (Z : Nat) (v0 v1 v2 v3 v4 v5 v6 v7 v8 v9 : Value) : Turn Z w ((((((((((w.setCell ⟨Z, 0, none⟩ v0).setCell ⟨Z, 1, none⟩ v1).setCell ⟨Z, 2, none⟩ v2).setCell ⟨Z, 3, none⟩ v3).setCell ⟨Z, 4, none⟩ v4).setCell ⟨Z, 5, none⟩ v5).setCell ⟨Z, 6, none⟩ v6).setCell ⟨Z, 7, none⟩ v7).setCell ⟨Z, 8, none⟩ v8).setCell ⟨Z, 9, none⟩ v9) :=
  ((((((((((Turn.refl Z w).setCell (p := ⟨Z, 0, none⟩) rfl v0).setCell (p := ⟨Z, 1, none⟩) rfl v1).setCell (p := ⟨Z, 2, none⟩) rfl v2).setCell (p := ⟨Z, 3, none⟩) rfl v3).setCell (p := ⟨Z, 4, none⟩) rfl v4).setCell (p := ⟨Z, 5, none⟩) rfl v5).setCell (p := ⟨Z, 6, none⟩) rfl v6).setCell (p := ⟨Z, 7, none⟩) rfl v7).setCell (p := ⟨Z, 8, none⟩) rfl v8).setCell (p := ⟨Z, 9, none⟩) rfl v9
set_option maxRecDepth 8000 in
set_option maxHeartbeats 4000000 in
theorem wpList_lay {w : World} {ops : Array Oper} {rest : List Oper} {o : Oper} {a : Act} {Q : Exit → Act → World → Prop} (hgd : o.guard = none) (hds : o.dst = none) (x y : Operand) (ho : o.op = .store 25 x y)
    (Z : Nat) (x0 x1 x2 x3 x4 x5 x6 x7 x8 x9 : Value) (hB : Box Z 25 [x0, x1, x2, x3, x4, x5, x6, x7, x8, x9] w) (hx : a.eval x = .pointer (some ⟨Z, 0, none⟩))
    (q1 q2 q3 q4 : Option Addr) (n1 n2 n3 n4 j1 j2 j3 j4 : Nat) (pc save halt count : Int) (lets waits : Bool)
    (hy : a.eval y = .agg #[.slice q1 n1 j1, .int .i64 pc, .slice q2 n2 j2, .int .i64 save, .bool lets, .bool waits, .int .i64 halt, .slice q3 n3 j3, .slice q4 n4 j4, .int .i64 count])
    (h : ∀ w' : World, Hid (Box Z 25 [.slice q1 n1 j1, .int .i64 pc, .slice q2 n2 j2, .int .i64 save, .bool lets, .bool waits, .int .i64 halt, .slice q3 n3 j3, .slice q4 n4 j4, .int .i64 count] w') → Hid (Turn Z w w') → wpList Tryz.prog ops Q rest a w') :
    wpList Tryz.prog ops Q (o :: rest) a w := by
  refine wpList_plain hgd fun K hK => ?_
  have z0 := hB.r.cell 0 _ rfl
  have z1 := hB.r.cell 1 _ rfl
  have z2 := hB.r.cell 2 _ rfl
  have z3 := hB.r.cell 3 _ rfl
  have z4 := hB.r.cell 4 _ rfl
  have z5 := hB.r.cell 5 _ rfl
  have z6 := hB.r.cell 6 _ rfl
  have z7 := hB.r.cell 7 _ rfl
  have z8 := hB.r.cell 8 _ rfl
  have z9 := hB.r.cell 9 _ rfl
  have y0 := hB.r.soft 0
  have y1 := hB.r.soft 1
  have y2 := hB.r.soft 2
  have y3 := hB.r.soft 3
  have y4 := hB.r.soft 4
  have y5 := hB.r.soft 5
  have y6 := hB.r.soft 6
  have y7 := hB.r.soft 7
  have y8 := hB.r.soft 8
  have y9 := hB.r.soft 9
  have key := hK _ _ (h _ (hB.ten (.slice q1 n1 j1) (.int .i64 pc) (.slice q2 n2 j2) (.int .i64 save) (.bool lets) (.bool waits) (.int .i64 halt) (.slice q3 n3 j3) (.slice q4 n4 j4) (.int .i64 count)) (Turn.ten Z _ _ _ _ _ _ _ _ _ _))
  obtain ⟨dst, op, ty, pos, aft, gd⟩ := o
  simp only [] at hgd hds ho
  subst hgd hds ho
  clear h hK
  unfold Oper.wp
  simp only [execOp, hx, hy]
  go_simp
  exact key
theorem CMach.turn {w w' : World} {lo : Nat} {c : List Value} {m : M} (h : CMach w lo c m) {Z : Nat} {t : TypeId} (hZ : IsT w Z t) (ht : t ≠ 3) (hT : Turn Z w w') : CMach w' lo c m := by
  obtain ⟨b1, b2, b3, b4, o1, o2, o3, k1, k2, k3, k4, hc, h1, h2, h3, h4, hlo, hd, t1, t2, t3, t4⟩ := h
  exact ⟨b1, b2, b3, b4, o1, o2, o3, k1, k2, k3, k4, hc, h1.turn hT (Ne.symm (hZ.ne t1.t ht)), h2.turn hT (Ne.symm (hZ.ne t2 ht)), h3.turn hT (Ne.symm (hZ.ne t3 ht)), h4.turn hT (Ne.symm (hZ.ne t4 ht)) t4.lt, hlo, hd, t1.turn hT (Ne.symm (hZ.ne t1.t ht)), t2.turn hT (Ne.symm (hZ.ne t2 ht)), t3.turn hT (Ne.symm (hZ.ne t3 ht)), t4.turn hT (Ne.symm (hZ.ne t4 ht))⟩
theorem Box.turn {Z Y : Nat} {t : TypeId} {cs : List Value} {u u' : World} (h : Box Z t cs u) (hT : Turn Y u u') (hY : Z ≠ Y) : Box Z t cs u' := ⟨h.r.turn hT hY, h.t.turn hT hY⟩
end Go.Proofs.YtnhpmbhphbphaaaGreat.Mch
