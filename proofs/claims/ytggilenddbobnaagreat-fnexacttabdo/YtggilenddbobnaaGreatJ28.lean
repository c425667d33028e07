/-
  What is told of atoms and a sum, and how a drawn region that makes them goes on: a state that bears boxes that are made anywhere along it.
-/
import Derived.Test.YtggilenddbobnaaGreatAl
import Derived.Test.YtggilenddbobnaaGreatJ26
import Derived.Test.YtggilenddbobnaaGreatJ27
namespace Go.Proofs.YtggilenddbobnaaGreat.Tab
set_option linter.unusedVariables false
open Go.ChangeShapes Go.WideShapes Go.ChangeAt Go.RowKit IntS Pol Push
/-- Atoms and a sum, told. -/
structure Out (w w' : World) (e : Ending) (ts : List At) (p : List Mono) : Prop where
 ex : ∃ q cap a n c la ha mid hid, e = .returned (.tuple #[.agg #[.slice q ts.length cap], .agg #[.slice a n c]]) ∧ WTab w' la ha (.slice q ts.length cap) ts ∧ WPoly w' mid hid (.slice a n c) p ∧ w.heap.size ≤ la ∧ ha ≤ w'.heap.size ∧ w.heap.size ≤ mid ∧ hid ≤ w'.heap.size
 bw : Below w.heap.size w w'
theorem Told2.out {w w' : World} {e : Ending} {ts : List At} {p : List Mono} (h : Told2 w w.heap.size w' e ts p) : Out w w' e ts p := by
 obtain ⟨⟨q, cap, cs, l, m, hh, mid, a, n, c, e1, ho, _, _, h1, hp⟩, bw⟩ := h
 exact ⟨⟨q, cap, a, n, c, w.heap.size, w'.heap.size, mid, w'.heap.size, e1, ho.whole, hp, Nat.le_refl _, Nat.le_refl _, h1, Nat.le_refl _⟩, bw⟩
theorem Told3.out {w w' : World} {e : Ending} {ts : List At} {p : List Mono} (h : Told3 w w' e ts p) : Out w w' e ts p := by
 obtain ⟨⟨q, cap, a, n, c, la, ha, mid, hid, e1, h1, h2, h3, h4, h5, h6, _⟩, bw⟩ := h
 exact ⟨⟨q, cap, a, n, c, la, ha, mid, hid, e1, h1, h2, h3, h4, h5, h6⟩, bw⟩
/-- A region that copies three arguments, calls, and makes two boxes: k calls are done; b1, b2: the boxes are there. -/
structure St (d : World) (ts : List At) (x y : List Mono) (R : List At) (T : List Mono) (k : Nat) (b1 b2 : Bool) (v1 v2 v3 v4 p1 p2 : Value) (lo hi : Nat) (W : World) : Prop where
 bd : Below d.heap.size d W
 c1 : 1 ≤ k → ∃ g B, v1 = .agg #[.slice (some ⟨g, 0, none⟩) ts.length ts.length] ∧ TRow W B (.slice (some ⟨g, 0, none⟩) ts.length ts.length) ts
 c2 : 2 ≤ k → ∃ g B, v2 = .agg #[.slice (some ⟨g, 0, none⟩) x.length x.length] ∧ PRow W B (.slice (some ⟨g, 0, none⟩) x.length x.length) x
 c3 : 3 ≤ k → ∃ g B, v3 = .agg #[.slice (some ⟨g, 0, none⟩) y.length y.length] ∧ PRow W B (.slice (some ⟨g, 0, none⟩) y.length y.length) y
 c4 : 4 ≤ k → ∃ q cap a n c la ha mid hid, v4 = .tuple #[.agg #[.slice q R.length cap], .agg #[.slice a n c]] ∧ WTab W la ha (.slice q R.length cap) R ∧ WPoly W mid hid (.slice a n c) T ∧ lo ≤ la ∧ ha ≤ hi ∧ lo ≤ mid ∧ hid ≤ hi
 le : d.heap.size ≤ lo ∧ hi ≤ W.heap.size
 z1 : b1 = true → ∃ Z, p1 = .pointer (some ⟨Z, 0, none⟩) ∧ Rec Z [.slice none 0 0] W ∧ d.heap.size ≤ Z ∧ (Z < lo ∨ hi ≤ Z)
 z2 : b2 = true → ∃ Z, p2 = .pointer (some ⟨Z, 0, none⟩) ∧ Rec Z [.slice none 0 0] W ∧ d.heap.size ≤ Z ∧ (Z < lo ∨ hi ≤ Z)
 zz : b1 = true → b2 = true → p1 ≠ p2
section
variable {d : World} {ts : List At} {x y : List Mono} {R : List At} {T : List Mono} {k : Nat} {b1 b2 : Bool} {v1 v2 v3 v4 p1 p2 : Value} {lo hi : Nat} {W W' : World}
theorem St.new (d : World) (ts : List At) (x y : List Mono) (R : List At) (T : List Mono) (v1 v2 v3 v4 p1 p2 : Value) : St d ts x y R T 0 false false v1 v2 v3 v4 p1 p2 d.heap.size d.heap.size d :=
 ⟨Below.refl _ _, (fun h => by omega), (fun h => by omega), (fun h => by omega), (fun h => by omega), ⟨Nat.le_refl _, Nat.le_refl _⟩, (fun h => by cases h), (fun h => by cases h), (fun h => by cases h)⟩
theorem St.down (h : St d ts x y R T k b1 b2 v1 v2 v3 v4 p1 p2 lo hi W) (hb : Below W.heap.size W W') : St d ts x y R T k b1 b2 v1 v2 v3 v4 p1 p2 lo hi W' := by
 refine ⟨h.bd.trans (hb.mono h.bd.size), fun e => ?_, fun e => ?_, fun e => ?_, fun e => ?_, ⟨h.le.1, Nat.le_trans h.le.2 hb.size⟩, fun e => ?_, fun e => ?_, h.zz⟩
 · obtain ⟨g, B, e1, r⟩ := h.c1 e
   exact ⟨g, B, e1, r.below hb⟩
 · obtain ⟨g, B, e1, r⟩ := h.c2 e
   exact ⟨g, B, e1, r.below hb⟩
 · obtain ⟨g, B, e1, r⟩ := h.c3 e
   exact ⟨g, B, e1, r.below hb⟩
 · obtain ⟨q, cap, a, n, c, la, ha, mid, hid, e1, h1, h2, hr⟩ := h.c4 e
   exact ⟨q, cap, a, n, c, la, ha, mid, hid, e1, h1.below hb, h2.below hb, hr⟩
 · obtain ⟨Z, e1, r, hr⟩ := h.z1 e
   exact ⟨Z, e1, r.below hb, hr⟩
 · obtain ⟨Z, e1, r, hr⟩ := h.z2 e
   exact ⟨Z, e1, r.below hb, hr⟩
theorem St.box1 (h : St d ts x y R T k false b2 v1 v2 v3 v4 p1 p2 lo hi W) (t : TypeId) : St d ts x y R T k true b2 v1 v2 v3 v4 (.pointer (some ⟨W.heap.size, 0, none⟩)) p2 lo hi (W.alloc (.cells #[.slice none 0 0] t)) := by
 have hb : Below W.heap.size W (W.alloc (.cells #[.slice none 0 0] t)) := (Below.refl _ _).alloc (Nat.le_refl _) _
 have g := h.down hb
 refine ⟨g.bd, g.c1, g.c2, g.c3, g.c4, g.le, fun _ => ⟨W.heap.size, rfl, Rec.new W [.slice none 0 0] t, h.bd.size, Or.inr h.le.2⟩, g.z2, fun _ e => ?_⟩
 obtain ⟨Z, e1, r, _⟩ := h.z2 e
 have hl := r.lt
 subst e1
 intro e2
 have : W.heap.size = Z := by injection e2 with e3; injection e3 with e4; injection e4
 omega
theorem St.box2 (h : St d ts x y R T k b1 false v1 v2 v3 v4 p1 p2 lo hi W) (t : TypeId) : St d ts x y R T k b1 true v1 v2 v3 v4 p1 (.pointer (some ⟨W.heap.size, 0, none⟩)) lo hi (W.alloc (.cells #[.slice none 0 0] t)) := by
 have hb : Below W.heap.size W (W.alloc (.cells #[.slice none 0 0] t)) := (Below.refl _ _).alloc (Nat.le_refl _) _
 have g := h.down hb
 refine ⟨g.bd, g.c1, g.c2, g.c3, g.c4, g.le, g.z1, fun _ => ⟨W.heap.size, rfl, Rec.new W [.slice none 0 0] t, h.bd.size, Or.inr h.le.2⟩, fun e _ => ?_⟩
 obtain ⟨Z, e1, r, _⟩ := h.z1 e
 have hl := r.lt
 subst e1
 intro e2
 have : Z = W.heap.size := by injection e2 with e3; injection e3 with e4; injection e4
 omega
theorem St.call1 (h : St d ts x y R T 0 b1 b2 v1 v2 v3 v4 p1 p2 lo hi W) (hb : Below W.heap.size W W') {g : Nat} (ht : ∃ B, TRow W' B (.slice (some ⟨g, 0, none⟩) ts.length ts.length) ts) : St d ts x y R T 1 b1 b2 (.agg #[.slice (some ⟨g, 0, none⟩) ts.length ts.length]) v2 v3 v4 p1 p2 lo hi W' := by
 have g' := h.down hb
 obtain ⟨B, r⟩ := ht
 exact ⟨g'.bd, fun _ => ⟨g, B, rfl, r⟩, (fun e => by omega), (fun e => by omega), (fun e => by omega), g'.le, g'.z1, g'.z2, g'.zz⟩
theorem St.call2 (h : St d ts x y R T 1 b1 b2 v1 v2 v3 v4 p1 p2 lo hi W) (hb : Below W.heap.size W W') {g : Nat} (ht : ∃ B, PRow W' B (.slice (some ⟨g, 0, none⟩) x.length x.length) x) : St d ts x y R T 2 b1 b2 v1 (.agg #[.slice (some ⟨g, 0, none⟩) x.length x.length]) v3 v4 p1 p2 lo hi W' := by
 have g' := h.down hb
 obtain ⟨B, r⟩ := ht
 exact ⟨g'.bd, fun _ => g'.c1 (by omega), fun _ => ⟨g, B, rfl, r⟩, (fun e => by omega), (fun e => by omega), g'.le, g'.z1, g'.z2, g'.zz⟩
theorem St.call3 (h : St d ts x y R T 2 b1 b2 v1 v2 v3 v4 p1 p2 lo hi W) (hb : Below W.heap.size W W') {g : Nat} (ht : ∃ B, PRow W' B (.slice (some ⟨g, 0, none⟩) y.length y.length) y) : St d ts x y R T 3 b1 b2 v1 v2 (.agg #[.slice (some ⟨g, 0, none⟩) y.length y.length]) v4 p1 p2 lo hi W' := by
 have g' := h.down hb
 obtain ⟨B, r⟩ := ht
 exact ⟨g'.bd, fun _ => g'.c1 (by omega), fun _ => g'.c2 (by omega), fun _ => ⟨g, B, rfl, r⟩, (fun e => by omega), g'.le, g'.z1, g'.z2, g'.zz⟩
theorem St.call4 (h : St d ts x y R T 3 b1 b2 v1 v2 v3 v4 p1 p2 lo hi W) {e : Ending} (ho : Out W W' e R T) : ∃ q cap a n c, e = .returned (.tuple #[.agg #[.slice q R.length cap], .agg #[.slice a n c]]) ∧ St d ts x y R T 4 b1 b2 v1 v2 v3 (.tuple #[.agg #[.slice q R.length cap], .agg #[.slice a n c]]) p1 p2 W.heap.size W'.heap.size W' := by
 obtain ⟨⟨q, cap, a, n, c, la, ha, mid, hid, e1, h1, h2, h3, h4, h5, h6⟩, bw⟩ := ho
 have g' := h.down bw
 refine ⟨q, cap, a, n, c, e1, g'.bd, fun _ => g'.c1 (by omega), fun _ => g'.c2 (by omega), fun _ => g'.c3 (by omega), fun _ => ⟨q, cap, a, n, c, la, ha, mid, hid, rfl, h1, h2, h3, h4, h5, h6⟩, ⟨h.bd.size, Nat.le_refl _⟩, fun e => ?_, fun e => ?_, g'.zz⟩
 · obtain ⟨Z, e1, r, r2, _⟩ := h.z1 e
   exact ⟨Z, e1, r.below bw, r2, Or.inl r.lt⟩
 · obtain ⟨Z, e1, r, r2, _⟩ := h.z2 e
   exact ⟨Z, e1, r.below bw, r2, Or.inl r.lt⟩
/-- How such a region ends. -/
structure Done (d : World) (R : List At) (T : List Mono) (Z1 Z2 : Nat) (q : Option Addr) (cap : Nat) (a : Option Addr) (n c la ha mid hid : Nat) (W : World) : Prop where
 bd : Below d.heap.size d W
 r1 : Rec Z1 [.slice q R.length cap] W
 r2 : Rec Z2 [.slice a n c] W
 t : WTab W la ha (.slice q R.length cap) R
 p : WPoly W mid hid (.slice a n c) T
 le : d.heap.size ≤ la ∧ d.heap.size ≤ mid ∧ ha ≤ W.heap.size ∧ hid ≤ W.heap.size ∧ d.heap.size ≤ Z1 ∧ d.heap.size ≤ Z2
theorem St.done {q : Option Addr} {cap : Nat} {a : Option Addr} {n c Z1 Z2 : Nat} (h : St d ts x y R T 4 true true v1 v2 v3 (.tuple #[.agg #[.slice q R.length cap], .agg #[.slice a n c]]) (.pointer (some ⟨Z1, 0, none⟩)) (.pointer (some ⟨Z2, 0, none⟩)) lo hi W) :
 Rec Z1 [.slice none 0 0] W ∧ Rec Z2 [.slice none 0 0] W ∧ Z1 ≠ Z2 ∧ d.heap.size ≤ Z1 ∧ d.heap.size ≤ Z2 ∧ ∃ la ha mid hid, Done d R T Z1 Z2 q cap a n c la ha mid hid ((W.setCell ⟨Z1, 0, none⟩ (.slice q R.length cap)).setCell ⟨Z2, 0, none⟩ (.slice a n c)) := by
 obtain ⟨q', cap', a', n', c', la, ha, mid, hid, e1, h1, h2, l1, l2, l3, l4⟩ := h.c4 (Nat.le_refl _)
 obtain ⟨rfl, rfl, rfl, rfl, rfl⟩ : q = q' ∧ cap = cap' ∧ a = a' ∧ n = n' ∧ c = c' := by cases e1; exact ⟨rfl, rfl, rfl, rfl, rfl⟩
 obtain ⟨Z1', e2, r1, d1, m1⟩ := h.z1 rfl
 obtain rfl : Z1 = Z1' := by cases e2; rfl
 obtain ⟨Z2', e3, r2, d2, m2⟩ := h.z2 rfl
 obtain rfl : Z2 = Z2' := by cases e3; rfl
 have ne : Z1 ≠ Z2 := fun e => h.zz rfl rfl (by rw [e])
 have t1 : Turn Z1 W (W.setCell ⟨Z1, 0, none⟩ (.slice q R.length cap)) := (Turn.refl _ W).setCell (p := ⟨Z1, 0, none⟩) rfl _
 have t2 : Turn Z2 (W.setCell ⟨Z1, 0, none⟩ (.slice q R.length cap)) ((W.setCell ⟨Z1, 0, none⟩ (.slice q R.length cap)).setCell ⟨Z2, 0, none⟩ (.slice a n c)) := (Turn.refl _ _).setCell (p := ⟨Z2, 0, none⟩) rfl _
 have le := h.le
 refine ⟨r1, r2, ne, d1, d2, la, ha, mid, hid, ⟨(h.bd.trans (t1.below d1 h.bd.size)).trans (t2.below d2 (Nat.le_trans h.bd.size t1.size)), (r1.set 0 (.slice q R.length cap) (by simp) rfl).turn t2 ne, (r2.turn t1 (Ne.symm ne)).set 0 (.slice a n c) (by simp) rfl, (h1.keep (Keep.of_turn t1) (fun b' b1 b2 (b3 : b' = _) => by omega)).keep (Keep.of_turn t2) (fun b' b1 b2 (b3 : b' = _) => by omega), (h2.keep (Keep.of_turn t1) (fun b' b1 b2 (b3 : b' = _) => by omega)).keep (Keep.of_turn t2) (fun b' b1 b2 (b3 : b' = _) => by omega), ?_⟩⟩
 have s1 := t1.size
 have s2 := t2.size
 omega
end
theorem tot_le {n : Nat} : ∀ {L : List Mono}, (∀ x ∈ L, x.2.length ≤ n) → tot L ≤ L.length * n
 | [], _ => by simp [tot]
 | x :: r, h => by
  have h1 := h x (List.mem_cons_self ..)
  have h2 := tot_le (L := r) (fun y hy => h y (List.mem_cons_of_mem _ hy))
  simp only [tot, List.length_cons, Nat.succ_mul]
  omega
theorem small_fit (L : List Mono) : (fitP L).length + tot (fitP L) ≤ 1000000 := by
 unfold fitP
 by_cases h : fitB L = true
 · rw [if_pos h]
   unfold fitB at h
   simp only [Bool.and_eq_true, decide_eq_true_eq, List.all_eq_true] at h
   have := tot_le (n := 4) (L := L) h.2
   omega
 · rw [if_neg h]
   simp [tot]
theorem small_add (ps qs : List Mono) : (addP ps qs).length + tot (addP ps qs) ≤ 1000000 := by
 by_cases h : okP ps = true ∧ okP qs = true
 · rw [(add_yes h.1 h.2).2]
   exact small_fit _
 · rw [(add_no h).2]
   simp [tot]
theorem small_mul (ps qs : List Mono) : (mulP ps qs).length + tot (mulP ps qs) ≤ 1000000 := by
 by_cases h : okP ps = true ∧ okP qs = true
 · rw [(mul_yes h.1 h.2).2]
   exact small_fit _
 · rw [(mul_no h).2]
   simp [tot]
theorem small_const (n : Int) : (constP n).length + tot (constP n) ≤ 1000000 := by
 unfold constP
 split <;> simp [tot]
theorem small_atom (n : Int) : (atomP n).length + tot (atomP n) ≤ 1000000 := by
 unfold atomP
 split <;> simp [tot]
theorem small_half {op n : Int} {y : List Mono} (hy : y.length + tot y ≤ 2000000) : (halfP op n y).length + tot (halfP op n y) ≤ 2000000 := by
 unfold halfP
 split
 · simp [tot]
 · split
   · exact hy
   · simp [tot]
theorem small_do {ts : List At} {op : Int} {x y : List Mono} (hx : x.length + tot x ≤ 2000000) (hy : y.length + tot y ≤ 2000000) : (dosP ts op x y).length + tot (dosP ts op x y) ≤ 2000000 := by
 have h0 : ([] : List Mono).length + tot [] ≤ 2000000 := by simp [tot]
 have le {a : Nat} (h : a ≤ 1000000) : a ≤ 2000000 := by omega
 unfold dosP
 split
 · unfold doP
   split
   · unfold plP
     split
     · unfold bitsP
       split
       · exact le (small_const _)
       · split
         · split
           · exact hx
           · exact h0
         · split
           · exact small_half hy
           · split
             · exact small_half hx
             · exact h0
     · unfold ringP
       split
       · exact le (small_add _ _)
       · split
         · exact le (small_add _ _)
         · split
           · exact le (small_mul _ _)
           · exact h0
   · split
     · exact h0
     · exact le (small_atom _)
 · exact h0
theorem small_dot {ts : List At} {op : Int} {x y : List Mono} : (dosT ts op x y).length + totT (dosT ts op x y) ≤ ts.length + totT ts + 1 + (x.length + tot x + (y.length + tot y)) := by
 unfold dosT
 split
 · unfold doT
   split
   · omega
   · split
     · simp [totT]
     · unfold putT
       split
       · rw [List.length_append, totT_app]
         have : szA (doA op x y) = x.length + tot x + (y.length + tot y) ∨ szA (doA op x y) = y.length + tot y + (x.length + tot x) := by
          unfold doA
          split
          · exact Or.inr rfl
          · exact Or.inl rfl
         simp [totT]
         omega
       · omega
 · simp [totT]
theorem offT_full (ts : List At) : offT ts ts.length = 2 * (ts.length : Int) + (totT ts : Int) := by unfold offT; rw [List.take_length]
end Go.Proofs.YtggilenddbobnaaGreat.Tab
