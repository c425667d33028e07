/-
  Blocks that hold structs, and what turns.
  Contracts of the laws' own szTrmPoly, eqTrmPoly and toTrmPoly.
  Contracts of the laws' own toTrmPoly; a sum that came in as plain data.
  The laws' own toTrmPoly; a sum that came in as plain data can be read.
-/
import Derived.Test.YtggilenddbobnaaGreatAl
import Derived.Test.YtggilenddbobnaaGreatJ03
import Derived.Test.YtggilenddbobnaaGreatJ01
namespace Go.Proofs.YtggilenddbobnaaGreat.Pol
open Go.ChangeShapes Go.WideShapes Go.ChangeAt Go.RowKit IntS
/-- A block that holds a struct's cells. -/
structure Rec (Z : Nat) (cs : List Value) (w : World) : Prop where
 lt : Z < w.heap.size
 cell : ∀ (i : Nat) v, cs[i]? = some v → w.cell? ⟨Z, i, none⟩ = some v
 soft : ∀ i : Nat, w.frozen? ⟨Z, i, none⟩ = false
theorem Rec.new (w : World) (cs : List Value) (t : TypeId) : Rec w.heap.size cs (w.alloc (.cells cs.toArray t)) :=
 ⟨by simp, fun i v h => by rw [World.cell?_alloc_new]; simpa using h, fun i => by simp⟩
theorem Rec.turn {Z B : Nat} {cs : List Value} {w w' : World} (h : Rec Z cs w) (ht : Turn B w w') (hB : Z ≠ B) : Rec Z cs w' :=
 ⟨Nat.lt_of_lt_of_le h.lt ht.size, fun i v hv => (ht.cell (p := ⟨Z, i, none⟩) h.lt hB).trans (h.cell i v hv), fun i => (ht.frozen (p := ⟨Z, i, none⟩) h.lt hB).trans (h.soft i)⟩
theorem Rec.below {Z : Nat} {cs : List Value} {w w' : World} (h : Rec Z cs w) (hb : Below w.heap.size w w') : Rec Z cs w' := h.turn (B := Z + 1) (Turn.of_below hb) (by omega)
theorem Rec.alloc {Z : Nat} {cs : List Value} {w : World} (h : Rec Z cs w) (o : Obj) : Rec Z cs (w.alloc o) := h.below ((Below.refl _ _).alloc (Nat.le_refl _) o)
theorem Rec.other {Z : Nat} {cs : List Value} {w : World} (h : Rec Z cs w) (p : Addr) (v : Value) (hp : p.block ≠ Z) : Rec Z cs (w.setCell p v) := h.turn ((Turn.refl p.block w).setCell rfl v) (fun e => hp e.symm)
theorem Rec.set {Z : Nat} {cs cs' : List Value} {w : World} (h : Rec Z cs w) (i : Nat) (v : Value) (hi : i < cs.length) (he : cs.set i v = cs') : Rec Z cs' (w.setCell ⟨Z, i, none⟩ v) := by
 subst he
 refine ⟨by simpa [World.setCell] using h.lt, fun j x hx => ?_, fun j => (World.frozen?_setCell ..).trans (h.soft j)⟩
 by_cases e : i = j
 · subst e
   rw [List.getElem?_set_self hi] at hx
   obtain rfl := Option.some.inj hx
   exact World.cell?_setCell_same w _ _ (h.cell i _ (List.getElem?_eq_getElem hi))
 · rw [List.getElem?_set_ne e] at hx
   rw [World.cell?_setCell_other w _ _ _ (fun h2 => e (congrArg Addr.off h2))]
   exact h.cell j x hx
theorem other_row {w : World} {B : Nat} {v : Value} {xs : List Int} (h : WRow w B v xs) (p : Addr) (x : Value) (hp : p.block ≠ B) : WRow (w.setCell p x) B v xs := h.turn ((Turn.refl p.block w).setCell rfl x) (fun e => hp e.symm)
/-- The three blocks of toMchMach: what came in, the answer, and what is filled. -/
structure Three (w : World) (n : Nat) (A Z O : List Value) (u : World) : Prop where
 bw : Below n w u
 a : Rec n A u
 z : Rec (n + 1) Z u
 o : Rec (n + 1 + 1) O u
theorem Three.new (w : World) (A Z O : List Value) (t1 t2 t3 : TypeId) : Three w w.heap.size A Z O (((w.alloc (.cells A.toArray t1)).alloc (.cells Z.toArray t2)).alloc (.cells O.toArray t3)) := by
 have hz := Rec.new (w.alloc (.cells A.toArray t1)) Z t2
 have ez : (w.alloc (.cells A.toArray t1)).heap.size = w.heap.size + 1 := by simp
 have ho := Rec.new ((w.alloc (.cells A.toArray t1)).alloc (.cells Z.toArray t2)) O t3
 have eo : ((w.alloc (.cells A.toArray t1)).alloc (.cells Z.toArray t2)).heap.size = w.heap.size + 1 + 1 := by simp
 rw [ez] at hz
 rw [eo] at ho
 exact ⟨(((Below.refl _ _).alloc (Nat.le_refl _) _).alloc (by simp) _).alloc (by simp; omega) _, ((Rec.new w A t1).alloc _).alloc _, hz.alloc _, ho⟩
theorem Three.below {w u u' : World} {n : Nat} {A Z O : List Value} (h : Three w n A Z O u) (hb : Below u.heap.size u u') : Three w n A Z O u' :=
 ⟨h.bw.trans (hb.mono (Nat.le_of_lt h.a.lt)), h.a.below hb, h.z.below hb, h.o.below hb⟩
theorem Three.set {w u : World} {n : Nat} {A Z O O' : List Value} (h : Three w n A Z O u) (i : Nat) (v : Value) (hi : i < O.length) (he : O.set i v = O') : Three w n A Z O' (u.setCell ⟨n + 1 + 1, i, none⟩ v) :=
 ⟨h.bw.setCell (by show n ≤ n + 1 + 1; omega) _, h.a.other _ _ (by show n + 1 + 1 ≠ n; omega), h.z.other _ _ (by show n + 1 + 1 ≠ n + 1; omega), h.o.set i v hi he⟩
theorem Rec.drew {Z : Nat} {cs : List Value} {w : World} (h : Rec Z cs w) : Rec Z cs w.drew := ⟨h.lt, h.cell, h.soft⟩
/-- Of the blocks that were there only those of a set may have turned. -/
structure Keep (S : Nat → Prop) (w w' : World) : Prop where
 os : w'.os = w.os
 tape : w'.tape = w.tape
 output : w'.output = w.output
 size : w.heap.size ≤ w'.heap.size
 block : ∀ k, k < w.heap.size → ¬ S k → w'.heap[k]? = w.heap[k]?
theorem Keep.refl (S : Nat → Prop) (w : World) : Keep S w w := ⟨rfl, rfl, rfl, Nat.le_refl _, fun _ _ _ => rfl⟩
theorem Keep.of_below {S : Nat → Prop} {w w' : World} (h : Below w.heap.size w w') : Keep S w w' := ⟨h.os, h.tape, h.output, h.size, fun k hk _ => h.block k hk⟩
theorem Keep.trans {S : Nat → Prop} {a b c : World} (h : Keep S a b) (k : Keep S b c) : Keep S a c :=
 ⟨k.os.trans h.os, k.tape.trans h.tape, k.output.trans h.output, Nat.le_trans h.size k.size, fun j hj hn => (k.block j (Nat.lt_of_lt_of_le hj h.size) hn).trans (h.block j hj hn)⟩
theorem Keep.turn {S : Nat → Prop} {a b c : World} {B : Nat} (h : Keep S a b) (k : Turn B b c) (hB : ∀ j, j < a.heap.size → ¬ S j → j ≠ B) : Keep S a c :=
 ⟨k.os.trans h.os, k.tape.trans h.tape, k.output.trans h.output, Nat.le_trans h.size k.size, fun j hj hn => (k.block j (Nat.lt_of_lt_of_le hj h.size) (hB j hj hn)).trans (h.block j hj hn)⟩
theorem Keep.mono {S S' : Nat → Prop} {w w' : World} (h : Keep S w w') (hs : ∀ k, k < w.heap.size → S k → S' k) : Keep S' w w' := ⟨h.os, h.tape, h.output, h.size, fun k hk hn => h.block k hk (fun h2 => hn (hs k hk h2))⟩
theorem Keep.below {S : Nat → Prop} {n : Nat} {w w' : World} (h : Keep S w w') (hn : n ≤ w.heap.size) (hS : ∀ k, k < n → ¬ S k) : Below n w w' := ⟨h.os, h.tape, h.output, h.size, fun k hk => h.block k (Nat.lt_of_lt_of_le hk hn) (hS k hk)⟩
theorem Rec.keep {S : Nat → Prop} {Z : Nat} {cs : List Value} {w w' : World} (h : Rec Z cs w) (hk : Keep S w w') (hZ : ¬ S Z) : Rec Z cs w' := by
 have e := hk.block Z h.lt hZ
 exact ⟨Nat.lt_of_lt_of_le h.lt hk.size, fun j v hv => (World.cell?_of_block (w := w) (a := ⟨Z, j, none⟩) e).trans (h.cell j v hv), fun j => (World.frozen?_of_block (w := w) (a := ⟨Z, j, none⟩) e).trans (h.soft j)⟩
theorem row_keep {S : Nat → Prop} {w w' : World} {B : Nat} {v : Value} {xs : List Int} (h : WRow w B v xs) (hk : Keep S w w') (hB : ¬ S B) : WRow w' B v xs := by
 obtain ⟨a, cap, off, h1, h2, h3, hz, h4⟩ := h
 refine ⟨a, cap, off, h1, h2, h3, hz, ?_⟩
 rcases h4 with h4 | ⟨h4, hlt, h5⟩
 · exact Or.inl h4
 · have e := hk.block B hlt hB
   exact Or.inr ⟨h4, Nat.lt_of_lt_of_le hlt hk.size, fun i x hx => ⟨(World.cell?_of_block (w := w) (a := ⟨B, off + i, none⟩) e).trans (h5 i x hx).1, (World.frozen?_of_block (w := w) (a := ⟨B, off + i, none⟩) e).trans (h5 i x hx).2⟩⟩
theorem Keep.of_turn {B : Nat} {w w' : World} (h : Turn B w w') : Keep (fun k => k = B) w w' := ⟨h.os, h.tape, h.output, h.size, fun k hk hn => h.block k hk hn⟩
end Go.Proofs.YtggilenddbobnaaGreat.Pol
namespace Go.Proofs.YtggilenddbobnaaGreat.Pol
open Go.ChangeShapes Go.WideShapes Go.ChangeAt Go.RowKit IntS
/-- How many atoms there are. -/
def tot : List Mono → Nat
 | [] => 0
 | x :: r => x.2.length + tot r
theorem tot_app : ∀ a b : List Mono, tot (a ++ b) = tot a + tot b
 | [], b => by simp [tot]
 | x :: a, b => by simp [tot, tot_app a b]; omega
theorem tot_next {ps : List Mono} {k : Nat} {x : Mono} (h : ps[k]? = some x) : tot (ps.take (k + 1)) = tot (ps.take k) + x.2.length := by
 rw [List.take_add_one, h, tot_app]
 simp [tot]
theorem tot_le {ps : List Mono} (k : Nat) : tot (ps.take k) ≤ tot ps := by
 have := tot_app (ps.take k) (ps.drop k)
 rw [List.take_append_drop] at this
 omega
theorem tot_at {ps : List Mono} {k : Nat} {x : Mono} (h : ps[k]? = some x) : x.2.length ≤ tot ps := by
 have := tot_next h
 have := tot_le (ps := ps) (k + 1)
 omega
/-- A sum that is not too great. -/
def SmallP (ps : List Mono) : Prop := ps.length + tot ps ≤ 1048576
theorem szTrmMono (c : Int) (n cap : Nat) (a : Option Addr) (left : Int) (w : World) (hn : n ≤ cap) (hc : cap ≤ maxLen) (h0 : 0 ≤ left) (h1 : left ≤ 1048576) :
 Calls Tryz.prog 40 #[.agg #[.int .i64 c, .slice a n cap], .int .i64 left] w fun e w' => e = .returned (.int .i64 (if left < n then -1 else left - n)) ∧ Below w.heap.size w w' := by
 have BW : Hid (Below w.heap.size w (w.alloc (.cells #[.int .i64 c, .slice a n cap] 75))) := (Below.refl _ _).alloc (Nat.le_refl _) _
 have HC := hide hc
 by_cases h : left < n
 · have E : Hid ((if left < (n : Int) then (-1 : Int) else left - n) = -1) := if_pos h
   rw [E.out]
   clear h
   go_enter Tryz.func40, Tryz.ntmps40
   go_wp2_with fail
   refine (szIntS n cap a left _ hn HC.out h0 h1).mono ?_
   rintro e u ⟨rfl, rfl⟩
   rw [E.out]
   go_wp2
   go_ret
   exact ⟨rfl, BW.out⟩
 · have E : Hid ((if left < (n : Int) then (-1 : Int) else left - n) = left - n) := if_neg h
   rw [E.out]
   have h' : ¬ left - (n : Int) < 0 := by omega
   clear h
   go_enter Tryz.func40, Tryz.ntmps40
   go_wp2_with fail
   refine (szIntS n cap a left _ hn HC.out h0 h1).mono ?_
   rintro e u ⟨rfl, rfl⟩
   rw [E.out]
   go_wp2
   go_ret
   exact ⟨rfl, BW.out⟩
set_option maxRecDepth 8000 in
set_option maxHeartbeats 4000000 in
theorem szTrmMonoS (ps : List Mono) (B : Nat) (v : Value) (left : Int) (w : World) (h : PRow w B v ps) (h0 : 0 ≤ left) (h1 : left ≤ 1048576) :
 Calls Tryz.prog 17 #[v, .int .i64 left] w fun e w' => ∃ r : Int, e = .returned (.int .i64 r) ∧ -1 ≤ r ∧ (0 ≤ r → r = left - ps.length - tot ps) ∧ Below w.heap.size w w' := by
 obtain ⟨a, cap, off, rfl, h2, h3, hz, h4⟩ := h
 unfold maxLen at h3
 clear hz
 by_cases e1 : left < ps.length
 · have e2 : left - (ps.length : Int) < 0 := by omega
   clear h4 e1
   go_enter Tryz.func17, Tryz.ntmps17
   go_wp2
   go_ret
   exact ⟨-1, rfl, by omega, fun h => by omega, Below.refl _ _⟩
 have e2 : ¬ left - (ps.length : Int) < 0 := by omega
 obtain ⟨n, en⟩ : ∃ n, ps.length = n := ⟨_, rfl⟩
 have EN := hide en
 rw [en] at h2 e1 e2 ⊢
 have H4 := hide h4
 clear en h4
 go_enter Tryz.func17, Tryz.ntmps17
 by_cases n0 : n = 0
 · subst n0
   have e0 : Hid (tot ps = 0) := show _ = _ by rw [List.length_eq_zero_iff.1 EN.out]; rfl
   go_wp2
   refine wp_loop_rounds 1 ?_
   rw [rounds_succ]
   go_wp2
   go_ret
   exact ⟨_, rfl, by omega, fun _ => by rw [e0.out]; omega, Below.refl _ _⟩
 · obtain ⟨rfl, hc⟩ := H4.out.resolve_left (fun e => n0 (by rw [← EN.out, e]; rfl))
   have HC := hide hc
   clear hc H4
   go_wp2
   go_loopw [1, 5] (fun l i wr => ∃ (k : Nat) (r : Int), k ≤ n ∧ i = .int .i64 k ∧ l = .int .i64 r ∧ 0 ≤ r ∧ r ≤ 1048576 ∧ Hid (r = left - n - tot (ps.take k)) ∧ Hid (Below w.heap.size w wr)) (fun _ i _ => n - (intOf i).toNat)
   case atStart => exact ⟨0, left - n, by omega, rfl, rfl, by omega, by omega, by show _ = _; simp [tot], Below.refl _ _⟩
   case round =>
    obtain ⟨k, r, hk, rfl, rfl, r0, r1, HR, HB⟩ := hrel
    by_cases hlt : k < n
    · obtain ⟨x, ex⟩ : ∃ x, ps[k]? = some x := ⟨_, List.getElem?_eq_getElem (by rw [EN.out]; exact hlt)⟩
      obtain ⟨c, at_⟩ := x
      obtain ⟨g1, s, b, g2, g3⟩ := HC.out k _ ex
      have cx := cell_below HB.out g1
      have sx := cell_below HB.out g2
      obtain ⟨qa, ca, _, rfl, l2, l3, _⟩ := g3
      simp only [] at cx sx l2
      have L3 := hide l3
      have TN := hide (tot_next ex)
      clear ex g1 g2 l3
      go_wp2_with fail
      refine (szTrmMono c at_.length ca qa r _ l2 L3.out r0 r1).mono ?_
      rintro e u ⟨rfl, hb⟩
      have HB2 := hide (HB.out.trans (hb.mono HB.out.size))
      clear hb
      by_cases hs : r < at_.length
      · rw [if_pos hs]
        clear hs
        go_wp2
        go_ret
        exact ⟨-1, rfl, by omega, fun h => by omega, HB2.out⟩
      · rw [if_neg hs]
        have hs' : ¬ r - (at_.length : Int) < 0 := by omega
        have HR2 : Hid (r - at_.length = left - n - tot (ps.take (k + 1))) := show _ = _ by have := HR.out; have := TN.out; omega
        clear hs
        go_wp2
        exact ⟨⟨k + 1, r - at_.length, by omega, by go_num, by first | rfl | go_num, by omega, by omega, HR2, HB2⟩, by simp [intOf]; omega⟩
    · have HD : Hid (r = left - n - tot ps) := show _ = _ by
       have := HR.out
       rw [List.take_of_length_le (by rw [EN.out]; omega)] at this
       exact this
      go_wp2
      go_ret
      exact ⟨r, rfl, by omega, fun _ => HD.out, HB.out⟩
theorem szTrmPoly (ps : List Mono) (B : Nat) (v : Value) (left : Int) (w : World) (h : PRow w B v ps) (h0 : 0 ≤ left) (h1 : left ≤ 1048576) :
 Calls Tryz.prog 5 #[.agg #[v], .int .i64 left] w fun e w' => ∃ r : Int, e = .returned (.int .i64 r) ∧ -1 ≤ r ∧ (0 ≤ r → r = left - ps.length - tot ps) ∧ Below w.heap.size w w' := by
 have bV : Below w.heap.size w (w.alloc (.cells #[v] 27)) := (Below.refl _ _).alloc (Nat.le_refl _) _
 have H := hide (h.below bV)
 have BW := hide bV
 obtain ⟨a, cap, off, rfl, _⟩ := h
 clear bV
 go_enter Tryz.func5, Tryz.ntmps5
 go_wp2_with fail
 refine (szTrmMonoS ps B _ left _ H.out h0 h1).mono ?_
 rintro e u ⟨r, rfl, r0, hr, hb⟩
 have HR := hide hr
 replace BW := hide (BW.out.trans (hb.mono BW.out.size))
 clear hr hb
 by_cases hs : r < 0
 · go_wp2
   go_ret
   exact ⟨-1, rfl, by omega, fun h => by omega, BW.out⟩
 · go_wp2
   go_ret
   exact ⟨r, rfl, by omega, HR.out, BW.out⟩
theorem eqTrmMono (c : Int) (xs : List Int) (B B' : Nat) (v v' : Value) (w : World) (h : Row w B v xs) (h' : Row w B' v' xs) :
 Calls Tryz.prog 71 #[.agg #[.int .i64 c, v], .agg #[.int .i64 c, v']] w fun e w' => e = .returned (.bool true) ∧ Below w.heap.size w w' := by
 have bV : Below w.heap.size w ((w.alloc (.cells #[.int .i64 c, v] 82)).alloc (.cells #[.int .i64 c, v'] 82)) := ((Below.refl _ _).alloc (Nat.le_refl _) _).alloc (by simp) _
 have H := hide (h.below bV)
 have H' := hide (h'.below bV)
 have BW := hide bV
 obtain ⟨a, cap, off, rfl, _⟩ := h
 obtain ⟨a', cap', off', rfl, _⟩ := h'
 have cc : (c != c) = false := by simp
 clear bV
 go_enter Tryz.func71, Tryz.ntmps71
 go_wp2_with fail
 refine (eqIntS xs xs B B' _ _ _ H.out H'.out).mono ?_
 rintro e u ⟨rfl, hb⟩
 rw [decide_eq_true (rfl : xs = xs)]
 replace BW := hide (BW.out.trans (hb.mono BW.out.size))
 clear hb
 go_wp2
 go_ret
 exact ⟨rfl, BW.out⟩
set_option maxRecDepth 8000 in
set_option maxHeartbeats 4000000 in
theorem eqTrmMonoS (ps : List Mono) (B B' : Nat) (v v' : Value) (w : World) (h : PRow w B v ps) (h' : PRow w B' v' ps) :
 Calls Tryz.prog 34 #[v, v'] w fun e w' => e = .returned (.bool true) ∧ Below w.heap.size w w' := by
 obtain ⟨a, cap, off, rfl, h2, h3, hz, h4⟩ := h
 obtain ⟨a', cap', off', rfl, h2', h3', hz', h4'⟩ := h'
 unfold maxLen at h3 h3'
 clear hz hz'
 obtain ⟨n, en⟩ : ∃ n, ps.length = n := ⟨_, rfl⟩
 have EN := hide en
 rw [en] at h2 h2' ⊢
 have H4 := hide h4
 have H4' := hide h4'
 have nn : ((n : Int) != (n : Int)) = false := by simp
 clear en h4 h4'
 go_enter Tryz.func34, Tryz.ntmps34
 by_cases n0 : n = 0
 · subst n0
   go_wp2
   refine wp_loop_rounds 1 ?_
   rw [rounds_succ]
   go_wp2
   go_ret
   exact ⟨rfl, Below.refl _ _⟩
 · obtain ⟨rfl, hc⟩ := H4.out.resolve_left (fun e => n0 (by rw [← EN.out, e]; rfl))
   obtain ⟨rfl, hc'⟩ := H4'.out.resolve_left (fun e => n0 (by rw [← EN.out, e]; rfl))
   have HC := hide hc
   have HC' := hide hc'
   clear hc hc' H4 H4'
   go_wp2
   go_loopw [5] (fun i wr => ∃ k : Nat, k ≤ n ∧ i = .int .i64 k ∧ Hid (Below w.heap.size w wr)) (fun i _ => n - (intOf i).toNat)
   case atStart => exact ⟨0, by omega, rfl, Below.refl _ _⟩
   case round =>
    obtain ⟨k, hk, rfl, HB⟩ := hrel
    by_cases hlt : k < n
    · obtain ⟨x, ex⟩ : ∃ x, ps[k]? = some x := ⟨_, List.getElem?_eq_getElem (by rw [EN.out]; exact hlt)⟩
      obtain ⟨c, at_⟩ := x
      obtain ⟨g1, s, b, g2, g3⟩ := HC.out k _ ex
      obtain ⟨g1', s', b', g2', g3'⟩ := HC'.out k _ ex
      have cx := cell_below HB.out g1
      have sx := cell_below HB.out g2
      have cx' := cell_below HB.out g1'
      have sx' := cell_below HB.out g2'
      have HB2 : Hid (Below w.heap.size w wr.drew) := HB.out.drew
      have RX := hide (g3.below HB2.out)
      have RX' := hide (g3'.below HB2.out)
      obtain ⟨qa, ca, _, rfl, _⟩ := g3
      obtain ⟨qa', ca', _, rfl, _⟩ := g3'
      simp only [] at cx sx cx' sx' RX RX'
      have lk : ((k : Nat) : Int) < (n : Nat) := by omega
      clear ex g1 g2 g1' g2'
      go_wp2_with fail
      refine region_tail 8 (by kernel_rfl) (by kernel_rfl) ?_
      simp only [List.take_succ_cons, List.take_zero, List.drop_succ_cons, List.drop_zero]
      repeat still_step
      refine wpStill_nil ?_
      go_wp2_with fail
      refine (eqTrmMono c at_ b b' _ _ _ RX.out RX'.out).mono ?_
      rintro e u ⟨rfl, hb⟩
      have HB3 := hide (HB2.out.trans (hb.mono HB2.out.size))
      clear hb
      go_wp2
      exact ⟨⟨k + 1, by omega, by go_num, HB3⟩, by simp [intOf]; omega⟩
    · go_wp2
      go_ret
      exact ⟨rfl, HB.out⟩
theorem eqTrmPoly (ps : List Mono) (B B' : Nat) (v v' : Value) (w : World) (h : PRow w B v ps) (h' : PRow w B' v' ps) :
 Calls Tryz.prog 11 #[.agg #[v], .agg #[v']] w fun e w' => e = .returned (.bool true) ∧ Below w.heap.size w w' := by
 have bV : Below w.heap.size w ((w.alloc (.cells #[v] 35)).alloc (.cells #[v'] 35)) := ((Below.refl _ _).alloc (Nat.le_refl _) _).alloc (by simp) _
 have H := hide (h.below bV)
 have H' := hide (h'.below bV)
 have BW := hide bV
 obtain ⟨a, cap, off, rfl, _⟩ := h
 obtain ⟨a', cap', off', rfl, _⟩ := h'
 clear bV
 go_enter Tryz.func11, Tryz.ntmps11
 go_wp2_with fail
 refine (eqTrmMonoS ps B B' _ _ _ H.out H'.out).mono ?_
 rintro e u ⟨rfl, hb⟩
 replace BW := hide (BW.out.trans (hb.mono BW.out.size))
 clear hb
 go_wp2
 go_ret
 exact ⟨rfl, BW.out⟩
end Go.Proofs.YtggilenddbobnaaGreat.Pol
namespace Go.Proofs.YtggilenddbobnaaGreat.Pol
open Go.ChangeShapes Go.WideShapes Go.ChangeAt Go.RowKit IntS
set_option maxRecDepth 8000 in
set_option maxHeartbeats 4000000 in
theorem toTrmMono (c : Int) (xs : List Int) (B : Nat) (v : Value) (w : World) (h : Row w B v xs) (hn : xs.length ≤ 1048576) :
 Calls Tryz.prog 52 #[.agg #[.int .i64 c, v]] w fun e w' => ∃ g : Nat, e = .returned (.agg #[.int .i64 c, .slice (some ⟨g, 0, none⟩) xs.length xs.length]) ∧ WRow w' g (.slice (some ⟨g, 0, none⟩) xs.length xs.length) xs ∧ w.heap.size ≤ g ∧ g < w'.heap.size ∧ Below w.heap.size w w' := by
 have T := hide (Three.new w [.int .i64 c, v] [.int .i64 0, .slice none 0 0] [.int .i64 c, .slice none 0 0] 75 82 82)
 have H := hide h
 obtain ⟨a, cap, off, rfl, _⟩ := h
 go_enter Tryz.func52, Tryz.ntmps52
 go_wp2_with fail
 refine (toIntS xs B _ _ (H.out.below T.out.bw) hn).mono ?_
 rintro e u ⟨g, rfl, R, ge, gl, hb⟩
 have gO : w.heap.size + 1 + 1 < g := Nat.lt_of_lt_of_le T.out.o.lt ge
 have T1 := T.out.below hb
 clear T hb ge
 have o0 := T1.o.cell 0 _ rfl
 have o1 := T1.o.cell 1 _ rfl
 have f0 := T1.o.soft 0
 have f1 := T1.o.soft 1
 have y0 := T1.z.cell 0 _ rfl
 have y1 := T1.z.cell 1 _ rfl
 have x0 := T1.z.soft 0
 have x1 := T1.z.soft 1
 have R2 := hide (other_row (other_row (other_row R ⟨w.heap.size + 1 + 1, 1, none⟩ (.slice (some ⟨g, 0, none⟩) xs.length xs.length) (Nat.ne_of_lt gO)) ⟨w.heap.size + 1, 0, none⟩ (.int .i64 c) (by show w.heap.size + 1 ≠ g; omega)) ⟨w.heap.size + 1, 1, none⟩ (.slice (some ⟨g, 0, none⟩) xs.length xs.length) (by show w.heap.size + 1 ≠ g; omega))
 have BB := hide (((T1.bw.setCell (p := ⟨w.heap.size + 1 + 1, 1, none⟩) (by show w.heap.size ≤ w.heap.size + 1 + 1; omega) (.slice (some ⟨g, 0, none⟩) xs.length xs.length)).setCell (p := ⟨w.heap.size + 1, 0, none⟩) (by show w.heap.size ≤ w.heap.size + 1; omega) (.int .i64 c)).setCell (p := ⟨w.heap.size + 1, 1, none⟩) (by show w.heap.size ≤ w.heap.size + 1; omega) (.slice (some ⟨g, 0, none⟩) xs.length xs.length))
 have G1 : Hid (w.heap.size ≤ g) := show _ ≤ _ by omega
 have G2 : Hid (g < (((u.setCell ⟨w.heap.size + 1 + 1, 1, none⟩ (.slice (some ⟨g, 0, none⟩) xs.length xs.length)).setCell ⟨w.heap.size + 1, 0, none⟩ (.int .i64 c)).setCell ⟨w.heap.size + 1, 1, none⟩ (.slice (some ⟨g, 0, none⟩) xs.length xs.length)).heap.size) := show _ < _ by simpa [World.setCell] using gl
 have ZZ := hide (((T1.z.other ⟨w.heap.size + 1 + 1, 1, none⟩ (.slice (some ⟨g, 0, none⟩) xs.length xs.length) (by show w.heap.size + 1 + 1 ≠ w.heap.size + 1; omega)).set 0 (.int .i64 c) (by simp) (show _ = [.int .i64 c, .slice none 0 0] from rfl)).set 1 (.slice (some ⟨g, 0, none⟩) xs.length xs.length) (by simp) (show _ = [.int .i64 c, (.slice (some ⟨g, 0, none⟩) xs.length xs.length)] from rfl))
 clear T1 R H hn
 go_wp2
 generalize (((u.setCell ⟨w.heap.size + 1 + 1, 1, none⟩ (.slice (some ⟨g, 0, none⟩) xs.length xs.length)).setCell ⟨w.heap.size + 1, 0, none⟩ (.int .i64 c)).setCell ⟨w.heap.size + 1, 1, none⟩ (.slice (some ⟨g, 0, none⟩) xs.length xs.length)) = V at R2 BB G2 ZZ ⊢
 have z0 := ZZ.out.cell 0 _ rfl
 have z1 := ZZ.out.cell 1 _ rfl
 exact bodyPost_ret (v := .agg #[.int .i64 c, (.slice (some ⟨g, 0, none⟩) xs.length xs.length)]) (by simp [results, Tryz.results52, go_sem, z0, z1]) rfl ⟨g, rfl, R2.out, G1.out, G2.out, BB.out⟩
/-- Where a list of parts has been filled up to a place. -/
structure FillP (w : World) (n : Nat) (ps : List Mono) (j : Nat) (u : World) : Prop where
 below : Below w.heap.size w u
 lt : w.heap.size < u.heap.size
 done : ∃ g : Nat → Nat, (∀ (i : Nat) x, i < j → ps[i]? = some x → u.cell? ⟨w.heap.size, i * 2, none⟩ = some (.int .i64 x.1) ∧ u.cell? ⟨w.heap.size, i * 2 + 1, none⟩ = some (.slice (some ⟨g i, 0, none⟩) x.2.length x.2.length) ∧ WRow u (g i) (.slice (some ⟨g i, 0, none⟩) x.2.length x.2.length) x.2 ∧ w.heap.size < g i ∧ g i < u.heap.size) ∧ ∀ i i', i < i' → i' < j → g i < g i'
 left : ∀ i, i < n * 2 → ∃ y, u.cell? ⟨w.heap.size, i, none⟩ = some y
 soft : ∀ i, i < n * 2 → u.frozen? ⟨w.heap.size, i, none⟩ = false
theorem fill_new (w : World) (n : Nat) (ps : List Mono) (t : TypeId) : FillP w n ps 0 (w.alloc (.cells (madeCells #[.int .i64 0, .slice none 0 0] (n * 2)) t)) := by
 refine ⟨(Below.refl _ _).alloc (Nat.le_refl _) _, by simp, ⟨fun _ => 0, fun i x hi => by omega, fun i i' _ hi => by omega⟩, fun i hi => ?_, fun i hi => by simp⟩
 rw [World.cell?_alloc_new]
 have : i < (madeCells #[Value.int .i64 0, .slice none 0 0] (n * 2)).size := by rw [size_madeCells]; exact hi
 exact ⟨_, Array.getElem?_eq_getElem this⟩
theorem FillP.next {w u u' : World} {n j g : Nat} {ps : List Mono} {x : Mono} (h : FillP w n ps j u) (hj : j < n) (hx : ps[j]? = some x) (hb : Below u.heap.size u u') (hR : WRow u' g (.slice (some ⟨g, 0, none⟩) x.2.length x.2.length) x.2) (g1 : u.heap.size ≤ g) (g2 : g < u'.heap.size) :
 FillP w n ps (j + 1) ((u'.setCell ⟨w.heap.size, j * 2, none⟩ (.int .i64 x.1)).setCell ⟨w.heap.size, j * 2 + 1, none⟩ (.slice (some ⟨g, 0, none⟩) x.2.length x.2.length)) := by
 have hl := h.lt
 have hs := hb.size
 obtain ⟨y0, c0⟩ := h.left (j * 2) (by omega)
 obtain ⟨y1, c1⟩ := h.left (j * 2 + 1) (by omega)
 have d0 := cell_below hb c0
 have d1 := cell_below hb c1
 have far (p : Addr) (q0 : p ≠ ⟨w.heap.size, j * 2, none⟩) (q1 : p ≠ ⟨w.heap.size, j * 2 + 1, none⟩) : ((u'.setCell ⟨w.heap.size, j * 2, none⟩ (.int .i64 x.1)).setCell ⟨w.heap.size, j * 2 + 1, none⟩ (.slice (some ⟨g, 0, none⟩) x.2.length x.2.length)).cell? p = u'.cell? p := by
  rw [World.cell?_setCell_other _ _ _ _ (fun e => q1 e.symm), World.cell?_setCell_other _ _ _ _ (fun e => q0 e.symm)]
 have n0 : ((u'.setCell ⟨w.heap.size, j * 2, none⟩ (.int .i64 x.1)).setCell ⟨w.heap.size, j * 2 + 1, none⟩ (.slice (some ⟨g, 0, none⟩) x.2.length x.2.length)).cell? ⟨w.heap.size, j * 2, none⟩ = some (.int .i64 x.1) := by
  rw [World.cell?_setCell_other _ _ _ _ (fun e => by have : j * 2 + 1 = j * 2 := congrArg Addr.off e; omega)]
  exact World.cell?_setCell_same u' _ _ d0
 have n1 : ((u'.setCell ⟨w.heap.size, j * 2, none⟩ (.int .i64 x.1)).setCell ⟨w.heap.size, j * 2 + 1, none⟩ (.slice (some ⟨g, 0, none⟩) x.2.length x.2.length)).cell? ⟨w.heap.size, j * 2 + 1, none⟩ = some (.slice (some ⟨g, 0, none⟩) x.2.length x.2.length) := by
  have d2 : (u'.setCell ⟨w.heap.size, j * 2, none⟩ (.int .i64 x.1)).cell? ⟨w.heap.size, j * 2 + 1, none⟩ = some y1 := by
   rw [World.cell?_setCell_other _ _ _ _ (fun e => by have : j * 2 = j * 2 + 1 := congrArg Addr.off e; omega)]
   exact d1
  exact World.cell?_setCell_same _ _ _ d2
 have hsz : ((u'.setCell ⟨w.heap.size, j * 2, none⟩ (.int .i64 x.1)).setCell ⟨w.heap.size, j * 2 + 1, none⟩ (.slice (some ⟨g, 0, none⟩) x.2.length x.2.length)).heap.size = u'.heap.size := by simp [World.setCell]
 obtain ⟨gs, hd, hinc⟩ := h.done
 refine ⟨((h.below.trans (hb.mono h.below.size)).setCell (Nat.le_refl _) _).setCell (Nat.le_refl _) _, by rw [hsz]; omega, ⟨fun i => if i < j then gs i else g, fun i z hi hz => ?_, fun i i' hi hi' => ?_⟩, fun i hi => ?_, fun i hi => ?_⟩
 · by_cases e : i < j
   · simp only [if_pos e]
     obtain ⟨k1, k2, k3, k4, k5⟩ := hd i z e hz
     refine ⟨?_, ?_, other_row (other_row (k3.below hb) _ _ (by show w.heap.size ≠ gs i; omega)) _ _ (by show w.heap.size ≠ gs i; omega), k4, by rw [hsz]; omega⟩
     · rw [far _ (fun e2 => by have : i * 2 = j * 2 := congrArg Addr.off e2; omega) (fun e2 => by have : i * 2 = j * 2 + 1 := congrArg Addr.off e2; omega)]
       exact cell_below hb k1
     · rw [far _ (fun e2 => by have : i * 2 + 1 = j * 2 := congrArg Addr.off e2; omega) (fun e2 => by have : i * 2 + 1 = j * 2 + 1 := congrArg Addr.off e2; omega)]
       exact cell_below hb k2
   · obtain rfl : i = j := by omega
     rw [hx] at hz
     obtain rfl := Option.some.inj hz
     simp only [if_neg e]
     exact ⟨n0, n1, other_row (other_row hR _ _ (by show w.heap.size ≠ g; omega)) _ _ (by show w.heap.size ≠ g; omega), by omega, by rw [hsz]; exact g2⟩
 · by_cases e' : i' < j
   · simp only [if_pos e', if_pos (show i < j by omega)]
     exact hinc i i' hi e'
   · have : i < j := by omega
     simp only [if_neg e', if_pos this]
     obtain ⟨z, hz⟩ : ∃ z, ps[i]? = some z := ⟨_, List.getElem?_eq_getElem (by have := (List.getElem?_eq_some_iff.1 hx).1; omega)⟩
     have := (hd i z (by omega) hz).2.2.2.2
     omega
 · by_cases q0 : i = j * 2
   · subst q0; exact ⟨_, n0⟩
   · by_cases q1 : i = j * 2 + 1
     · subst q1; exact ⟨_, n1⟩
     · rw [far _ (fun e => q0 (congrArg Addr.off e)) (fun e => q1 (congrArg Addr.off e))]
       obtain ⟨y, hy⟩ := h.left i hi
       exact ⟨y, cell_below hb hy⟩
 · rw [World.frozen?_setCell, World.frozen?_setCell]
   obtain ⟨y, hy⟩ := h.left i hi
   have e := hb.block w.heap.size h.lt
   rw [World.frozen?_of_block (w := u) (a := ⟨w.heap.size, i, none⟩) e]
   exact h.soft i hi
/-- A sum whose lists lie in blocks of their own, from block lo on, below hi. -/
structure WP (w : World) (lo hi : Nat) (a : Option Addr) (G cap : Nat) (g : Nat → Nat) (s : Nat → Value) (ps : List Mono) : Prop where
 le : ps.length ≤ cap
 mx : cap ≤ maxLen
 nl : a = none → cap = 0
 at_ : ps = [] ∨ (a = some ⟨G, 0, none⟩ ∧ lo ≤ G ∧ G < hi ∧ G < w.heap.size)
 cells : ∀ (i : Nat) x, ps[i]? = some x → w.cell? ⟨G, i * 2, none⟩ = some (.int .i64 x.1) ∧ w.frozen? ⟨G, i * 2, none⟩ = false ∧ w.cell? ⟨G, i * 2 + 1, none⟩ = some (s i) ∧ WRow w (g i) (s i) x.2 ∧ (x.2 = [] ∨ (lo ≤ g i ∧ g i < hi ∧ g i ≠ G))
 apart : ∀ (i j : Nat) x y, i < j → ps[i]? = some x → ps[j]? = some y → x.2 = [] ∨ y.2 = [] ∨ g i ≠ g j
structure WPoly (w : World) (lo hi : Nat) (v : Value) (ps : List Mono) : Prop where
 ex : ∃ (a : Option Addr) (G cap : Nat) (g : Nat → Nat) (s : Nat → Value), v = .slice a ps.length cap ∧ WP w lo hi a G cap g s ps
theorem WPoly.read {w : World} {lo hi : Nat} {v : Value} {ps : List Mono} (h : WPoly w lo hi v ps) : ∃ B, PRow w B v ps := by
 obtain ⟨a, G, cap, g, s, h1, h⟩ := h
 refine ⟨G, a, cap, 0, h1, h.le, h.mx, h.nl, h.at_.imp id (fun q => ⟨q.1, fun i x hx => ?_⟩)⟩
 obtain ⟨k1, k2, k3, k4, _⟩ := h.cells i x hx
 rw [Nat.zero_add]
 exact ⟨k1, s i, g i, k3, k4.row⟩
theorem FillP.whole {w u : World} {n : Nat} {ps : List Mono} (h : FillP w n ps n u) (hn : ps.length = n) (hm : n ≤ maxLen) : WPoly u w.heap.size u.heap.size (.slice (some ⟨w.heap.size, 0, none⟩) n n) ps := by
 obtain ⟨g, hd, hinc⟩ := h.done
 refine ⟨some ⟨w.heap.size, 0, none⟩, w.heap.size, n, g, fun i => .slice (some ⟨g i, 0, none⟩) (ps.getD i (0, [])).2.length (ps.getD i (0, [])).2.length, by rw [hn], by omega, hm, (fun h => by cases h), Or.inr ⟨rfl, Nat.le_refl _, h.lt, h.lt⟩, fun i x hx => ?_, fun i j x y hij hx hy => ?_⟩
 · have hi : i < n := by rw [← hn]; exact (List.getElem?_eq_some_iff.1 hx).1
   obtain ⟨k1, k2, k3, k4, k5⟩ := hd i x hi hx
   simp only [getD_part hx]
   exact ⟨k1, h.soft _ (by omega), k2, k3, Or.inr ⟨by omega, k5, by omega⟩⟩
 · have hj : j < n := by rw [← hn]; exact (List.getElem?_eq_some_iff.1 hy).1
   have := hinc i j hij hj
   exact Or.inr (Or.inr (by omega))
theorem make_monos (n : Nat) (hn : n ≤ 1048576) (w : World) : (Instr.makeSlice 33 (.int .i64 (n : Int)) (.int .i64 (n : Int))).run Tryz.prog w = .ok (.slice (some ⟨w.heap.size, 0, none⟩) n n) (w.alloc (.cells (madeCells #[.int .i64 0, .slice none 0 0] (n * 2)) 82)) := by
 have hinfo : (Tryz.prog.info? 82).map (fun i => (i.zero, i.size, i.bytes)) = some (some (.agg #[.int .i64 0, .slice none 0 0]), 2, 32) := by kernel_rfl
 obtain ⟨i, hi, hzz⟩ := Option.map_eq_some_iff.1 hinfo
 simp only [Prod.mk.injEq] at hzz
 obtain ⟨hz, hs, hb⟩ := hzz
 have hr := run_make (P := Tryz.prog) w 33 82 i _ Tryz.underlying33 hi hz .i64 .i64 n n (by omega) (Int.le_refl _) (by rw [hb]; omega) (by omega)
 simp only [Int.toNat_natCast, hs] at hr
 exact hr
set_option maxRecDepth 8000 in
set_option maxHeartbeats 4000000 in
theorem toTrmMonoS (ps : List Mono) (B : Nat) (v : Value) (w : World) (h : PRow w B v ps) (hs : SmallP ps) :
 Calls Tryz.prog 24 #[v] w fun e w' => ∃ G, e = .returned (.slice (some ⟨G, 0, none⟩) ps.length ps.length) ∧ WPoly w' w.heap.size w'.heap.size (.slice (some ⟨G, 0, none⟩) ps.length ps.length) ps ∧ Below w.heap.size w w' := by
 obtain ⟨a, cap, off, rfl, h2, h3, hz, h4⟩ := h
 unfold maxLen at h3
 clear hz
 obtain ⟨n, en⟩ : ∃ n, ps.length = n := ⟨_, rfl⟩
 have EN := hide en
 have hn : n ≤ 1048576 := by unfold SmallP at hs; omega
 have HS := hide hs
 have M0 := hide (fill_new w n ps 82)
 have hmk := make_monos n hn w
 rw [en] at h2 ⊢
 have H4 := hide h4
 clear en h4 hs
 by_cases n0 : n = 0
 · subst n0
   have FF := hide (M0.out.whole EN.out (by unfold maxLen; omega))
   have FB := hide M0.out.below
   clear M0 H4
   replace hmk : (Instr.makeSlice 33 (.int .i64 0) (.int .i64 0)).run Tryz.prog w = .ok (.slice (some ⟨w.heap.size, 0, none⟩) 0 0) (w.alloc (.cells (madeCells #[.int .i64 0, .slice none 0 0] (0 * 2)) 82)) := hmk
   generalize w.alloc (.cells (madeCells #[.int .i64 0, .slice none 0 0] (0 * 2)) 82) = U at hmk FF FB
   go_enter Tryz.func24, Tryz.ntmps24
   go_wp2
   refine wp_loop_rounds 1 ?_
   rw [rounds_succ]
   go_wp2
   go_ret
   exact ⟨w.heap.size, rfl, FF.out, FB.out⟩
 · obtain ⟨rfl, hc⟩ := H4.out.resolve_left (fun e => n0 (by rw [← EN.out, e]; rfl))
   have HC := hide hc
   clear hc H4
   generalize w.alloc (.cells (madeCells #[.int .i64 0, .slice none 0 0] (n * 2)) 82) = U at hmk M0
   go_enter Tryz.func24, Tryz.ntmps24
   go_wp2
   clear hmk
   go_loopw [4] (fun i wr => ∃ k : Nat, k ≤ n ∧ i = .int .i64 k ∧ Hid (FillP w n ps k wr)) (fun i _ => n - (intOf i).toNat)
   case atStart => exact ⟨0, by omega, rfl, M0⟩
   case round =>
    obtain ⟨k, hk, rfl, HF⟩ := hrel
    by_cases hlt : k < n
    · obtain ⟨x, ex⟩ : ∃ x, ps[k]? = some x := ⟨_, List.getElem?_eq_getElem (by rw [EN.out]; exact hlt)⟩
      obtain ⟨c, at_⟩ := x
      obtain ⟨g1, s, b, g2, g3⟩ := HC.out k _ ex
      have cx := cell_below HF.out.below g1
      have sx := cell_below HF.out.below g2
      have RX := hide (g3.below HF.out.below)
      obtain ⟨qa, ca, _, rfl, _⟩ := g3
      simp only [] at cx sx RX
      have lk : ((k : Nat) : Int) < (n : Nat) := by omega
      have LA : Hid (at_.length ≤ 1048576) := show _ ≤ _ by have := tot_at ex; have := HS.out; unfold SmallP at this; simp only [] at *; omega
      have EX := hide ex
      clear ex g1 g2
      go_wp2_with fail
      refine (toTrmMono c at_ b _ _ RX.out LA.out).mono ?_
      rintro e u ⟨g, rfl, R, ge, gl, hb⟩
      have NX := hide (FillP.next (x := (c, at_)) HF.out hlt EX.out hb R ge gl)
      obtain ⟨y0, d0⟩ := HF.out.left (k * 2) (by omega)
      obtain ⟨y1, d1⟩ := HF.out.left (k * 2 + 1) (by omega)
      have p0 := cell_below hb d0
      have p1 := cell_below hb d1
      have f0 : u.frozen? ⟨w.heap.size, k * 2, none⟩ = false := by rw [World.frozen?_of_block (w := wr) (a := ⟨w.heap.size, k * 2, none⟩) (hb.block w.heap.size HF.out.lt)]; exact HF.out.soft _ (by omega)
      have f1 : u.frozen? ⟨w.heap.size, k * 2 + 1, none⟩ = false := by rw [World.frozen?_of_block (w := wr) (a := ⟨w.heap.size, k * 2 + 1, none⟩) (hb.block w.heap.size HF.out.lt)]; exact HF.out.soft _ (by omega)
      have lw : w.heap.size < u.heap.size := Nat.lt_of_lt_of_le HF.out.lt hb.size
      simp only [] at NX
      clear hb R ge gl d0 d1 cx sx HF RX
      go_wp2
      exact ⟨⟨k + 1, by omega, by go_num, NX⟩, by simp [intOf]; omega⟩
    · obtain rfl : k = n := by omega
      have FF := hide (HF.out.whole EN.out (by unfold maxLen; omega))
      have FB := hide HF.out.below
      clear HF
      go_wp2
      go_ret
      exact ⟨w.heap.size, rfl, FF.out, FB.out⟩
end Go.Proofs.YtggilenddbobnaaGreat.Pol
namespace Go.Proofs.YtggilenddbobnaaGreat.Pol
open Go.ChangeShapes Go.WideShapes Go.ChangeAt Go.RowKit IntS
theorem row_keep2 {S : Nat → Prop} {w w' : World} {B : Nat} {v : Value} {xs : List Int} (h : WRow w B v xs) (hk : Keep S w w') (hB : xs = [] ∨ ¬ S B) : WRow w' B v xs := by
 rcases hB with hB | hB
 · obtain ⟨a, cap, off, h1, h2, h3, hz, _⟩ := h
   exact ⟨a, cap, off, h1, h2, h3, hz, Or.inl hB⟩
 · exact row_keep h hk hB
theorem WP.keep {S : Nat → Prop} {w w' : World} {lo hi : Nat} {a : Option Addr} {G cap : Nat} {g : Nat → Nat} {s : Nat → Value} {ps : List Mono} (h : WP w lo hi a G cap g s ps) (hk : Keep S w w') (hS : ∀ b, lo ≤ b → b < hi → ¬ S b) : WP w' lo hi a G cap g s ps := by
 refine ⟨h.le, h.mx, h.nl, h.at_.imp id (fun q => ⟨q.1, q.2.1, q.2.2.1, Nat.lt_of_lt_of_le q.2.2.2 hk.size⟩), fun i x hx => ?_, h.apart⟩
 obtain ⟨k1, k2, k3, k4, k5⟩ := h.cells i x hx
 have hG := h.at_.resolve_left (fun e => by rw [e] at hx; simp at hx)
 have e := hk.block G hG.2.2.2 (hS G hG.2.1 hG.2.2.1)
 exact ⟨(World.cell?_of_block (w := w) (a := ⟨G, i * 2, none⟩) e).trans k1, (World.frozen?_of_block (w := w) (a := ⟨G, i * 2, none⟩) e).trans k2, (World.cell?_of_block (w := w) (a := ⟨G, i * 2 + 1, none⟩) e).trans k3, row_keep2 k4 hk (k5.imp id (fun q => hS _ q.1 q.2.1)), k5⟩
theorem WPoly.keep {S : Nat → Prop} {w w' : World} {lo hi : Nat} {v : Value} {ps : List Mono} (h : WPoly w lo hi v ps) (hk : Keep S w w') (hS : ∀ b, lo ≤ b → b < hi → ¬ S b) : WPoly w' lo hi v ps := by
 obtain ⟨a, G, cap, g, s, h1, h2⟩ := h
 exact ⟨a, G, cap, g, s, h1, h2.keep hk hS⟩
theorem WPoly.below {w w' : World} {lo hi : Nat} {v : Value} {ps : List Mono} (h : WPoly w lo hi v ps) (hb : Below w.heap.size w w') : WPoly w' lo hi v ps := h.keep (Keep.of_below (S := fun _ => False) hb) (fun _ _ _ h => h)
theorem WPoly.nil (w : World) (lo hi : Nat) : WPoly w lo hi (.slice none 0 0) [] := ⟨none, 0, 0, fun _ => 0, fun _ => .slice none 0 0, rfl, Nat.le_refl _, by unfold maxLen; omega, fun _ => rfl, Or.inl rfl, fun i x hx => by simp at hx, fun i j x y _ hx => by simp at hx⟩
theorem nil_row (w : World) (B : Nat) : WRow w B (.slice none 0 0) [] := ⟨none, 0, 0, rfl, Nat.le_refl _, by unfold maxLen; omega, fun _ => rfl, Or.inl rfl⟩
theorem WPoly.wide {w : World} {lo hi lo' hi' : Nat} {v : Value} {ps : List Mono} (h : WPoly w lo hi v ps) (hl : lo' ≤ lo) (hh : hi ≤ hi') : WPoly w lo' hi' v ps := by
 obtain ⟨a, G, cap, g, s, h1, h⟩ := h
 refine ⟨a, G, cap, g, s, h1, h.le, h.mx, h.nl, h.at_.imp id (fun q => ⟨q.1, by omega, by omega, q.2.2.2⟩), fun i x hx => ?_, h.apart⟩
 obtain ⟨k1, k2, k3, k4, k5⟩ := h.cells i x hx
 exact ⟨k1, k2, k3, k4, k5.imp id (fun q => ⟨by omega, by omega, q.2.2⟩)⟩
set_option maxRecDepth 8000 in
set_option maxHeartbeats 4000000 in
theorem toTrmPoly (ps : List Mono) (B : Nat) (v : Value) (w : World) (h : PRow w B v ps) (hs : SmallP ps) :
 Calls Tryz.prog 8 #[.agg #[v]] w fun e w' => ∃ G, e = .returned (.agg #[.slice (some ⟨G, 0, none⟩) ps.length ps.length]) ∧ WPoly w' w.heap.size w'.heap.size (.slice (some ⟨G, 0, none⟩) ps.length ps.length) ps ∧ Below w.heap.size w w' := by
 have T := hide (Three.new w [v] [.slice none 0 0] [.slice none 0 0] 27 35 35)
 have H := hide h
 have HS := hide hs
 obtain ⟨a, cap, off, rfl, _⟩ := h
 clear hs
 go_enter Tryz.func8, Tryz.ntmps8
 go_wp2_with fail
 refine (toTrmMonoS ps B _ _ (H.out.below T.out.bw) HS.out).mono ?_
 rintro e u ⟨G, rfl, W, hb⟩
 have T0 := T.out.o.lt
 have T1 := T.out.below hb
 have gl := hb.size
 clear T hb
 have o0 := T1.o.cell 0 _ rfl
 have f0 := T1.o.soft 0
 have y0 := T1.z.cell 0 _ rfl
 have x0 := T1.z.soft 0
 have K1 : Keep (fun k => k = w.heap.size + 1 + 1) u (u.setCell ⟨w.heap.size + 1 + 1, 0, none⟩ (.slice (some ⟨G, 0, none⟩) ps.length ps.length)) := Keep.of_turn ((Turn.refl (w.heap.size + 1 + 1) u).setCell (p := ⟨w.heap.size + 1 + 1, 0, none⟩) rfl _)
 have K2 : Keep (fun k => k = w.heap.size + 1) (u.setCell ⟨w.heap.size + 1 + 1, 0, none⟩ (.slice (some ⟨G, 0, none⟩) ps.length ps.length)) ((u.setCell ⟨w.heap.size + 1 + 1, 0, none⟩ (.slice (some ⟨G, 0, none⟩) ps.length ps.length)).setCell ⟨w.heap.size + 1, 0, none⟩ (.slice (some ⟨G, 0, none⟩) ps.length ps.length)) := Keep.of_turn ((Turn.refl (w.heap.size + 1) _).setCell (p := ⟨w.heap.size + 1, 0, none⟩) rfl _)
 have W2 := ((W.keep K1 (fun b h1 h2 (h3 : b = _) => by omega)).keep K2 (fun b h1 h2 (h3 : b = _) => by omega))
 have sz : ((u.setCell ⟨w.heap.size + 1 + 1, 0, none⟩ (.slice (some ⟨G, 0, none⟩) ps.length ps.length)).setCell ⟨w.heap.size + 1, 0, none⟩ (.slice (some ⟨G, 0, none⟩) ps.length ps.length)).heap.size = u.heap.size := by simp [World.setCell]
 have W3 := hide (W2.wide (lo' := w.heap.size) (hi' := ((u.setCell ⟨w.heap.size + 1 + 1, 0, none⟩ (.slice (some ⟨G, 0, none⟩) ps.length ps.length)).setCell ⟨w.heap.size + 1, 0, none⟩ (.slice (some ⟨G, 0, none⟩) ps.length ps.length)).heap.size) (by omega) (by omega))
 have BB := hide ((T1.bw.setCell (p := ⟨w.heap.size + 1 + 1, 0, none⟩) (by show w.heap.size ≤ w.heap.size + 1 + 1; omega) (.slice (some ⟨G, 0, none⟩) ps.length ps.length)).setCell (p := ⟨w.heap.size + 1, 0, none⟩) (by show w.heap.size ≤ w.heap.size + 1; omega) (.slice (some ⟨G, 0, none⟩) ps.length ps.length))
 have ZZ := hide ((T1.z.other ⟨w.heap.size + 1 + 1, 0, none⟩ (.slice (some ⟨G, 0, none⟩) ps.length ps.length) (by show w.heap.size + 1 + 1 ≠ w.heap.size + 1; omega)).set 0 (.slice (some ⟨G, 0, none⟩) ps.length ps.length) (by simp) (show _ = [.slice (some ⟨G, 0, none⟩) ps.length ps.length] from rfl))
 clear T1 W W2 K1 K2 H HS sz T0 gl
 go_wp2
 generalize ((u.setCell ⟨w.heap.size + 1 + 1, 0, none⟩ (.slice (some ⟨G, 0, none⟩) ps.length ps.length)).setCell ⟨w.heap.size + 1, 0, none⟩ (.slice (some ⟨G, 0, none⟩) ps.length ps.length)) = V at W3 BB ZZ ⊢
 have z0 := ZZ.out.cell 0 _ rfl
 exact bodyPost_ret (v := .agg #[.slice (some ⟨G, 0, none⟩) ps.length ps.length]) (by simp [results, Tryz.results8, go_sem, z0]) rfl ⟨G, rfl, W3.out, BB.out⟩
theorem list_of {α : Type} {P : Nat → α → Prop} : ∀ n : Nat, (∀ i, i < n → ∃ x, P i x) → ∃ xs : List α, xs.length = n ∧ ∀ (i : Nat) x, xs[i]? = some x → P i x
 | 0, _ => ⟨[], rfl, fun i x h => by simp at h⟩
 | n + 1, h => by
  obtain ⟨xs, hl, hx⟩ := list_of n (fun i hi => h i (by omega))
  obtain ⟨y, hy⟩ := h n (by omega)
  refine ⟨xs ++ [y], by simp [hl], fun i x hi => ?_⟩
  by_cases e : i < n
  · rw [List.getElem?_append_left (by omega)] at hi
    exact hx i x hi
  · rw [List.getElem?_append_right (by omega)] at hi
    have : i = n := by
     have := (List.getElem?_eq_some_iff.1 hi).1
     simp at this; omega
    subst this
    rw [hl, Nat.sub_self] at hi
    obtain rfl := Option.some.inj (show some y = some x from hi)
    exact hy
set_option maxRecDepth 8000 in
theorem row_holds {w : World} {n : Nat} {cs : List Value} (h : Shape.Holds Tryz.prog w (n + 2) 73 cs) : ∃ v xs B, cs = [v] ∧ Row w B v xs := by
 rcases Shape.holds_slice (n := n + 1) Tryz.underlying73 h with h | ⟨x, l, c, h, hl, hm, hx⟩
 · exact ⟨_, [], 0, h, ⟨none, 0, 0, rfl, Nat.le_refl _, by unfold maxLen; omega, fun _ => rfl, Or.inl rfl⟩⟩
 · have hc (i : Nat) (hi : i < l) : ∃ v : Int, w.cell? (x.add i) = some (.int .i64 v) := by
    obtain ⟨xs, h1, h2, h3⟩ := hx i (by omega)
    obtain ⟨v, rfl, hv⟩ := Shape.holds_int (n := n) Tryz.underlying3 h3
    have e1 : Tryz.prog.cellsOf 3 = 1 := by kernel_rfl
    have h4 := h2 0 (by rw [e1]; omega)
    rw [e1, Nat.mul_one, Nat.add_zero] at h4
    exact ⟨v, h4⟩
   obtain ⟨xs, e, hxs⟩ := list_of l hc
   by_cases h0 : l = 0
   · subst h0
     refine ⟨_, [], 0, h, ⟨some x, c, 0, rfl, Nat.zero_le _, hm, (fun h => by cases h), Or.inl rfl⟩⟩
   · obtain ⟨b, o, spot⟩ := x
     obtain ⟨v0, hv0⟩ := hc 0 (by omega)
     have hspot : spot = none := by simpa [Addr.add] using World.cell?_spot hv0
     subst hspot
     refine ⟨_, xs, b, h, ⟨some ⟨b, o, none⟩, c, o, by rw [e], by omega, hm, (fun h => by cases h), Or.inr ⟨rfl, fun i x hi => ?_⟩⟩⟩
     rw [← Go.WideShapes.add_plain]
     exact hxs i x hi
theorem two {l : List Value} (h : l.length = 2) : ∃ a b, l = [a, b] := by
 match l, h with
 | [a, b], _ => exact ⟨a, b, rfl⟩
set_option maxRecDepth 8000 in
theorem monos_hold {w : World} {n : Nat} {cs : List Value} (h : Shape.Holds Tryz.prog w (n + 4) 25 cs) : ∃ v ps B, cs = [v] ∧ PRow w B v ps := by
 rcases Shape.holds_slice (n := n + 3) Tryz.underlying25 h with h | ⟨x, l, c, h, hl, hm, hx⟩
 · exact ⟨_, [], 0, h, ⟨none, 0, 0, rfl, Nat.le_refl _, by unfold maxLen; omega, fun _ => rfl, Or.inl rfl⟩⟩
 · have e2 : Tryz.prog.cellsOf 75 = 2 := by kernel_rfl
   have e1 : Tryz.prog.cellsOf 3 = 1 := by kernel_rfl
   have es : Tryz.prog.cellsOf 73 = 1 := by kernel_rfl
   have hc (i : Nat) (hi : i < l) : ∃ m : Mono, w.cell? (x.add (i * 2)) = some (.int .i64 m.1) ∧ ∃ s b, w.cell? (x.add (i * 2 + 1)) = some s ∧ Row w b s m.2 := by
    obtain ⟨xs, h1, h2, h3⟩ := hx i (by omega)
    rw [e2] at h1 h2
    obtain ⟨a, b, rfl⟩ := two h1
    obtain ⟨_, hf⟩ := Shape.holds_struct (n := n + 2) Tryz.underlying75 h3
    obtain ⟨v0, q0, _⟩ := Shape.holds_int (n := n + 1) Tryz.underlying3 (hf _ (List.mem_of_getElem? (i := 0) rfl))
    obtain ⟨v1, ys, b1, q1, r1⟩ := row_holds (n := n) (hf _ (List.mem_of_getElem? (i := 1) rfl))
    simp [e1, es] at q0 q1
    subst q0 q1
    exact ⟨(v0, ys), h2 0 (by omega), _, b1, h2 1 (by omega), r1⟩
   obtain ⟨ps, e, hps⟩ := list_of l hc
   by_cases h0 : l = 0
   · subst h0
     refine ⟨_, [], 0, h, ⟨some x, c, 0, rfl, Nat.zero_le _, hm, (fun h => by cases h), Or.inl rfl⟩⟩
   · obtain ⟨b, o, spot⟩ := x
     obtain ⟨m0, hv0, _⟩ := hc 0 (by omega)
     have hspot : spot = none := by simpa [Addr.add] using World.cell?_spot hv0
     subst hspot
     refine ⟨_, ps, b, h, ⟨some ⟨b, o, none⟩, c, o, by rw [e], by omega, hm, (fun h => by cases h), Or.inr ⟨rfl, fun i m hi => ?_⟩⟩⟩
     obtain ⟨k1, s, bb, k2, k3⟩ := hps i m hi
     rw [Go.WideShapes.add_plain] at k1 k2
     exact ⟨k1, s, bb, by rw [Nat.add_assoc]; exact k2, k3⟩
set_option maxRecDepth 8000 in
theorem of_holds {w : World} {c : Array Value} (h : Shape.Holds Tryz.prog w 9 27 c.toList) : ∃ (v : Value) (ps : List Mono) (B : Nat), c = #[v] ∧ PRow w B v ps := by
 obtain ⟨hl, hf⟩ := Shape.holds_struct (n := 8) Tryz.underlying27 h
 have e1 : Tryz.prog.cellsOf 27 = 1 := by kernel_rfl
 have es : Tryz.prog.cellsOf 25 = 1 := by kernel_rfl
 rw [e1] at hl
 obtain ⟨v, ps, B, q, r⟩ := monos_hold (n := 4) (hf _ (List.mem_of_getElem? (i := 0) rfl))
 obtain ⟨l⟩ := c
 match l, hl with
 | [a], _ =>
  simp [es] at q
  subst q
  exact ⟨_, ps, B, rfl, r⟩
end Go.Proofs.YtggilenddbobnaaGreat.Pol
