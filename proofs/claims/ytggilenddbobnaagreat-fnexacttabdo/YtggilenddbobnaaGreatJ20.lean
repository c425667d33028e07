/-
  The sum of all parts: the walk of the program's told.
  Sums that are ok, as parts that are put together.
  A sum so many times: the program's PolScale.
-/
import Derived.Test.YtggilenddbobnaaGreatAl
import Derived.Test.YtggilenddbobnaaGreatJ19
import Derived.Test.YtggilenddbobnaaGreatJ14
namespace Go.Proofs.YtggilenddbobnaaGreat.Pol
set_option linter.unusedVariables false
open Go.ChangeShapes Go.WideShapes Go.ChangeAt Go.RowKit Go.Shelf IntS Rng
attribute [local go_sem] Oper.semAt_some
theorem enterO : ∀ args w, (callFunc 125 args).run Tryz.prog w = .ok (.enter 125 args) w := enters_of Tryz.func125 (by kernel_rfl) rfl
set_option maxHeartbeats 4000000 in
theorem inOrderOf (mb : Option Nat) (w : World) :
 Calls Tryz.prog 114 #[.map mb] w fun e w' => e = .returned (.func (.func 125) #[] #[.pointer (some ⟨w.heap.size, 0, none⟩)]) ∧ w' = w.alloc (.cells #[.map mb] 108) := by
 go_enter Tryz.func114, Tryz.ntmps114
 go_wp2
 go_ret
 exact ⟨rfl, rfl⟩
set_option maxRecDepth 100000 in
set_option maxHeartbeats 1000000 in
theorem told (es L : List Mono) (b : Nat) (w : World) (hm : MapOf w b es) (hT : Told es L) (hn : es.length ≤ 1000000) (he : ∀ m ∈ es, m.2.length < 256) :
 Calls Tryz.prog 90 #[.map (some b)] w fun e w' => ∃ a l c, e = .returned (.tuple #[.agg #[.slice a l c], .bool (fitB L)]) ∧ WPoly w' w.heap.size w'.heap.size (.slice a l c) (fitP L) ∧ Below w.heap.size w w' := by
 have hbl := hm.lt
 have T := inOrder es L b (w.heap.size + 3) hT hn he
 refine (callsIn_wide (n := 0)).1 ?_
 refine callsIn_of_wp_marks Tryz.func90 rfl trivial ?_ rfl
 simp only [Tryz.ntmps90, List.size_toArray, List.length_cons, List.length_nil, Nat.reduceAdd, Nat.reduceSub, Array.replicate_succ, Array.replicate_zero, List.push_toArray, List.append_toArray, List.nil_append, List.cons_append]
 gi_wp2_with fail
 refine ⟨trivial, rfl, (callsIn_wide.2 (inOrderOf _ _)).mono ?_⟩
 rintro e u ⟨rfl, rfl⟩
 simp only [World.size_alloc, Nat.add_assoc, Nat.reduceAdd]
 have TP : TellP w b es L [] ((((w.alloc (.cells #[.slice none 0 0] 35)).alloc (.cells #[.bool false] 4)).alloc (.cells #[.slice none 0 0] 35)).alloc (.cells #[.map (some b)] 108)) := by
  have b1 := (Below.refl _ w).alloc (Nat.le_refl _) (.cells #[.slice none 0 0] 35)
  have b2 := b1.alloc b1.size (.cells #[.bool false] 4)
  have b3 := b2.alloc b2.size (.cells #[.slice none 0 0] 35)
  have b4 := b3.alloc b3.size (.cells #[.map (some b)] 108)
  have x1 := Boxed.new w 35 (.slice none 0 0)
  have x2 := Boxed.new (w.alloc (.cells #[.slice none 0 0] 35)) 4 (.bool false)
  have x3 := Boxed.new ((w.alloc (.cells #[.slice none 0 0] 35)).alloc (.cells #[.bool false] 4)) 35 (.slice none 0 0)
  have x4 := Boxed.new (((w.alloc (.cells #[.slice none 0 0] 35)).alloc (.cells #[.bool false] 4)).alloc (.cells #[.slice none 0 0] 35)) 108 (.map (some b))
  simp only [World.size_alloc, Nat.add_assoc, Nat.reduceAdd] at x2 x3 x4
  exact ⟨b4, ((x1.alloc _).alloc _).alloc _, (x2.alloc _).alloc _, ⟨none, 0, x3.alloc _, ⟨rfl, Or.inl ⟨rfl, rfl⟩⟩⟩, x4, hm.below b4, (fun p hp => by cases hp), (fun i j p r _ hi => by simp at hi), List.nil_prefix, Nat.zero_le _, (fun p hp => by cases hp), by simp⟩
 have hsz : (((((w.alloc (.cells #[.slice none 0 0] 35)).alloc (.cells #[.bool false] 4)).alloc (.cells #[.slice none 0 0] 35)).alloc (.cells #[.map (some b)] 108)) : World).heap.size = w.heap.size + 4 := by simp
 generalize ((((w.alloc (.cells #[.slice none 0 0] 35)).alloc (.cells #[.bool false] 4)).alloc (.cells #[.slice none 0 0] 35)).alloc (.cells #[.map (some b)] 108)) = W0 at TP hsz ⊢
 have HSZ := hide hsz
 have TPH := hide TP
 clear hsz TP hm
 gi_wp2
 refine range (gf := 125) (lb := #[.pointer (some ⟨w.heap.size + 3, 0, none⟩)]) rfl enterO T (fun _ => rfl)
  (fun pre A => TellP w b es L pre A)
  (fun _ A => Boxed A w.heap.size 35 (.slice none 0 0) ∧ Boxed A (w.heap.size + 1) 4 (.bool false) ∧ fitB L = false ∧ Below w.heap.size w A)
  (fun pre x a₁ A => TellP w b es L pre A ∧ HandP w L pre x A ∧ ∃ X, w.heap.size + 4 ≤ X ∧ A.heap[X]? = some (.cells #[.int .i64 x.c, .slice x.q x.m x.k] 82 (0, 0)) ∧
   a₁ = { tmps := #[.map (some b), undef, .pointer (some ⟨w.heap.size, 0, none⟩), .pointer (some ⟨w.heap.size + 1, 0, none⟩), .pointer (some ⟨w.heap.size + 2, 0, none⟩), .pointer (some ⟨X, 0, none⟩), .agg #[.slice none 0 0], .map (some b), .func (.func 125) #[] #[.pointer (some ⟨w.heap.size + 3, 0, none⟩)], x.val, undef, undef, undef, undef, undef, undef, undef, undef, undef, undef, undef, undef, undef, undef, undef, undef, undef, undef], defers := [] })
  (fun pre A h => ⟨h.bx.cell, h.mp⟩)
  (fun pre A A' h hm => h.mild hm (by rw [HSZ.out]; omega) hbl)
  (fun pre A A' h hm => ⟨Srt.boxed_mild h.1 hm, Srt.boxed_mild h.2.1 hm, h.2.2.1, Mild.below h.2.2.2 ⟨hm.os, hm.tape, hm.output, hm.size, fun k hk hl => hm.low k (by rw [HSZ.out]; omega) hl, hm.cells⟩ (Nat.le_refl _)⟩)
  (fun pre x a₁ A A' h hm => ⟨h.1.mild hm (by rw [HSZ.out]; omega) hbl, h.2.1.mild hm, let ⟨X, h1, h2, h3⟩ := h.2.2; ⟨X, h1, hm.cells _ _ _ _ h2, h3⟩⟩)
  TPH.out ?_ ?_ ?_ ?_
 · intro l pre x A₀ A K hI hb hF hK
   have h1 := hI.mild (Mild.of_below (B := w.heap.size) hb) (Nat.le_refl _) hbl
   have h2 := hand_of hI hb hF
   have lo := h1.lo
   obtain ⟨c, q, m, k, at_⟩ := x
   simp [Part.val] at hK ⊢
   gi_wp2
   exact hK _ _ ((KeepsOthers.alloc _ _).from _) (Mild.alloc (B := 0) _ _).kept (h1.mild (Mild.alloc (B := w.heap.size) _ _) (Nat.le_refl _) hbl) (h2.mild (Mild.alloc (B := 0) _ _)) A.heap.size lo (World.alloc_heap_new A _) rfl
 · rintro l pre x a₁ A ⟨hI, hX, X, hXl, hXh, rfl⟩
   have ml := hX.len
   have HX := hide hX
   have HI := hide hI
   obtain ⟨c, q, m, k, at_⟩ := x
   simp only [Part.val] at ml hXh ⊢
   subst ml
   obtain ⟨vq, vc, b4, own⟩ := hI.r4
   have c2 := hI.r2.cell
   have f2 := hI.r2.frozen
   have c3 := hI.r3.cell
   have f3 := hI.r3.frozen
   have c4 := b4.cell
   have f4 := b4.frozen
   have x0 : A.cell? ⟨X, 0, none⟩ = some (.int .i64 c) := by unfold World.cell?; simp [hXh]
   have x1 : A.cell? ⟨X, 1, none⟩ = some (.slice q at_.length k) := by unfold World.cell?; simp [hXh]
   have p12 := hI.many
   obtain ⟨n, en⟩ : ∃ n, pre.length = n := ⟨_, rfl⟩
   obtain ⟨j, ej⟩ : ∃ j, at_.length = j := ⟨_, rfl⟩
   have EN := hide en
   have EJ := hide ej
   rw [en] at c4 p12
   rw [ej] at x1 ⊢
   have OW := hide own
   have B4 := hide b4
   rw [en] at B4
   have HXH := hide hXh
   have stop : Hid (fitB L = false → ∀ a, roundEnds W0.heap.size (fun t => t = 9) (fun pre A => TellP w b es L pre A) (fun _ A => Boxed A w.heap.size 35 (.slice none 0 0) ∧ Boxed A (w.heap.size + 1) 4 (.bool false) ∧ fitB L = false ∧ Below w.heap.size w A) (pre ++ [⟨c, q, j, k, at_⟩]) A .ret a ((A.setCell ⟨w.heap.size, 0, none⟩ (.slice none 0 0)).setCell ⟨w.heap.size + 1, 0, none⟩ (.bool false))) := fun hf a => by
    refine ⟨((KeepsOthers.setCell A _ _).trans (KeepsOthers.setCell _ _ _)).from _, ?_, ?_, hf, ?_⟩
    · exact (HI.out.r2.set _).kept (grownBy_setCell' _ _ _) (by simp)
    · exact (HI.out.r3.kept (grownBy_setCell' A w.heap.size (.slice none 0 0)) (by simp)).set _
    · exact (HI.out.bw.setCell (p := ⟨w.heap.size, 0, none⟩) (Nat.le_refl _) _).setCell (p := ⟨w.heap.size + 1, 0, none⟩) (by show w.heap.size ≤ w.heap.size + 1; omega) _
   by_cases h12 : n = 12
   · subst h12
     have hf : Hid (fitB L = false) := (fit_many (by have := HX.out.at_.2; rw [EN.out] at this; omega)).1
     clear own b4 hX hI en ej hXh
     gi_wp2
     exact stop.out hf.out _
   have e12 : ((n : Int) == 12) = false := by simp; omega
   by_cases h4 : 4 < j
   · have hf : Hid (fitB L = false) := (fit_high HX.out.at_.1 (by show 4 < at_.length; rw [EJ.out]; exact h4)).1
     have e4 : (4 : Int) < (j : Nat) := by omega
     clear own b4 hX hI en ej hXh
     gi_wp2
     exact stop.out hf.out _
   have e4 : ¬ (4 : Int) < (j : Nat) := by omega
   clear own b4 hX hI en ej hXh stop
   have bA := (Below.refl _ A).alloc (Nat.le_refl _) (.cells #[.int .i64 c, .slice q j k] 82)
   have OX := hide (OW.out.below bA)
   have LX : Hid ((pre.map Part.cell).length = n) := show _ = _ by rw [List.length_map]; exact EN.out
   have LY : Hid ((pre.map Part.cell).length ≤ 1000000) := show _ ≤ _ by rw [LX.out]; omega
   have LO := hide (Nat.le_trans HI.out.lo bA.size)
   have A1 : Hid ((A.alloc (.cells #[.int .i64 c, .slice q j k] 82)).cell? ((⟨A.heap.size, 0, none⟩ : Addr).add 0) = some (.int .i64 c)) := show _ = _ by
    rw [Go.WideShapes.add_plain, World.cell?_alloc_new]
    rfl
   have A2 : Hid ((A.alloc (.cells #[.int .i64 c, .slice q j k] 82)).cell? ((⟨A.heap.size, 0, none⟩ : Addr).add 1) = some (.slice q j k)) := show _ = _ by
    rw [Go.WideShapes.add_plain, World.cell?_alloc_new]
    rfl
   have BA := hide bA
   rw [EN.out] at OX
   clear bA c2 f2 c3 f3
   gi_wp2_with (gi_at_builtin; refine wpListIn_pushM rfl _ _ rfl (w.heap.size + 4) (.slice vq n vc) (pre.map Part.cell) rfl OX.out LO.out ⟨A.heap.size, 0, none⟩ c q j k rfl A1.out A2.out LY.out ?_; intro G cap V hO hB hk; rw [LX.out] at hO ⊢; have b4' : Boxed V (w.heap.size + 2) 35 (.slice vq n vc) := hk.out _ _ ((BA.out.block _ (by have := HI.out.lo; omega)).trans B4.out) (fun cs z e => by injection e with _ e2 _; exact absurd e2 (by decide)); have c4' := b4'.cell; have f4' := b4'.frozen)
   have T1 := HI.out.mild (Mild.alloc (B := w.heap.size) A (.cells #[.int .i64 c, .slice q j k] 82)) (Nat.le_refl _) hbl
   have X1 : HandP w L pre ⟨c, q, j, k, at_⟩ (A.alloc (.cells #[.int .i64 c, .slice q j k] 82)) := by
    have h := HX.out.mild (Mild.alloc (B := 0) A (.cells #[.int .i64 c, .slice q j k] 82))
    rw [EJ.out] at h
    exact h
   have NX := T1.next X1 hbl (by rw [EN.out]; omega) (by show at_.length ≤ 4; rw [EJ.out]; omega) (by rw [EN.out]; exact hO.out) hB.out hk.out
   rw [EN.out] at NX
   have tn : Turn (w.heap.size + 2) V (V.setCell ⟨w.heap.size + 2, 0, none⟩ (.slice (some ⟨G, 0, none⟩) (n + 1) cap)) := (Turn.refl _ V).setCell (p := ⟨w.heap.size + 2, 0, none⟩) rfl _
   have go_ : ∀ (k : Nat) (o : Obj), A.heap[k]? = some o → (∀ cs z, o ≠ Obj.cells cs 82 z) → (∀ cs z, o ≠ Obj.cells cs 35 z) → (V.setCell ⟨w.heap.size + 2, 0, none⟩ (.slice (some ⟨G, 0, none⟩) (n + 1) cap)).heap[k]? = some o := fun k o h1 h2 h3 => by
    have h4 := hk.out k o ((BA.out.block k (lt_of_some h1)).trans h1) h2
    refine (tn.block k (lt_of_some h4) (fun e => ?_)).trans h4
    rw [e] at h4
    exact h3 _ _ (Option.some.inj (h4.symm.trans b4'))
   refine ⟨⟨Nat.le_trans BA.out.size (Nat.le_trans hB.out.size tn.size), fun k o _ h1 ho => go_ k o h1 (fun cs z e => by rw [e] at ho; cases ho) (fun cs z e => by rw [e] at ho; cases ho)⟩, NX, fun k cs t z ht h1 => ?_⟩
   subst ht
   exact go_ k _ h1 (fun cs z e => by injection e with _ e2 _; exact absurd e2 (by decide)) (fun cs z e => by injection e with _ e2 _; exact absurd e2 (by decide))
 · rintro D xs A hD hS hI hK
   have HI := hide hI
   have HS := hide hS
   obtain ⟨vq, vc, b4, own⟩ := hI.r4
   have c2 := hI.r2.cell
   have f2 := hI.r2.frozen
   have c3 := hI.r3.cell
   have f3 := hI.r3.frozen
   have c4 := b4.cell
   have HK := hide hK
   have OW := hide own
   clear hI hS own b4
   have ft : Hid (fitB L = true ∧ fitP L = L) := fit_yes (by rw [← HS.out, List.length_map]; exact HI.out.many) (fun i x _ hx => by
    rw [← HS.out, List.getElem?_map] at hx
    cases hp : xs[i]? with
    | none => rw [hp] at hx; cases hx
    | some p => rw [hp] at hx; rw [← Option.some.inj hx]; exact HI.out.high p (List.mem_of_getElem? hp))
   have WP0 := HI.out.whole HS.out OW.out
   obtain ⟨n, en⟩ : ∃ n, xs.length = n := ⟨_, rfl⟩
   rw [en] at c4 WP0
   have t1 : Turn w.heap.size A (A.setCell ⟨w.heap.size, 0, none⟩ (.slice vq n vc)) := (Turn.refl _ A).setCell (p := ⟨w.heap.size, 0, none⟩) rfl _
   have t2 : Turn (w.heap.size + 1) (A.setCell ⟨w.heap.size, 0, none⟩ (.slice vq n vc)) ((A.setCell ⟨w.heap.size, 0, none⟩ (.slice vq n vc)).setCell ⟨w.heap.size + 1, 0, none⟩ (.bool true)) := (Turn.refl _ _).setCell (p := ⟨w.heap.size + 1, 0, none⟩) rfl _
   have W1 := WP0.keep (Keep.of_turn t1) (fun b h1 _ (h2 : b = _) => by omega)
   have W2 := W1.keep (Keep.of_turn t2) (fun b h1 _ (h2 : b = _) => by omega)
   have y2 : Boxed ((A.setCell ⟨w.heap.size, 0, none⟩ (.slice vq n vc)).setCell ⟨w.heap.size + 1, 0, none⟩ (.bool true)) w.heap.size 35 (.slice vq n vc) := (t2.block _ (HI.out.r2.set (.slice vq n vc)).lt (by omega)).trans (HI.out.r2.set _)
   have y3 : Boxed ((A.setCell ⟨w.heap.size, 0, none⟩ (.slice vq n vc)).setCell ⟨w.heap.size + 1, 0, none⟩ (.bool true)) (w.heap.size + 1) 4 (.bool true) := Boxed.set _ ((t1.block _ HI.out.r3.lt (by omega)).trans HI.out.r3)
   have yB : Below w.heap.size w ((A.setCell ⟨w.heap.size, 0, none⟩ (.slice vq n vc)).setCell ⟨w.heap.size + 1, 0, none⟩ (.bool true)) := (HI.out.bw.setCell (p := ⟨w.heap.size, 0, none⟩) (Nat.le_refl _) _).setCell (p := ⟨w.heap.size + 1, 0, none⟩) (by show w.heap.size ≤ w.heap.size + 1; omega) _
   have hD2 : w.heap.size + 4 ≤ D := by rw [HSZ.out] at hD; exact hD
   have yD : ((A.setCell ⟨w.heap.size, 0, none⟩ (.slice vq n vc)).setCell ⟨w.heap.size + 1, 0, none⟩ (.bool true)).heap[D]? = some (.deferred (some [])) := by
    have l1 := lt_of_some HK.out
    rw [t2.block D (Nat.lt_of_lt_of_le l1 t1.size) (by omega), t1.block D l1 (by omega)]
    exact HK.out
   have sz : A.heap.size ≤ ((A.setCell ⟨w.heap.size, 0, none⟩ (.slice vq n vc)).setCell ⟨w.heap.size + 1, 0, none⟩ (.bool true)).heap.size := Nat.le_trans t1.size t2.size
   have FIN : Hid (∀ V : World, V = ((A.setCell ⟨w.heap.size, 0, none⟩ (.slice vq n vc)).setCell ⟨w.heap.size + 1, 0, none⟩ (.bool true)) → V.heap[D]? = some (.deferred (some [])) ∧ (V.putObj D (.deferred none)).cell? ⟨w.heap.size, 0, none⟩ = some (.slice vq n vc) ∧ (V.putObj D (.deferred none)).cell? ⟨w.heap.size + 1, 0, none⟩ = some (.bool true) ∧ WPoly (V.putObj D (.deferred none)) w.heap.size (V.putObj D (.deferred none)).heap.size (.slice vq n vc) L ∧ Below w.heap.size w (V.putObj D (.deferred none))) := fun V eV => by
    subst eV
    have hm : Mild w.heap.size _ _ := Mild.put (.deferred none) (by omega) yD rfl
    exact ⟨yD, hm.cell y2.cell, hm.cell y3.cell, (W2.mild hm).wide (by omega) (by rw [World.putObj_size]; exact sz), Mild.below yB hm (Nat.le_refl _)⟩
   rw [← en] at FIN
   rw [← en] at c4
   clear en WP0 t1 t2 W1 W2 y2 y3 yB hD2 yD sz
   gi_wp2
   generalize hV : ((A.setCell ⟨w.heap.size, 0, none⟩ (.slice vq xs.length vc)).setCell ⟨w.heap.size + 1, 0, none⟩ (.bool true)) = V
   obtain ⟨z1, z2, z3, z4, z5⟩ := FIN.out V hV.symm
   refine ⟨by simp, .inl ⟨_, _, rfl, run_takeDeferred z1, ?_⟩⟩
   exact ⟨.tuple #[.agg #[.slice vq xs.length vc], .bool true], by simp [results, Tryz.results90, go_sem, z2, z3], _, _, _, by rw [ft.out.1], by rw [ft.out.2]; exact z4, z5⟩
 · rintro D pre A hD ⟨q2, q3, hf, hB⟩ hK
   have hm : Mild w.heap.size A (A.putObj D (.deferred none)) := Mild.put (.deferred none) (by rw [HSZ.out] at hD; omega) hK rfl
   have z2 := hm.cell q2.cell
   have z3 := hm.cell q3.cell
   have fp : fitP L = [] := by unfold fitP; rw [if_neg (by rw [hf]; decide)]
   refine ⟨by simp, .inl ⟨_, _, rfl, run_takeDeferred hK, ?_⟩⟩
   exact ⟨.tuple #[.agg #[.slice none 0 0], .bool false], by simp [results, Tryz.results90, go_sem, z2, z3], none, 0, 0, by rw [hf], by rw [fp]; exact WPoly.nil _ _ _, Mild.below hB hm (Nat.le_refl _)⟩
end Go.Proofs.YtggilenddbobnaaGreat.Pol
namespace Go.Proofs.YtggilenddbobnaaGreat.Pol
set_option linter.unusedVariables false
/-- What is known of the parts of a sum that is ok. -/
structure Good (ps : List Mono) : Prop where
 up : Up ps
 fine : ∀ m ∈ ps, Fine m.2 ∧ 0 < m.1 ∧ m.1 < 65536
 ris : ∀ m ∈ ps, m.2.Pairwise (· ≤ ·)
 at_ : ∀ m ∈ ps, ∀ a ∈ m.2, 0 ≤ a ∧ a < 200
 four : ∀ m ∈ ps, m.2.length ≤ 4
 many : ps.length ≤ 12
theorem ok_good {ps : List Mono} (h : okP ps = true) : Good ps := by
 have hm := ok_len h
 unfold okP at h
 simp only [Bool.and_eq_true] at h
 have hp : ∀ k (hk : k < ps.length), monoB ps[k] = true ∧ (k = 0 ∨ ordA (ps.getD (k - 1) (0, [])).2 ps[k].2 < 0) := fun k hk => by
  have h1 := all_at h.2 hk
  unfold partAt at h1
  simp only [Bool.and_eq_true, decide_eq_true_eq] at h1
  rw [getD_in _ _ hk] at h1
  exact h1
 have hg : ∀ m ∈ ps, monoB m = true := fun m hm => by
  obtain ⟨k, hk, rfl⟩ := List.getElem_of_mem hm
  exact (hp k hk).1
 refine ⟨?_, fun m hm => ⟨(mono_good (hg m hm)).1, (mono_good (hg m hm)).2.1⟩, fun m hm => (mono_good (hg m hm)).2.2.1, fun m hm => (mono_good (hg m hm)).2.2.2.1, fun m hm => (mono_good (hg m hm)).2.2.2.2, hm⟩
 show ps.Pairwise _
 rw [List.pairwise_iff_getElem]
 intro i j hi hj hij
 induction j with
 | zero => omega
 | succ j ih =>
  have h6 := (hp (j + 1) hj).2.resolve_left (by omega)
  rw [show j + 1 - 1 = j by omega, getD_in _ _ (by omega)] at h6
  have h7 := (ordT_lt (mono_good (hp j (by omega)).1).1 (mono_good (hp (j + 1) hj).1).1).1 h6
  by_cases e : i = j
  · subst e; exact h7
  · exact List.lt_trans (ih (by omega) (by omega)) h7
theorem Good.told {ps : List Mono} (h : Good ps) : Told ps ps := told_self h.up h.fine
/-- So many times each part. -/
def scaleE (n : Int) (ps : List Mono) : List Mono := ps.map fun x => (x.1 * n % 65536, x.2)
theorem scale_coef {n : Int} : ∀ {ps : List Mono}, Up ps → ∀ x, coefL (scaleL n ps) x = coefL (scaleE n ps) x
 | [], _, _ => rfl
 | m :: r, hu, x => by
  have ih := scale_coef (n := n) hu.of_cons x
  rw [scaleL, scaleE, List.map_cons]
  by_cases hc : 0 < m.1 * n % 65536
  · rw [if_pos hc, coefL, coefL, ih]
    rfl
  · rw [if_neg hc, coefL, ih]
    by_cases e : txt m.2 = x
    · have h0 : m.1 * n % 65536 = 0 := by omega
      rw [if_pos e]
      simp only []
      rw [h0, coef_none]
      intro z hz e2
      obtain ⟨y, hy, rfl⟩ := List.mem_map.1 hz
      have := List.rel_of_pairwise_cons hu hy
      simp only [] at e2
      rw [e, e2] at this
      exact List.lt_irrefl _ this
    · rw [if_neg e]
      rfl
theorem scale_all {n : Int} : ∀ {ps : List Mono}, ∀ x ∈ scaleL n ps, 0 < x.1 ∧ x.1 < 65536 ∧ ∃ y ∈ ps, x.2 = y.2
 | [], x, h => by cases h
 | m :: r, x, h => by
  rw [scaleL] at h
  by_cases hc : 0 < m.1 * n % 65536
  · rw [if_pos hc] at h
    rcases List.mem_cons.1 h with rfl | h
    · exact ⟨hc, by simp only []; omega, m, List.mem_cons_self .., rfl⟩
    · obtain ⟨h1, h2, y, hy, e⟩ := scale_all x h
      exact ⟨h1, h2, y, List.mem_cons_of_mem _ hy, e⟩
  · rw [if_neg hc] at h
    obtain ⟨h1, h2, y, hy, e⟩ := scale_all x h
    exact ⟨h1, h2, y, List.mem_cons_of_mem _ hy, e⟩
theorem scale_up {n : Int} : ∀ {ps : List Mono}, Up ps → Up (scaleL n ps)
 | [], _ => List.Pairwise.nil
 | m :: r, hu => by
  rw [scaleL]
  by_cases hc : 0 < m.1 * n % 65536
  · rw [if_pos hc]
    refine List.pairwise_cons.2 ⟨fun x hx => ?_, scale_up hu.of_cons⟩
    obtain ⟨_, _, y, hy, e⟩ := scale_all x hx
    rw [e]
    exact List.rel_of_pairwise_cons hu hy
  · rw [if_neg hc]
    exact scale_up hu.of_cons
theorem told_scale {n : Int} {ps : List Mono} (h : Good ps) : Told (scaleE n ps) (scaleL n ps) := by
 refine ⟨scale_up h.up, fun m hm => ?_, fun x => ?_⟩
 · obtain ⟨h1, h2, y, hy, e⟩ := scale_all m hm
   rw [e]
   exact ⟨(h.fine y hy).1, h1, h2⟩
 · rw [scale_coef h.up, tot_up]
   · exact List.pairwise_map.2 h.up
   · intro m hm
     obtain ⟨y, hy, rfl⟩ := List.mem_map.1 hm
     simp only []
     omega
theorem scale_fit {n : Int} {ps : List Mono} (h : Good ps) : fitB (scaleL n ps) = true ∧ fitP (scaleL n ps) = scaleL n ps := by
 refine fit_yes (Nat.le_trans (scale_len ps) h.many) (fun i x _ hx => ?_)
 obtain ⟨_, _, y, hy, e⟩ := scale_all x (List.mem_of_getElem? hx)
 rw [e]
 exact h.four y hy
theorem told_add : ∀ {qs es l : List Mono}, Told es l → (∀ m ∈ qs, Fine m.2 ∧ 0 < m.1 ∧ m.1 < 65536) → Told (es ++ qs) (addL l qs)
 | [], es, l, h, _ => by rw [List.append_nil, addL]; exact h
 | q :: qs, es, l, h, hq => by
  have h1 := told_add (h.plus (hq q (List.mem_cons_self ..))) (fun m hm => hq m (List.mem_cons_of_mem _ hm))
  rw [List.append_assoc] at h1
  rw [addL]
  exact h1
end Go.Proofs.YtggilenddbobnaaGreat.Pol
namespace Go.Proofs.YtggilenddbobnaaGreat.Pol
set_option linter.unusedVariables false
open Go.ChangeShapes Go.WideShapes Go.ChangeAt Go.RowKit Go.Shelf IntS Rng
set_option maxRecDepth 8000 in
set_option maxHeartbeats 2000000 in
theorem implScale (ps : List Mono) (m : Int) (B : Nat) (v : Value) (w : World) (h : PRow w B v ps) :
 Calls Tryz.prog 91 #[.agg #[v], .int .i64 m] w fun e w' => ∃ a l c, e = .returned (.agg #[.slice a l c]) ∧ WPoly w' w.heap.size w'.heap.size (.slice a l c) (scaleP ps m) ∧ Below w.heap.size w w' := by
 have bV : Below w.heap.size w ((w.alloc (.cells #[v] 35)).alloc (.cells #[.slice none 0 0] 35)) := ((Below.refl _ _).alloc (Nat.le_refl _) _).alloc (by simp) _
 have R0 := Rec.new (w.alloc (.cells #[v] 35)) [.slice none 0 0] 35
 rw [show (w.alloc (.cells #[v] 35)).heap.size = w.heap.size + 1 by simp] at R0
 have RR := hide R0
 have AA := hide ((Rec.new w [v] 35).alloc (.cells #[.slice none 0 0] 35))
 have H := hide (h.below bV)
 have HW := hide h
 have BW := hide bV
 obtain ⟨a, cap, off, rfl, h2, h3, _, h4⟩ := h
 unfold maxLen at h3
 clear bV R0
 obtain ⟨R, eR⟩ : ∃ R, scaleP ps m = R := ⟨_, rfl⟩
 rw [eR]
 have ER := hide eR
 clear eR
 go_enter Tryz.func91, Tryz.ntmps91
 go_wp2_with fail
 generalize ((w.alloc (.cells #[.slice a ps.length cap] 35)).alloc (.cells #[.slice none 0 0] 35)) = V0 at RR AA H BW ⊢
 have a0 := AA.out.cell 0 _ rfl
 go_wp2_with fail
 refine (implOk ps B _ _ H.out).mono ?_
 rintro e V ⟨rfl, hb⟩
 replace RR := hide (RR.out.below hb)
 replace AA := hide (AA.out.below hb)
 replace BW := hide (BW.out.trans (hb.mono BW.out.size))
 clear hb a0 H
 cases ok : okP ps with
 | false =>
  have HD : Hid (R = []) := ER.out.symm.trans (scale_no (fun h => by rw [ok] at h; exact absurd h.1 (by decide)))
  have r0 := RR.out.cell 0 _ rfl
  have s0 := RR.out.soft 0
  clear ok
  have B0 := hide (BW.out.setCell (p := ⟨w.heap.size + 1, 0, none⟩) (by show w.heap.size ≤ w.heap.size + 1; omega) (.slice none 0 0))
  have Z0 := hide (RR.out.set 0 (.slice none 0 0) (by simp) rfl)
  go_wp2
  generalize V.setCell ⟨w.heap.size + 1, 0, none⟩ (.slice none 0 0) = U at B0 Z0 ⊢
  have z0 := Z0.out.cell 0 _ rfl
  exact bodyPost_ret (v := .agg #[.slice none 0 0]) (by simp [results, Tryz.results91, go_sem, z0]) rfl ⟨none, 0, 0, rfl, by rw [HD.out]; exact WPoly.nil _ _ _, B0.out⟩
 | true =>
  have OK := hide ok
  clear ok
  go_wp2_with fail
  refine (Wrd.implOk m _).mono ?_
  rintro e u ⟨rfl, rfl⟩
  cases wo : Wrd.wok m with
  | false =>
   have HD : Hid (R = []) := ER.out.symm.trans (scale_no (fun h => by rw [wo] at h; exact absurd h.2 (by decide)))
   have r0 := RR.out.cell 0 _ rfl
   have s0 := RR.out.soft 0
   clear wo
   have B0 := hide (BW.out.setCell (p := ⟨w.heap.size + 1, 0, none⟩) (by show w.heap.size ≤ w.heap.size + 1; omega) (.slice none 0 0))
   have Z0 := hide (RR.out.set 0 (.slice none 0 0) (by simp) rfl)
   go_wp2
   generalize u.setCell ⟨w.heap.size + 1, 0, none⟩ (.slice none 0 0) = U at B0 Z0 ⊢
   have z0 := Z0.out.cell 0 _ rfl
   exact bodyPost_ret (v := .agg #[.slice none 0 0]) (by simp [results, Tryz.results91, go_sem, z0]) rfl ⟨none, 0, 0, rfl, by rw [HD.out]; exact WPoly.nil _ _ _, B0.out⟩
  | true =>
   have m01 : 0 ≤ m ∧ m < 65536 := of_decide_eq_true wo
   have GD := hide (ok_good OK.out)
   have ER2 : Hid (scaleL m ps = R) := (scale_yes OK.out wo).symm.trans ER.out
   clear wo
   have MP := hide (map_new u)
   have a0 := (AA.out.below ((Below.refl _ u).alloc (Nat.le_refl _) (.map #[] 0))).cell 0 _ rfl
   have hmm := @run_makeMap Tryz.prog
   -- GEN54
   go_wp2_with fail
   have BU := hide ((Below.refl _ u).alloc (Nat.le_refl _) (.map #[] 0))
   have UL : Hid (u.heap.size < (u.alloc (.map #[] 0)).heap.size) := show _ < _ by simp
   obtain ⟨b, eb⟩ : ∃ b, u.heap.size = b := ⟨_, rfl⟩
   rw [eb] at MP UL BU ⊢
   have EB := hide eb
   generalize u.alloc (.map #[] 0) = U at MP BU UL ⊢
   clear a0 hmm eb
   obtain ⟨n, en⟩ : ∃ n, ps.length = n := ⟨_, rfl⟩
   have EN := hide en
   have H4 := hide h4
   rw [en] at h2
   rw [en]
   clear en h4
   go_loopw [23] (fun i wr => ∃ (k : Nat), k ≤ n ∧ i = .int .i64 k ∧ Hid (MapOf wr b (scaleE m (ps.take k))) ∧ Hid (Below b u wr)) (fun i _ => n - (intOf i).toNat)
   case atStart => exact ⟨0, by omega, rfl, MP, BU⟩
   case round =>
    obtain ⟨k, hk, rfl, HM, HB⟩ := hrel
    clear MP BU
    have n12 : Hid (n ≤ 12) := show _ ≤ _ by have := GD.out.many; rw [EN.out] at this; exact this
    by_cases hlt : k < n
    case neg =>
     obtain rfl : k = n := by omega
     have ek : ps.take k = ps := by rw [← EN.out, List.take_length]
     have HM2 := HM.out
     rw [ek] at HM2
     have C := hide (told (scaleE m ps) (scaleL m ps) b wr HM2 (told_scale GD.out) (by unfold scaleE; rw [List.length_map, EN.out]; have := n12.out; omega) (fun x hx => by
      obtain ⟨y, hy, rfl⟩ := List.mem_map.1 hx
      have := GD.out.four y hy
      simp only []
      omega))
     rw [(scale_fit GD.out).1, (scale_fit GD.out).2, ER2.out] at C
     clear HM HM2 ek
     go_wp2_with fail
     refine C.out.mono ?_
     rintro e u2 ⟨qa, ql, qc, rfl, W2, hb⟩
     have B1 := hide (BW.out.trans (HB.out.mono (by rw [← EB.out]; exact BW.out.size)))
     have HB2 := hide (B1.out.trans (hb.mono B1.out.size))
     have lu : Hid (w.heap.size + 1 < b) := show _ < _ by rw [← EB.out]; exact RR.out.lt
     have lw : Hid (b ≤ wr.heap.size) := show _ ≤ _ by have := HB.out.size; rw [EB.out] at this; exact this
     have R2 : Hid (Rec (w.heap.size + 1) [.slice none 0 0] u2) := by
      have t1 : Rec (w.heap.size + 1) [.slice none 0 0] wr := ⟨by have := lu.out; have := lw.out; omega, fun i v hv => (HB.out.cell (p := ⟨w.heap.size + 1, i, none⟩) lu.out).trans (RR.out.cell i v hv), fun i => (HB.out.frozen (p := ⟨w.heap.size + 1, i, none⟩) lu.out).trans (RR.out.soft i)⟩
      exact t1.below hb
     have bx := (Below.refl _ u2).alloc (Nat.le_refl _) (.cells #[.slice qa ql qc] 35)
     have R3 := hide (R2.out.below bx)
     have W3 := hide (W2.below bx)
     have B3 := hide (HB2.out.trans (bx.mono HB2.out.size))
     have r0 := R3.out.cell 0 _ rfl
     have s0 := R3.out.soft 0
     have sz : Hid (u2.heap.size ≤ (u2.alloc (.cells #[.slice qa ql qc] 35)).heap.size) := bx.size
     have B4 := hide (B3.out.setCell (p := ⟨w.heap.size + 1, 0, none⟩) (by show w.heap.size ≤ w.heap.size + 1; omega) (.slice qa ql qc))
     have Z0 := hide (R3.out.set 0 (.slice qa ql qc) (by simp) rfl)
     have W4 := W3.out.keep (w' := (u2.alloc (.cells #[.slice qa ql qc] 35)).setCell ⟨w.heap.size + 1, 0, none⟩ (.slice qa ql qc)) (Keep.of_turn ((Turn.refl (w.heap.size + 1) _).setCell (p := ⟨w.heap.size + 1, 0, none⟩) rfl _)) (fun b' h1 _ (h2 : b' = _) => by have := lu.out; have := lw.out; omega)
     have W5 := hide (W4.wide (lo' := w.heap.size) (hi' := ((u2.alloc (.cells #[.slice qa ql qc] 35)).setCell ⟨w.heap.size + 1, 0, none⟩ (.slice qa ql qc)).heap.size) (by have := lu.out; have := lw.out; omega) (by simp [World.setCell]))
     clear C W2 hb R2 HB2 B1 bx W3 W4 B3 lu lw
     go_wp2
     generalize (u2.alloc (.cells #[.slice qa ql qc] 35)).setCell ⟨w.heap.size + 1, 0, none⟩ (.slice qa ql qc) = U2 at B4 Z0 W5 ⊢
     have z0 := Z0.out.cell 0 _ rfl
     exact bodyPost_ret (v := .agg #[.slice qa ql qc]) (by simp [results, Tryz.results91, go_sem, z0]) rfl ⟨qa, ql, qc, rfl, W5.out, B4.out⟩
    obtain ⟨x, ex⟩ : ∃ x, ps[k]? = some x := ⟨_, List.getElem?_eq_getElem (by rw [EN.out]; exact hlt)⟩
    have hc4 := H4.out.resolve_left (fun e => by rw [e] at ex; simp at ex)
    obtain ⟨rfl, hc⟩ := hc4
    obtain ⟨c, at_⟩ := x
    obtain ⟨g1, s, bx, g2, g3⟩ := hc k _ ex
    have BR : Below w.heap.size w wr := BW.out.trans (HB.out.mono (by rw [← EB.out]; exact BW.out.size))
    have cx := cell_below BR g1
    have sx := cell_below BR g2
    have RX := hide (g3.below BR)
    have xm := List.mem_of_getElem? ex
    have MF : Hid ((0 < c ∧ c < 65536) ∧ at_.length ≤ 4 ∧ (∀ a ∈ at_, 0 ≤ a ∧ a < 200) ∧ Srt.sortI at_ = at_) := ⟨(GD.out.fine _ xm).2, GD.out.four _ xm, GD.out.at_ _ xm, sort_self (GD.out.ris _ xm)⟩
    have ES : Hid (scaleE m (ps.take k) ++ [(c * m % 65536, at_)] = scaleE m (ps.take (k + 1))) := show _ = _ by
     unfold scaleE
     rw [List.take_add_one, ex, List.map_append]
     rfl
    obtain ⟨qa, ca, _, rfl, _⟩ := g3
    simp only [] at cx sx RX
    have lk : ((k : Nat) : Int) < (n : Nat) := by omega
    have lb : Hid (b < wr.heap.size) := HM.out.lt
    clear ex g1 g2 hc xm BR
    go_wp2_with fail
    refine (wpIn_wide (n := 0)).1 ?_
    refine PhaseIn.region (S := fun w' => w'.cell? ⟨wr.heap.size, 0, none⟩ = some (.int .i64 c) ∧ w'.cell? ⟨wr.heap.size, 1, none⟩ = some (.slice qa at_.length ca)) 7 (by kernel_rfl) ?_
    have bA : Below wr.heap.size wr (wr.alloc (.cells #[.int .i64 c, .slice qa at_.length ca] 82)).drew := ((Below.refl _ wr).alloc (Nat.le_refl _) _).drew
    have hHeld : (wr.alloc (.cells #[.int .i64 c, .slice qa at_.length ca] 82)).drew.cell? ⟨wr.heap.size, 0, none⟩ = some (.int .i64 c) ∧ (wr.alloc (.cells #[.int .i64 c, .slice qa at_.length ca] 82)).drew.cell? ⟨wr.heap.size, 1, none⟩ = some (.slice qa at_.length ca) := by
     constructor <;> (show (wr.alloc _).cell? _ = _; rw [World.cell?_alloc_new]; rfl)
    have HM2 := hide (HM.out.below bA)
    have RX2 := hide (RX.out.below bA)
    have HB2 : Hid (Below b u (wr.alloc (.cells #[.int .i64 c, .slice qa at_.length ca] 82)).drew) := HB.out.trans (bA.mono (by have := lb.out; omega))
    generalize (wr.alloc (.cells #[.int .i64 c, .slice qa at_.length ca] 82)).drew = wd at hHeld HM2 RX2 HB2 ⊢
    clear HM RX HB cx sx bA
    refine PhaseIn.takeE (i := 0) (v := ?_) [0, 7] 27 rfl (by rfl) (by kernel_rfl) (fun _ _ _ h => h) (Or.inl ⟨by kernel_rfl, ?_⟩) hHeld ?_
    rotate_left
    · intro w' hSw
      (try dsimp only at hSw)
      go_simp
      first | done | with_reducible rfl
    try simp only [Act.put, sA, List.set]
    refine PhaseIn.takeE (i := 1) (v := ?_) [1, 2, 4, 7] 28 rfl (by rfl) (by kernel_rfl) (fun _ _ _ h => h) (Or.inl ⟨by kernel_rfl, ?_⟩) hHeld ?_
    rotate_left
    · intro w' hSw
      (try dsimp only at hSw)
      go_simp
      first | done | with_reducible rfl
    try simp only [Act.put, sA, List.set]
    refine PhaseIn.takeE (i := 2) (v := ?_) [2, 4, 7] 29 rfl (by rfl) (by kernel_rfl) (fun _ _ _ h => h) (Or.inl ⟨by kernel_rfl, ?_⟩) hHeld ?_
    rotate_left
    · intro w' hSw
      (try dsimp only at hSw)
      go_simp
      first | done | with_reducible rfl
    try simp only [Act.put, sA, List.set]
    refine PhaseIn.takeE (i := 3) (v := ?_) [3, 4, 7] 30 rfl (by rfl) (by kernel_rfl) (fun _ _ _ h => h) (Or.inl ⟨by kernel_rfl, ?_⟩) hHeld ?_
    rotate_left
    · intro w' hSw
      (try dsimp only at hSw)
      go_simp
      first | done | with_reducible rfl
    try simp only [Act.put, sA, List.set]
    refine PhaseIn.takeE (i := 5) (v := ?_) [5, 6, 7] 32 rfl (by rfl) (by kernel_rfl) (fun _ _ _ h => h) (Or.inl ⟨by kernel_rfl, ?_⟩) hHeld ?_
    rotate_left
    · intro w' hSw
      (try dsimp only at hSw)
      go_simp
      first | done | with_reducible rfl
    try simp only [Act.put, sA, List.set]
    refine PhaseIn.takeE (i := 6) (v := ?_) [6, 7] 33 rfl (by rfl) (by kernel_rfl) (fun _ _ _ h => h) (Or.inl ⟨by kernel_rfl, ?_⟩) hHeld ?_
    rotate_left
    · intro w' hSw
      (try dsimp only at hSw)
      go_simp
      first | done | with_reducible rfl
    try simp only [Act.put, sA, List.set]
    refine PhaseIn.one (i := 4) (by kernel_rfl) rfl (by kernel_rfl) (fun K hK => ?_)
    unfold Oper.wpIn
    refine ⟨fun _ _ => trivial, ?_⟩
    go_simp
    refine ⟨rfl, (callsIn_wide.2 (Wrd.implDo_mul c m wd (by have := MF.out.1; omega) MF.out.1.2 m01.1 m01.2)).mono ?_⟩
    rintro e w2 ⟨rfl, hb2⟩
    refine hK _ _ (fun _ => ⟨cell_below hb2 hHeld.1, cell_below hb2 hHeld.2⟩) ?_
    have HM3 := hide (HM2.out.below hb2)
    have RX3 := hide (RX2.out.below hb2)
    have HB3 : Hid (Below b u w2) := HB2.out.trans (hb2.mono (by have := HM2.out.lt; omega))
    clear hK K hHeld HM2 RX2 HB2 hb2
    try simp only [Act.put, sA, List.set]
    refine PhaseIn.one (i := 7) (by kernel_rfl) rfl (by kernel_rfl) (fun K hK => ?_)
    unfold Oper.wpIn
    refine ⟨fun _ _ => trivial, ?_⟩
    go_simp
    refine ⟨rfl, (callsIn_wide.2 (put (scaleE m (ps.take k)) b (c * m % 65536) at_ bx _ w2 HM3.out (by unfold scaleE; rw [List.length_map, List.length_take]; have := n12.out; omega) (by omega) RX3.out (fun a ha => by have := MF.out.2.2.1 a ha; omega) (by have := MF.out.2.1; omega))).mono ?_⟩
    rintro e w3 ⟨rfl, hM4, hT4⟩
    refine hK _ _ (fun h => absurd h (by omega)) ?_
    rw [MF.out.2.2.2, ES.out] at hM4
    have HM4 := hide hM4
    have HB4 : Hid (Below b u w3) := HB3.out.trans (hT4.below (Nat.le_refl _) (by have := HM3.out.lt; omega))
    clear hK K HM3 RX3 HB3 hM4 hT4
    try simp only [Act.put, sA, List.set]
    refine PhaseIn.done (by kernel_rfl) ?_ _
    go_wp2
    exact ⟨⟨k + 1, by omega, by go_num, HM4, HB4⟩, by simp [intOf]; omega⟩
end Go.Proofs.YtggilenddbobnaaGreat.Pol
