/-
  The sum of all parts: the walk of the program's told.
-/
import Derived.Test.YtckhfpaicnjknaaPolTold
namespace Go.Proofs.Ytckhfpaicnjknaa.Pol
set_option linter.unusedVariables false
open Go.ChangeShapes Go.WideShapes Go.ChangeAt Go.RowKit Go.Shelf IntS Rng
attribute [local go_sem] Oper.semAt_some
theorem enterO : ∀ args w, (callFunc 83 args).run Try.prog w = .ok (.enter 83 args) w := enters_of Try.func83 (by kernel_rfl) rfl
set_option maxHeartbeats 4000000 in
theorem inOrderOf (mb : Option Nat) (w : World) :
    Calls Try.prog 66 #[.map mb] w fun e w' => e = .returned (.func (.func 83) #[] #[.pointer (some ⟨w.heap.size, 0, none⟩)]) ∧ w' = w.alloc (.cells #[.map mb] 56) := by
  go_enter Try.func66, Try.ntmps66
  go_wp2
  go_ret
  exact ⟨rfl, rfl⟩
set_option maxRecDepth 100000 in
set_option maxHeartbeats 1000000 in
theorem told (es L : List Mono) (b : Nat) (w : World) (hm : MapOf w b es) (hT : Told es L) (hn : es.length ≤ 1000000) (he : ∀ m ∈ es, m.2.length < 256) :
    Calls Try.prog 40 #[.map (some b)] w fun e w' => ∃ a l c, e = .returned (.tuple #[.agg #[.slice a l c], .bool (fitB L)]) ∧ WPoly w' w.heap.size w'.heap.size (.slice a l c) (fitP L) ∧ Below w.heap.size w w' := by
  have hbl := hm.lt
  have T := inOrder es L b (w.heap.size + 3) hT hn he
  refine (callsIn_wide (n := 0)).1 ?_
  refine callsIn_of_wp_marks Try.func40 rfl trivial ?_ rfl
  simp only [Try.ntmps40, List.size_toArray, List.length_cons, List.length_nil, Nat.reduceAdd, Nat.reduceSub, Array.replicate_succ, Array.replicate_zero, List.push_toArray, List.append_toArray, List.nil_append, List.cons_append]
  gi_wp2_with fail
  refine ⟨trivial, rfl, (callsIn_wide.2 (inOrderOf _ _)).mono ?_⟩
  rintro e u ⟨rfl, rfl⟩
  simp only [World.size_alloc, Nat.add_assoc, Nat.reduceAdd]
  have TP : TellP w b es L [] ((((w.alloc (.cells #[.slice none 0 0] 25)).alloc (.cells #[.bool false] 4)).alloc (.cells #[.slice none 0 0] 25)).alloc (.cells #[.map (some b)] 56)) := by
    have b1 := (Below.refl _ w).alloc (Nat.le_refl _) (.cells #[.slice none 0 0] 25)
    have b2 := b1.alloc b1.size (.cells #[.bool false] 4)
    have b3 := b2.alloc b2.size (.cells #[.slice none 0 0] 25)
    have b4 := b3.alloc b3.size (.cells #[.map (some b)] 56)
    have x1 := Boxed.new w 25 (.slice none 0 0)
    have x2 := Boxed.new (w.alloc (.cells #[.slice none 0 0] 25)) 4 (.bool false)
    have x3 := Boxed.new ((w.alloc (.cells #[.slice none 0 0] 25)).alloc (.cells #[.bool false] 4)) 25 (.slice none 0 0)
    have x4 := Boxed.new (((w.alloc (.cells #[.slice none 0 0] 25)).alloc (.cells #[.bool false] 4)).alloc (.cells #[.slice none 0 0] 25)) 56 (.map (some b))
    simp only [World.size_alloc, Nat.add_assoc, Nat.reduceAdd] at x2 x3 x4
    exact ⟨b4, ((x1.alloc _).alloc _).alloc _, (x2.alloc _).alloc _, ⟨none, 0, x3.alloc _, ⟨rfl, Or.inl ⟨rfl, rfl⟩⟩⟩, x4, hm.below b4, (fun p hp => by cases hp), (fun i j p r _ hi => by simp at hi), List.nil_prefix, Nat.zero_le _, (fun p hp => by cases hp), by simp⟩
  have hsz : (((((w.alloc (.cells #[.slice none 0 0] 25)).alloc (.cells #[.bool false] 4)).alloc (.cells #[.slice none 0 0] 25)).alloc (.cells #[.map (some b)] 56)) : World).heap.size = w.heap.size + 4 := by simp
  generalize ((((w.alloc (.cells #[.slice none 0 0] 25)).alloc (.cells #[.bool false] 4)).alloc (.cells #[.slice none 0 0] 25)).alloc (.cells #[.map (some b)] 56)) = W0 at TP hsz ⊢
  have HSZ := hide hsz
  have TPH := hide TP
  clear hsz TP hm
  gi_wp2
  refine range (gf := 83) (lb := #[.pointer (some ⟨w.heap.size + 3, 0, none⟩)]) rfl enterO T (fun _ => rfl)
    (fun pre A => TellP w b es L pre A)
    (fun _ A => Boxed A w.heap.size 25 (.slice none 0 0) ∧ Boxed A (w.heap.size + 1) 4 (.bool false) ∧ fitB L = false ∧ Below w.heap.size w A)
    (fun pre x a₁ A => TellP w b es L pre A ∧ HandP w L pre x A ∧ ∃ X, w.heap.size + 4 ≤ X ∧ A.heap[X]? = some (.cells #[.int .i64 x.c, .slice x.q x.m x.k] 59 (0, 0)) ∧
      a₁ = { tmps := #[.map (some b), undef, .pointer (some ⟨w.heap.size, 0, none⟩), .pointer (some ⟨w.heap.size + 1, 0, none⟩), .pointer (some ⟨w.heap.size + 2, 0, none⟩), .pointer (some ⟨X, 0, none⟩), .agg #[.slice none 0 0], .map (some b), .func (.func 83) #[] #[.pointer (some ⟨w.heap.size + 3, 0, none⟩)], x.val, undef, undef, undef, undef, undef, undef, undef, undef, undef, undef, undef, undef, undef, undef, undef, undef, undef, undef], defers := [] })
    (fun pre A h => ⟨h.bx.cell, h.mp⟩)
    (fun pre A A' h hm => h.mild hm (by rw [HSZ.out]; omega) hbl)
    (fun pre A A' h hm => ⟨Srt.boxed_mild h.1 hm, Srt.boxed_mild h.2.1 hm, h.2.2.1, Mild.below h.2.2.2 ⟨hm.os, hm.tape, hm.output, hm.size, fun k hk hl => hm.low k (by rw [HSZ.out]; omega) hl, hm.cells⟩ (Nat.le_refl _)⟩)
    (fun pre x a₁ A A' h hm => ⟨h.1.mild hm (by rw [HSZ.out]; omega) hbl, h.2.1.mild hm, let ⟨X, h1, h2, h3⟩ := h.2.2; ⟨X, h1, hm.cells _ _ _ _ h2, h3⟩⟩)
    TPH.out ?_ ?_ ?_ ?_
  · intro l pre x A₀ A K hI hb hF hK
    have h1 := hI.mild (Mild.of_below (B := w.heap.size) hb) (Nat.le_refl _) hbl
    have h2 := hand_of hI hb hF
    have lo := h1.lo
    obtain ⟨c, q, m, k, at_⟩ := x
    simp [Part.val] at hK ⊢
    gi_wp2
    exact hK _ _ ((KeepsOthers.alloc _ _).from _) (Mild.alloc (B := 0) _ _).kept (h1.mild (Mild.alloc (B := w.heap.size) _ _) (Nat.le_refl _) hbl) (h2.mild (Mild.alloc (B := 0) _ _)) A.heap.size lo (World.alloc_heap_new A _) rfl
  · rintro l pre x a₁ A ⟨hI, hX, X, hXl, hXh, rfl⟩
    have ml := hX.len
    have HX := hide hX
    have HI := hide hI
    obtain ⟨c, q, m, k, at_⟩ := x
    simp only [Part.val] at ml hXh ⊢
    subst ml
    obtain ⟨vq, vc, b4, own⟩ := hI.r4
    have c2 := hI.r2.cell
    have f2 := hI.r2.frozen
    have c3 := hI.r3.cell
    have f3 := hI.r3.frozen
    have c4 := b4.cell
    have f4 := b4.frozen
    have x0 : A.cell? ⟨X, 0, none⟩ = some (.int .i64 c) := by unfold World.cell?; simp [hXh]
    have x1 : A.cell? ⟨X, 1, none⟩ = some (.slice q at_.length k) := by unfold World.cell?; simp [hXh]
    have p12 := hI.many
    obtain ⟨n, en⟩ : ∃ n, pre.length = n := ⟨_, rfl⟩
    obtain ⟨j, ej⟩ : ∃ j, at_.length = j := ⟨_, rfl⟩
    have EN := hide en
    have EJ := hide ej
    rw [en] at c4 p12
    rw [ej] at x1 ⊢
    have OW := hide own
    have B4 := hide b4
    rw [en] at B4
    have HXH := hide hXh
    have stop : Hid (fitB L = false → ∀ a, roundEnds W0.heap.size (fun t => t = 9) (fun pre A => TellP w b es L pre A) (fun _ A => Boxed A w.heap.size 25 (.slice none 0 0) ∧ Boxed A (w.heap.size + 1) 4 (.bool false) ∧ fitB L = false ∧ Below w.heap.size w A) (pre ++ [⟨c, q, j, k, at_⟩]) A .ret a ((A.setCell ⟨w.heap.size, 0, none⟩ (.slice none 0 0)).setCell ⟨w.heap.size + 1, 0, none⟩ (.bool false))) := fun hf a => by
      refine ⟨((KeepsOthers.setCell A _ _).trans (KeepsOthers.setCell _ _ _)).from _, ?_, ?_, hf, ?_⟩
      · exact (HI.out.r2.set _).kept (grownBy_setCell' _ _ _) (by simp)
      · exact (HI.out.r3.kept (grownBy_setCell' A w.heap.size (.slice none 0 0)) (by simp)).set _
      · exact (HI.out.bw.setCell (p := ⟨w.heap.size, 0, none⟩) (Nat.le_refl _) _).setCell (p := ⟨w.heap.size + 1, 0, none⟩) (by show w.heap.size ≤ w.heap.size + 1; omega) _
    by_cases h12 : n = 12
    · subst h12
      have hf : Hid (fitB L = false) := (fit_many (by have := HX.out.at_.2; rw [EN.out] at this; omega)).1
      clear own b4 hX hI en ej hXh
      gi_wp2
      exact stop.out hf.out _
    have e12 : ((n : Int) == 12) = false := by simp; omega
    by_cases h4 : 4 < j
    · have hf : Hid (fitB L = false) := (fit_high HX.out.at_.1 (by show 4 < at_.length; rw [EJ.out]; exact h4)).1
      have e4 : (4 : Int) < (j : Nat) := by omega
      clear own b4 hX hI en ej hXh
      gi_wp2
      exact stop.out hf.out _
    have e4 : ¬ (4 : Int) < (j : Nat) := by omega
    clear own b4 hX hI en ej hXh stop
    have bA := (Below.refl _ A).alloc (Nat.le_refl _) (.cells #[.int .i64 c, .slice q j k] 59)
    have OX := hide (OW.out.below bA)
    have LX : Hid ((pre.map Part.cell).length = n) := show _ = _ by rw [List.length_map]; exact EN.out
    have LY : Hid ((pre.map Part.cell).length ≤ 1000000) := show _ ≤ _ by rw [LX.out]; omega
    have LO := hide (Nat.le_trans HI.out.lo bA.size)
    have A1 : Hid ((A.alloc (.cells #[.int .i64 c, .slice q j k] 59)).cell? ((⟨A.heap.size, 0, none⟩ : Addr).add 0) = some (.int .i64 c)) := show _ = _ by
      rw [Go.WideShapes.add_plain, World.cell?_alloc_new]
      rfl
    have A2 : Hid ((A.alloc (.cells #[.int .i64 c, .slice q j k] 59)).cell? ((⟨A.heap.size, 0, none⟩ : Addr).add 1) = some (.slice q j k)) := show _ = _ by
      rw [Go.WideShapes.add_plain, World.cell?_alloc_new]
      rfl
    have BA := hide bA
    rw [EN.out] at OX
    clear bA c2 f2 c3 f3
    gi_wp2_with (gi_at_builtin; refine wpListIn_pushM rfl _ _ rfl (w.heap.size + 4) (.slice vq n vc) (pre.map Part.cell) rfl OX.out LO.out ⟨A.heap.size, 0, none⟩ c q j k rfl A1.out A2.out LY.out ?_; intro G cap V hO hB hk; rw [LX.out] at hO ⊢; have b4' : Boxed V (w.heap.size + 2) 25 (.slice vq n vc) := hk.out _ _ ((BA.out.block _ (by have := HI.out.lo; omega)).trans B4.out) (fun cs z e => by injection e with _ e2 _; exact absurd e2 (by decide)); have c4' := b4'.cell; have f4' := b4'.frozen)
    have T1 := HI.out.mild (Mild.alloc (B := w.heap.size) A (.cells #[.int .i64 c, .slice q j k] 59)) (Nat.le_refl _) hbl
    have X1 : HandP w L pre ⟨c, q, j, k, at_⟩ (A.alloc (.cells #[.int .i64 c, .slice q j k] 59)) := by
      have h := HX.out.mild (Mild.alloc (B := 0) A (.cells #[.int .i64 c, .slice q j k] 59))
      rw [EJ.out] at h
      exact h
    have NX := T1.next X1 hbl (by rw [EN.out]; omega) (by show at_.length ≤ 4; rw [EJ.out]; omega) (by rw [EN.out]; exact hO.out) hB.out hk.out
    rw [EN.out] at NX
    have tn : Turn (w.heap.size + 2) V (V.setCell ⟨w.heap.size + 2, 0, none⟩ (.slice (some ⟨G, 0, none⟩) (n + 1) cap)) := (Turn.refl _ V).setCell (p := ⟨w.heap.size + 2, 0, none⟩) rfl _
    have go_ : ∀ (k : Nat) (o : Obj), A.heap[k]? = some o → (∀ cs z, o ≠ Obj.cells cs 59 z) → (∀ cs z, o ≠ Obj.cells cs 25 z) → (V.setCell ⟨w.heap.size + 2, 0, none⟩ (.slice (some ⟨G, 0, none⟩) (n + 1) cap)).heap[k]? = some o := fun k o h1 h2 h3 => by
      have h4 := hk.out k o ((BA.out.block k (lt_of_some h1)).trans h1) h2
      refine (tn.block k (lt_of_some h4) (fun e => ?_)).trans h4
      rw [e] at h4
      exact h3 _ _ (Option.some.inj (h4.symm.trans b4'))
    refine ⟨⟨Nat.le_trans BA.out.size (Nat.le_trans hB.out.size tn.size), fun k o _ h1 ho => go_ k o h1 (fun cs z e => by rw [e] at ho; cases ho) (fun cs z e => by rw [e] at ho; cases ho)⟩, NX, fun k cs t z ht h1 => ?_⟩
    subst ht
    exact go_ k _ h1 (fun cs z e => by injection e with _ e2 _; exact absurd e2 (by decide)) (fun cs z e => by injection e with _ e2 _; exact absurd e2 (by decide))
  · rintro D xs A hD hS hI hK
    have HI := hide hI
    have HS := hide hS
    obtain ⟨vq, vc, b4, own⟩ := hI.r4
    have c2 := hI.r2.cell
    have f2 := hI.r2.frozen
    have c3 := hI.r3.cell
    have f3 := hI.r3.frozen
    have c4 := b4.cell
    have HK := hide hK
    have OW := hide own
    clear hI hS own b4
    have ft : Hid (fitB L = true ∧ fitP L = L) := fit_yes (by rw [← HS.out, List.length_map]; exact HI.out.many) (fun i x _ hx => by
      rw [← HS.out, List.getElem?_map] at hx
      cases hp : xs[i]? with
      | none => rw [hp] at hx; cases hx
      | some p => rw [hp] at hx; rw [← Option.some.inj hx]; exact HI.out.high p (List.mem_of_getElem? hp))
    have WP0 := HI.out.whole HS.out OW.out
    obtain ⟨n, en⟩ : ∃ n, xs.length = n := ⟨_, rfl⟩
    rw [en] at c4 WP0
    have t1 : Turn w.heap.size A (A.setCell ⟨w.heap.size, 0, none⟩ (.slice vq n vc)) := (Turn.refl _ A).setCell (p := ⟨w.heap.size, 0, none⟩) rfl _
    have t2 : Turn (w.heap.size + 1) (A.setCell ⟨w.heap.size, 0, none⟩ (.slice vq n vc)) ((A.setCell ⟨w.heap.size, 0, none⟩ (.slice vq n vc)).setCell ⟨w.heap.size + 1, 0, none⟩ (.bool true)) := (Turn.refl _ _).setCell (p := ⟨w.heap.size + 1, 0, none⟩) rfl _
    have W1 := WP0.keep (Keep.of_turn t1) (fun b h1 _ (h2 : b = _) => by omega)
    have W2 := W1.keep (Keep.of_turn t2) (fun b h1 _ (h2 : b = _) => by omega)
    have y2 : Boxed ((A.setCell ⟨w.heap.size, 0, none⟩ (.slice vq n vc)).setCell ⟨w.heap.size + 1, 0, none⟩ (.bool true)) w.heap.size 25 (.slice vq n vc) := (t2.block _ (HI.out.r2.set (.slice vq n vc)).lt (by omega)).trans (HI.out.r2.set _)
    have y3 : Boxed ((A.setCell ⟨w.heap.size, 0, none⟩ (.slice vq n vc)).setCell ⟨w.heap.size + 1, 0, none⟩ (.bool true)) (w.heap.size + 1) 4 (.bool true) := Boxed.set _ ((t1.block _ HI.out.r3.lt (by omega)).trans HI.out.r3)
    have yB : Below w.heap.size w ((A.setCell ⟨w.heap.size, 0, none⟩ (.slice vq n vc)).setCell ⟨w.heap.size + 1, 0, none⟩ (.bool true)) := (HI.out.bw.setCell (p := ⟨w.heap.size, 0, none⟩) (Nat.le_refl _) _).setCell (p := ⟨w.heap.size + 1, 0, none⟩) (by show w.heap.size ≤ w.heap.size + 1; omega) _
    have hD2 : w.heap.size + 4 ≤ D := by rw [HSZ.out] at hD; exact hD
    have yD : ((A.setCell ⟨w.heap.size, 0, none⟩ (.slice vq n vc)).setCell ⟨w.heap.size + 1, 0, none⟩ (.bool true)).heap[D]? = some (.deferred (some [])) := by
      have l1 := lt_of_some HK.out
      rw [t2.block D (Nat.lt_of_lt_of_le l1 t1.size) (by omega), t1.block D l1 (by omega)]
      exact HK.out
    have sz : A.heap.size ≤ ((A.setCell ⟨w.heap.size, 0, none⟩ (.slice vq n vc)).setCell ⟨w.heap.size + 1, 0, none⟩ (.bool true)).heap.size := Nat.le_trans t1.size t2.size
    have FIN : Hid (∀ V : World, V = ((A.setCell ⟨w.heap.size, 0, none⟩ (.slice vq n vc)).setCell ⟨w.heap.size + 1, 0, none⟩ (.bool true)) → V.heap[D]? = some (.deferred (some [])) ∧ (V.putObj D (.deferred none)).cell? ⟨w.heap.size, 0, none⟩ = some (.slice vq n vc) ∧ (V.putObj D (.deferred none)).cell? ⟨w.heap.size + 1, 0, none⟩ = some (.bool true) ∧ WPoly (V.putObj D (.deferred none)) w.heap.size (V.putObj D (.deferred none)).heap.size (.slice vq n vc) L ∧ Below w.heap.size w (V.putObj D (.deferred none))) := fun V eV => by
      subst eV
      have hm : Mild w.heap.size _ _ := Mild.put (.deferred none) (by omega) yD rfl
      exact ⟨yD, hm.cell y2.cell, hm.cell y3.cell, (W2.mild hm).wide (by omega) (by rw [World.putObj_size]; exact sz), Mild.below yB hm (Nat.le_refl _)⟩
    rw [← en] at FIN
    rw [← en] at c4
    clear en WP0 t1 t2 W1 W2 y2 y3 yB hD2 yD sz
    gi_wp2
    generalize hV : ((A.setCell ⟨w.heap.size, 0, none⟩ (.slice vq xs.length vc)).setCell ⟨w.heap.size + 1, 0, none⟩ (.bool true)) = V
    obtain ⟨z1, z2, z3, z4, z5⟩ := FIN.out V hV.symm
    refine ⟨by simp, .inl ⟨_, _, rfl, run_takeDeferred z1, ?_⟩⟩
    exact ⟨.tuple #[.agg #[.slice vq xs.length vc], .bool true], by simp [results, Try.results40, go_sem, z2, z3], _, _, _, by rw [ft.out.1], by rw [ft.out.2]; exact z4, z5⟩
  · rintro D pre A hD ⟨q2, q3, hf, hB⟩ hK
    have hm : Mild w.heap.size A (A.putObj D (.deferred none)) := Mild.put (.deferred none) (by rw [HSZ.out] at hD; omega) hK rfl
    have z2 := hm.cell q2.cell
    have z3 := hm.cell q3.cell
    have fp : fitP L = [] := by unfold fitP; rw [if_neg (by rw [hf]; decide)]
    refine ⟨by simp, .inl ⟨_, _, rfl, run_takeDeferred hK, ?_⟩⟩
    exact ⟨.tuple #[.agg #[.slice none 0 0], .bool false], by simp [results, Try.results40, go_sem, z2, z3], none, 0, 0, by rw [hf], by rw [fp]; exact WPoly.nil _ _ _, Mild.below hB hm (Nat.le_refl _)⟩
end Go.Proofs.Ytckhfpaicnjknaa.Pol
