/-
  Two lists held against each other, one by one (IrOp): slices.Values and the program's sameOneByOne.
-/
import Derived.Test.YthlpndligadnjaaOneO
namespace Go.Proofs.Ythlpndligadnjaa.OneO
set_option linter.unusedVariables false
set_option linter.unusedSimpArgs false
open Go.ChangeShapes Go.WideShapes Go.ChangeAt Go.RowKit Go.Shelf IntS Pol Rng Side
attribute [local go_sem] Oper.semAt_some
set_option maxRecDepth 8000 in
theorem valuesOf (a : Option Addr) (n cap : Nat) (w : World) : Calls Try.prog 76 #[.slice a n cap] w fun e w' => e = .returned (.func (.func 78) #[] #[.pointer (some ⟨w.heap.size, 0, none⟩)]) ∧ w' = w.alloc (.cells #[.slice a n cap] 37) := by
  go_enter Try.func76, Try.ntmps76
  go_wp2
  go_ret
  exact ⟨rfl, rfl⟩
theorem enterV : ∀ args w, (callFunc 78 args).run Try.prog w = .ok (.enter 78 args) w := enters_of Try.func78 (by kernel_rfl) rfl
set_option maxRecDepth 100000 in
set_option maxHeartbeats 4000000 in
theorem tells (Bs B : Nat) (sv : Value) (zs : List El) :
    Tells Try.prog 78 #[.pointer (some ⟨Bs, 0, none⟩)] (fun x : El => #[.agg #[.int .i64 x.c0, .int .i64 x.c1, .int .i64 x.c2, .int .i64 x.c3, .int .i64 x.c4]]) (fun A => A.cell? ⟨Bs, 0, none⟩ = some sv ∧ RowE A B sv zs) (fun pre x _ _ => pre ++ [x] <+: zs) (fun xs => xs = zs) (fun _ => False) := by
  intro l J Jx W hS hb hY h0
  obtain ⟨hc, hr⟩ := hS _ _ h0
  obtain ⟨a, cap, off, rfl, h2, h3, hz, h4⟩ := hr
  unfold maxLen at h3
  rcases h4 with rfl | ⟨rfl, h4⟩
  · refine callsIn_of_wp Try.func78 rfl trivial ?_ rfl
    simp only [Try.ntmps78, List.size_toArray, List.length_cons, List.length_nil, Nat.reduceAdd, Nat.reduceSub, Array.replicate_succ, Array.replicate_zero, List.push_toArray, List.append_toArray, List.nil_append, List.cons_append] at hc ⊢
    clear hS hb hY hz
    gi_wp2
    gi_loopw [7] (fun i wr => i = .int .i64 0 ∧ J [] wr) (fun _ _ => 0)
    case atStart => exact ⟨rfl, h0⟩
    case round =>
      obtain ⟨rfl, hJs⟩ := hrel
      gi_wp2
      go_end0
      exact ⟨⟨_, rfl⟩, .inl ⟨_, rfl, hJs⟩⟩
  · obtain ⟨n, en⟩ : ∃ n, zs.length = n := ⟨_, rfl⟩
    have HS : Hid (∀ pre A, J pre A → ∀ (i : Nat) x, zs[i]? = some x → At A B (off + i * 5) x) := fun pre A hj i x hx => by
      obtain ⟨_, a', cap', off', e1, _, _, _, e2⟩ := hS pre A hj
      rcases e2 with e2 | ⟨e2, e3⟩
      · rw [e2] at hx; simp at hx
      · subst e2
        injection e1 with f1 _ _
        injection f1 with f2
        injection f2 with _ f3 _
        rw [f3]
        exact e3 i x hx
    have EN := hide en
    rw [en] at h2 hc
    have HY := hide hY
    clear hS hb hY hz h4 en
    refine callsIn_of_wp Try.func78 rfl trivial ?_ rfl
    simp only [Try.ntmps78, List.size_toArray, List.length_cons, List.length_nil, Nat.reduceAdd, Nat.reduceSub, Array.replicate_succ, Array.replicate_zero, List.push_toArray, List.append_toArray, List.nil_append, List.cons_append]
    gi_wp2
    gi_loopw [7] (fun i wr => ∃ k : Nat, k ≤ n ∧ i = .int .i64 k ∧ J (zs.take k) wr) (fun i _ => n - (intOf i).toNat)
    case atStart => exact ⟨0, Nat.zero_le _, rfl, h0⟩
    case round =>
      obtain ⟨k, hk, rfl, hJs⟩ := hrel
      clear hc
      by_cases hlt : k < n
      · obtain ⟨x, ex⟩ : ∃ x, zs[k]? = some x := ⟨_, List.getElem?_eq_getElem (by rw [EN.out]; exact hlt)⟩
        have hcx := HS.out _ _ hJs k x ex
        unfold At at hcx
        obtain ⟨z0, z1, z2, z3, z4⟩ := hcx
        have et : zs.take (k + 1) = zs.take k ++ [x] := by rw [List.take_add_one, ex]; rfl
        obtain ⟨fn, tmps, assign, body, hy, hR⟩ := HY.out _ x wr (wr.alloc (.cells #[.int .i64 x.c0, .int .i64 x.c1, .int .i64 x.c2, .int .i64 x.c3, .int .i64 x.c4] 96)) hJs ((Below.refl _ wr).alloc (Nat.le_refl _) _) (by rw [← et]; exact List.take_prefix _ _)
        rw [← et] at hR
        have lk : ((k : Nat) : Int) < (n : Nat) := by omega
        clear ex et
        gi_wp2
        refine ⟨rfl, hR.mono ?_⟩
        rintro e W3 (⟨rfl, hJ3, _⟩ | ⟨rfl, hJx3⟩)
        · gi_wp2
          go_roundw
          case rel => exact ⟨k + 1, by omega, by simp, hJ3⟩
          case measure => simp [intOf]; omega
        · gi_wp2
          refine bodyPost_ret (results_none rfl _ _ _) rfl ?_
          exact ⟨⟨_, rfl⟩, .inr ⟨_, hJx3⟩⟩
      · obtain rfl : k = n := by omega
        gi_wp2
        go_end0
        exact ⟨⟨_, rfl⟩, .inl ⟨_, by rw [← EN.out, List.take_length], hJs⟩⟩

/-- Where two lists have been held against each other up to a place. -/
structure Upto (w : World) (B : Nat) (sv : Value) (xs bs : List El) (eqAt : Nat → Bool) (B' : Nat) (pre : List El) (A : World) : Prop where
  bw : Below w.heap.size w A
  f : Rec w.heap.size [.func (.func 73) #[] #[]] A
  r : Rec (w.heap.size + 1) [.bool false] A
  c : ∃ a cap, Rec (w.heap.size + 1 + 1) [.slice a (bs.drop pre.length).length cap] A ∧ RowE A B' (.slice a (bs.drop pre.length).length cap) (bs.drop pre.length)
  s : Rec (w.heap.size + 1 + 1 + 1) [sv] A
  pf : pre <+: xs
  le : pre.length ≤ bs.length
  eq : ∀ i, i < pre.length → eqAt i = true
theorem Upto.mild {w A A' : World} {B B' C : Nat} {sv : Value} {xs bs pre : List El} {eqAt : Nat → Bool} (h : Upto w B sv xs bs eqAt B' pre A) (hm : Mild C A A') (hC : w.heap.size ≤ C) : Upto w B sv xs bs eqAt B' pre A' :=
  ⟨Mild.below h.bw ⟨hm.os, hm.tape, hm.output, hm.size, fun k hk hl => hm.low k (Nat.lt_of_lt_of_le hk hC) hl, hm.cells⟩ (Nat.le_refl _), rec_mild h.f hm, rec_mild h.r hm, let ⟨a, cap, h1, h2⟩ := h.c; ⟨a, cap, rec_mild h1 hm, h2.mild hm⟩, rec_mild h.s hm, h.pf, h.le, h.eq⟩
set_option maxRecDepth 100000 in
set_option maxHeartbeats 8000000 in
theorem sameOne (B B' : Nat) (a a' : Option Addr) (n cap n' cap' : Nat) (xs bs : List El) (eqAt : Nat → Bool) (w : World) (h : RowE w B (.slice a n cap) xs) (h' : RowE w B' (.slice a' n' cap') bs) (hB : B < w.heap.size ∨ xs = []) (hB' : B' < w.heap.size ∨ bs = [])
    (hsame : ∀ (i : Nat) x y W, xs[i]? = some x → bs[i]? = some y → Below w.heap.size w W → Calls Try.prog 73 #[.agg #[.int .i64 x.c0, .int .i64 x.c1, .int .i64 x.c2, .int .i64 x.c3, .int .i64 x.c4], .agg #[.int .i64 y.c0, .int .i64 y.c1, .int .i64 y.c2, .int .i64 y.c3, .int .i64 y.c4]] W fun e W' => e = .returned (.bool (eqAt i)) ∧ Below W.heap.size W W') :
    Calls Try.prog 72 #[.slice a n cap, .slice a' n' cap', .func (.func 73) #[] #[]] w fun e w' => e = .returned (.bool (decide (xs.length = bs.length) && Ir.allB xs.length eqAt)) ∧ Below w.heap.size w w' := by
  have T := tells (w.heap.size + 1 + 1 + 1) B (.slice a n cap) xs
  have SM := hide hsame
  have HR := hide h
  have HR' := hide h'
  have HB' := hide hB'
  have NO : Hid (∀ k : Nat, k < xs.length → (bs.length ≤ k ∨ eqAt k = false) → (decide (xs.length = bs.length) && Ir.allB xs.length eqAt) = false) := fun k hk hor => by
    rcases hor with hor | hor
    · rw [decide_eq_false (by omega)]; rfl
    · rw [Ir.allB_false hk hor, Bool.and_false]
  have NO2 : Hid (xs.length < bs.length → (decide (xs.length = bs.length) && Ir.allB xs.length eqAt) = false) := fun hor => by rw [decide_eq_false (by omega)]; rfl
  have YES : Hid (xs.length = bs.length → (∀ i, i < xs.length → eqAt i = true) → (decide (xs.length = bs.length) && Ir.allB xs.length eqAt) = true) := fun e1 e2 => by rw [decide_eq_true e1, Ir.allB_true e2]; rfl
  obtain ⟨R, eR⟩ : ∃ R, (decide (xs.length = bs.length) && Ir.allB xs.length eqAt) = R := ⟨_, rfl⟩
  rw [eR] at NO NO2 YES ⊢
  clear eR hsame hB hB'
  have hn := h.parts.1
  have hn' := h'.parts.1
  have HN' := hide hn'
  clear h h' hn hn'
  refine (callsIn_wide (n := 0)).1 ?_
  refine callsIn_of_wp_marks Try.func72 rfl trivial ?_ rfl
  simp only [Try.ntmps72, List.size_toArray, List.length_cons, List.length_nil, Nat.reduceAdd, Nat.reduceSub, Array.replicate_succ, Array.replicate_zero, List.push_toArray, List.append_toArray, List.nil_append, List.cons_append]
  gi_wp2_with fail
  refine ⟨trivial, rfl, (callsIn_wide.2 (valuesOf _ _ _ _)).mono ?_⟩
  rintro e u ⟨rfl, rfl⟩
  simp only [World.size_alloc]
  have TP : Upto w B (.slice a n cap) xs bs eqAt B' [] ((((w.alloc (.cells #[.func (.func 73) #[] #[]] 101)).alloc (.cells #[.bool false] 4)).alloc (.cells #[.slice a' n' cap'] 105)).alloc (.cells #[.slice a n cap] 37)) := by
    have b1 := (Below.refl _ w).alloc (Nat.le_refl _) (.cells #[.func (.func 73) #[] #[]] 101)
    have b2 := b1.alloc b1.size (.cells #[.bool false] 4)
    have b3 := b2.alloc b2.size (.cells #[.slice a' n' cap'] 105)
    have b4 := b3.alloc b3.size (.cells #[.slice a n cap] 37)
    have x1 := Rec.new w [.func (.func 73) #[] #[]] 101
    have x2 := Rec.new (w.alloc (.cells #[.func (.func 73) #[] #[]] 101)) [.bool false] 4
    have x3 := Rec.new ((w.alloc (.cells #[.func (.func 73) #[] #[]] 101)).alloc (.cells #[.bool false] 4)) [.slice a' n' cap'] 105
    have x4 := Rec.new (((w.alloc (.cells #[.func (.func 73) #[] #[]] 101)).alloc (.cells #[.bool false] 4)).alloc (.cells #[.slice a' n' cap'] 105)) [.slice a n cap] 37
    simp only [World.size_alloc] at x2 x3 x4
    refine ⟨b4, ((x1.alloc _).alloc _).alloc _, (x2.alloc _).alloc _, ⟨a', cap', ?_, ?_⟩, x4, List.nil_prefix, Nat.zero_le _, fun i hi => by simp at hi⟩
    · rw [show (bs.drop ([] : List El).length).length = n' by simpa using HN'.out]
      exact x3.alloc _
    · rw [show (bs.drop ([] : List El).length).length = n' by simpa using HN'.out]
      exact HR'.out.below b4
  have hsz : (((((w.alloc (.cells #[.func (.func 73) #[] #[]] 101)).alloc (.cells #[.bool false] 4)).alloc (.cells #[.slice a' n' cap'] 105)).alloc (.cells #[.slice a n cap] 37)) : World).heap.size = w.heap.size + 4 := by simp
  generalize ((((w.alloc (.cells #[.func (.func 73) #[] #[]] 101)).alloc (.cells #[.bool false] 4)).alloc (.cells #[.slice a' n' cap'] 105)).alloc (.cells #[.slice a n cap] 37)) = W0 at TP hsz ⊢
  have HSZ := hide hsz
  have TPH := hide TP
  clear hsz TP
  gi_wp2
  refine range (gf := 78) (lb := #[.pointer (some ⟨w.heap.size + 1 + 1 + 1, 0, none⟩)]) rfl enterV T (fun _ => rfl)
    (fun pre A => Upto w B (.slice a n cap) xs bs eqAt B' pre A)
    (fun _ A => Rec (w.heap.size + 1) [.bool false] A ∧ R = false ∧ Below w.heap.size w A)
    (fun pre x a₁ A => Upto w B (.slice a n cap) xs bs eqAt B' pre A ∧ pre ++ [x] <+: xs ∧ ∃ X, w.heap.size + 4 ≤ X ∧ Rec X [.int .i64 x.c0, .int .i64 x.c1, .int .i64 x.c2, .int .i64 x.c3, .int .i64 x.c4] A ∧
      a₁ = { tmps := #[.slice a n cap, .slice a' n' cap', .func (.func 73) #[] #[], undef, undef, .pointer (some ⟨w.heap.size, 0, none⟩), .pointer (some ⟨w.heap.size + 1, 0, none⟩), .pointer (some ⟨w.heap.size + 1 + 1, 0, none⟩), .pointer (some ⟨X, 0, none⟩), undef, undef, undef, undef, .slice a' n' cap', .agg #[.slice a' n' cap'], .slice a n cap, .func (.func 78) #[] #[.pointer (some ⟨w.heap.size + 1 + 1 + 1, 0, none⟩)], .agg #[.int .i64 x.c0, .int .i64 x.c1, .int .i64 x.c2, .int .i64 x.c3, .int .i64 x.c4], undef, undef, undef, undef, undef, undef, undef, undef, undef, undef, undef, undef, undef, undef, undef, undef, undef, undef, undef], defers := [] })
    (fun pre A h => ⟨h.s.cell 0 _ rfl, HR.out.below h.bw⟩)
    (fun pre A A' h hm => h.mild hm (by rw [HSZ.out]; omega))
    (fun pre A A' h hm => ⟨rec_mild h.1 hm, h.2.1, Mild.below h.2.2 ⟨hm.os, hm.tape, hm.output, hm.size, fun k hk hl => hm.low k (by rw [HSZ.out]; omega) hl, hm.cells⟩ (Nat.le_refl _)⟩)
    (fun pre x a₁ A A' h hm => ⟨h.1.mild hm (by rw [HSZ.out]; omega), h.2.1, let ⟨X, h1, h2, h3⟩ := h.2.2; ⟨X, h1, rec_mild h2 hm, h3⟩⟩)
    TPH.out ?_ ?_ ?_ ?_
  · intro l pre x A₀ A K hI hb hF hK
    have h1 := hI.mild (Mild.of_below (B := w.heap.size) hb) (Nat.le_refl _)
    have lo : w.heap.size + 4 ≤ A.heap.size := h1.s.lt
    simp at hK ⊢
    gi_wp2
    exact hK _ _ ((KeepsOthers.alloc _ _).from _) (Mild.alloc (B := 0) _ _).kept (h1.mild (Mild.alloc (B := w.heap.size) _ _) (Nat.le_refl _)) hF A.heap.size lo (Rec.new A [.int .i64 x.c0, .int .i64 x.c1, .int .i64 x.c2, .int .i64 x.c3, .int .i64 x.c4] 96) rfl
  · rintro l pre x a₁ A ⟨hI, hpf, X, hXl, hXr, rfl⟩
    obtain ⟨ca, cc, hc, hr⟩ := hI.c
    have hp := pre_at hpf
    have HP := hide hp
    have HI := hide hI
    have HF := hide hpf
    have HX := hide hXr
    have cl := hc.lt
    have HC := hide hc
    have HRW := hide hr
    have szl : w.heap.size + 4 ≤ A.heap.size := hI.s.lt
    cases hd : bs.drop pre.length with
    | nil =>
      rw [hd] at HC HRW
      have bl : bs.length ≤ pre.length := List.drop_eq_nil_iff.1 hd
      obtain rfl := NO.out pre.length hp.2 (Or.inl bl)
      have mx := HRW.out.parts.2.2.1
      clear hd hr hc hp hpf hI hXr
      gi_wp2_with fail
      refine ⟨trivial, rfl, (callsIn_wide.2 (next_none (w.heap.size + 1 + 1) B' cc ca A HC.out mx)).mono ?_⟩
      rintro e u ⟨rfl, hb⟩
      have R1 := HI.out.r.below hb
      have B1 := HI.out.bw.trans (hb.mono HI.out.bw.size)
      have r0 := R1.cell 0 _ rfl
      have s0 := R1.soft 0
      have R2 := hide ((R1.set 0 (.bool false) (by simp) (show _ = [.bool false] from rfl)).alloc (.cells #[.int .i64 0, .int .i64 0, .int .i64 0, .int .i64 0, .int .i64 0] 96))
      have K2 := hide ((keeps_below (B := W0.heap.size) hb).trans (((KeepsOthers.setCell u ⟨w.heap.size + 1, 0, none⟩ (.bool false)).trans (KeepsOthers.alloc _ (.cells #[.int .i64 0, .int .i64 0, .int .i64 0, .int .i64 0, .int .i64 0] 96))).from _))
      have B2 := hide ((B1.setCell (p := ⟨w.heap.size + 1, 0, none⟩) (by show w.heap.size ≤ w.heap.size + 1; omega) (.bool false)).alloc (by rw [World.size_setCell]; exact B1.size) (.cells #[.int .i64 0, .int .i64 0, .int .i64 0, .int .i64 0, .int .i64 0] 96))
      have ul : w.heap.size + 1 < u.heap.size := R1.lt
      clear R1 B1 HI HC HRW HX HF HP hb
      gi_wp2
      refine ⟨fun _ _ => trivial, ?_⟩
      gi_wp2
      first | exact ⟨K2.out, R2.out, rfl, B2.out⟩ | exact ⟨K2.out, R2.out, B2.out⟩
    | cons y r =>
      rw [hd] at HC HRW
      obtain ⟨by_, dr, bl⟩ := drop_cons hd
      have DR := hide dr
      have hB2 : B' ≠ w.heap.size + 1 + 1 := by
        rcases HB'.out with e | e
        · omega
        · rw [e] at bl; simp at bl
      clear hd hr hc hpf hI hXr dr
      gi_wp2_with fail
      refine ⟨trivial, rfl, (callsIn_wide.2 (next_some (w.heap.size + 1 + 1) B' _ cc ca y r A HC.out HRW.out hB2)).mono ?_⟩
      rintro e u ⟨a2, c2, rfl, RC, RR, tn⟩
      have F1 := HI.out.f.turn tn (by omega)
      have R1 := HI.out.r.turn tn (by omega)
      have S1 := HI.out.s.turn tn (by omega)
      have X1 := HX.out.turn tn (by omega)
      have B1 := HI.out.bw.trans (tn.below (by omega) HI.out.bw.size)
      have bo : Below u.heap.size u (u.alloc (.cells #[.int .i64 y.c0, .int .i64 y.c1, .int .i64 y.c2, .int .i64 y.c3, .int .i64 y.c4] 96)) := (Below.refl _ _).alloc (Nat.le_refl _) _
      have Y1 := Rec.new u [.int .i64 y.c0, .int .i64 y.c1, .int .i64 y.c2, .int .i64 y.c3, .int .i64 y.c4] 96
      have K1 := (keeps_turn (B := W0.heap.size) tn (by rw [HSZ.out]; omega)).trans (keeps_below bo)
      have F2 := F1.below bo
      have X2 := X1.below bo
      have f0 := F2.cell 0 _ rfl
      have x0 := X2.cell 0 _ rfl; have x1 := X2.cell 1 _ rfl; have x2 := X2.cell 2 _ rfl; have x3 := X2.cell 3 _ rfl; have x4 := X2.cell 4 _ rfl
      have y0 := Y1.cell 0 _ rfl; have y1 := Y1.cell 1 _ rfl; have y2 := Y1.cell 2 _ rfl; have y3 := Y1.cell 3 _ rfl; have y4 := Y1.cell 4 _ rfl
      have R2 := hide (R1.below bo)
      have S2 := hide (S1.below bo)
      have RC2 := hide (RC.below bo)
      have RR2 := hide (RR.below bo)
      have B2 := hide (B1.trans (bo.mono B1.size))
      have K2 := hide K1
      have F2h := hide F2
      have ul : w.heap.size < u.heap.size := F1.lt
      have xl : X < u.heap.size := X1.lt
      have ul2 : w.heap.size + 1 < u.heap.size := R1.lt
      clear F1 R1 S1 X1 B1 bo Y1 K1 X2 RC RR tn HX HC HRW F2
      gi_wp2_with fail
      generalize u.alloc (.cells #[.int .i64 y.c0, .int .i64 y.c1, .int .i64 y.c2, .int .i64 y.c3, .int .i64 y.c4] 96) = V at R2 S2 RC2 RR2 B2 K2 F2h f0 x0 y0 x1 y1 x2 y2 x3 y3 x4 y4 ⊢
      refine ⟨trivial, rfl, (callsIn_wide.2 (SM.out pre.length x y V HP.out.1 by_ B2.out)).mono ?_⟩
      rintro e u2 ⟨rfl, hb⟩
      have R3 := R2.out.below hb
      have B3 := B2.out.trans (hb.mono B2.out.size)
      have K3 := K2.out.trans (keeps_below hb)
      have S3 := S2.out.below hb
      have RC3 := RC2.out.below hb
      have RR3 := RR2.out.below hb
      have F3 := F2h.out.below hb
      cases er : eqAt pre.length with
      | false =>
        obtain rfl := NO.out pre.length hp.2 (Or.inr er)
        have r0 := R3.cell 0 _ rfl
        have s0 := R3.soft 0
        have R4 := hide (R3.set 0 (.bool false) (by simp) (show _ = [.bool false] from rfl))
        have K4 := hide (K3.trans ((KeepsOthers.setCell u2 ⟨w.heap.size + 1, 0, none⟩ (.bool false)).from _))
        have B4 := hide (B3.setCell (p := ⟨w.heap.size + 1, 0, none⟩) (by show w.heap.size ≤ w.heap.size + 1; omega) (.bool false))
        clear R3 B3 K3 S3 RC3 RR3 F3 HI HF HP hb R2 S2 RC2 RR2 B2 K2 F2h
        gi_wp2
        first | exact ⟨K4.out, R4.out, rfl, B4.out⟩ | exact ⟨K4.out, R4.out, B4.out⟩
      | true =>
        have el : (pre ++ [x]).length = pre.length + 1 := by simp
        have NX : Hid (Upto w B (.slice a n cap) xs bs eqAt B' (pre ++ [x]) u2) := by
          refine ⟨B3, F3, R3, ⟨a2, c2, ?_, ?_⟩, S3, HF.out, by rw [el]; omega, fun i hi => ?_⟩
          · rw [el, DR.out]; exact RC3
          · rw [el, DR.out]; exact RR3
          · rw [el] at hi
            by_cases e : i < pre.length
            · exact HI.out.eq i e
            · obtain rfl : i = pre.length := by omega
              exact er
        have K4 := hide K3
        clear R3 B3 K3 S3 RC3 RR3 F3 HI HF HP hb R2 S2 RC2 RR2 B2 K2 F2h
        gi_wp2
        exact ⟨K4.out, NX.out, fun _ _ _ _ h => h.elim⟩
  · rintro D pre A hD hS hI hK
    subst hS
    obtain ⟨ca, cc, hc, hr⟩ := hI.c
    have HI := hide hI
    have HC := hide hc
    have HRW := hide hr
    have cl := hc.lt
    have HK := hide hK
    have DD : Hid (w.heap.size + 4 ≤ D) := show _ ≤ _ by rw [HSZ.out] at hD; exact hD
    cases hd : bs.drop pre.length with
    | nil =>
      rw [hd] at HC HRW
      have bl : bs.length ≤ pre.length := List.drop_eq_nil_iff.1 hd
      obtain rfl := YES.out (by have := hI.le; omega) hI.eq
      have mx := HRW.out.parts.2.2.1
      clear hd hr hc hI hK
      gi_wp2_with fail
      refine ⟨trivial, rfl, (callsIn_wide.2 (next_none (w.heap.size + 1 + 1) B' cc ca A HC.out mx)).mono ?_⟩
      rintro e u ⟨rfl, hb⟩
      have R1 := HI.out.r.below hb
      have B1 := HI.out.bw.trans (hb.mono HI.out.bw.size)
      have r0 := R1.cell 0 _ rfl
      have s0 := R1.soft 0
      have R2 := (R1.set 0 (.bool true) (by simp) (show _ = [.bool true] from rfl)).alloc (.cells #[.int .i64 0, .int .i64 0, .int .i64 0, .int .i64 0, .int .i64 0] 96)
      have B2 := (B1.setCell (p := ⟨w.heap.size + 1, 0, none⟩) (by show w.heap.size ≤ w.heap.size + 1; omega) (.bool true)).alloc (by rw [World.size_setCell]; exact B1.size) (.cells #[.int .i64 0, .int .i64 0, .int .i64 0, .int .i64 0, .int .i64 0] 96)
      have KK := (keeps_below (B := 0) hb).trans (((KeepsOthers.setCell u ⟨w.heap.size + 1, 0, none⟩ (.bool true)).trans (KeepsOthers.alloc _ (.cells #[.int .i64 0, .int .i64 0, .int .i64 0, .int .i64 0, .int .i64 0] 96))).from _)
      have FIN : Hid (∀ V : World, V = ((u.setCell ⟨w.heap.size + 1, 0, none⟩ (.bool true)).alloc (.cells #[.int .i64 0, .int .i64 0, .int .i64 0, .int .i64 0, .int .i64 0] 96)) → V.heap[D]? = some (.deferred (some [])) ∧ (V.putObj D (.deferred none)).cell? ⟨w.heap.size + 1, 0, none⟩ = some (.bool true) ∧ Below w.heap.size w (V.putObj D (.deferred none))) := fun V eV => by
        subst eV
        have yD := KK.same D _ (Nat.zero_le _) HK.out rfl
        have hm : Mild w.heap.size _ _ := Mild.put (.deferred none) (by have := DD.out; omega) yD rfl
        exact ⟨yD, hm.cell (R2.cell 0 _ rfl), Mild.below B2 hm (Nat.le_refl _)⟩
      have ul : w.heap.size + 1 < u.heap.size := R1.lt
      clear R1 B1 HI HC HRW hb R2 B2 KK
      gi_wp2
      generalize hV : ((u.setCell ⟨w.heap.size + 1, 0, none⟩ (.bool true)).alloc (.cells #[.int .i64 0, .int .i64 0, .int .i64 0, .int .i64 0, .int .i64 0] 96)) = V
      obtain ⟨z1, z2, z3⟩ := FIN.out V hV.symm
      refine ⟨by simp, .inl ⟨_, _, rfl, run_takeDeferred z1, ?_⟩⟩
      exact ⟨.bool true, by simp [results, Try.results72, go_sem, z2], rfl, z3⟩
    | cons y r =>
      rw [hd] at HC HRW
      obtain ⟨by_, dr, bl⟩ := drop_cons hd
      obtain rfl := NO2.out bl
      have hB2 : B' ≠ w.heap.size + 1 + 1 := by
        rcases HB'.out with e | e
        · omega
        · rw [e] at bl; simp at bl
      clear hd hr hc hI dr hK
      gi_wp2_with fail
      refine ⟨trivial, rfl, (callsIn_wide.2 (next_some (w.heap.size + 1 + 1) B' _ cc ca y r A HC.out HRW.out hB2)).mono ?_⟩
      rintro e u ⟨a2, c2, rfl, RC, RR, tn⟩
      have R1 := HI.out.r.turn tn (by omega)
      have B1 := HI.out.bw.trans (tn.below (by omega) HI.out.bw.size)
      have r0 := R1.cell 0 _ rfl
      have s0 := R1.soft 0
      have R2 := (R1.set 0 (.bool false) (by simp) (show _ = [.bool false] from rfl)).alloc (.cells #[.int .i64 y.c0, .int .i64 y.c1, .int .i64 y.c2, .int .i64 y.c3, .int .i64 y.c4] 96)
      have B2 := (B1.setCell (p := ⟨w.heap.size + 1, 0, none⟩) (by show w.heap.size ≤ w.heap.size + 1; omega) (.bool false)).alloc (by rw [World.size_setCell]; exact B1.size) (.cells #[.int .i64 y.c0, .int .i64 y.c1, .int .i64 y.c2, .int .i64 y.c3, .int .i64 y.c4] 96)
      have KK := (keeps_turn (B := w.heap.size + 4) tn (by omega)).trans (((KeepsOthers.setCell u ⟨w.heap.size + 1, 0, none⟩ (.bool false)).trans (KeepsOthers.alloc _ (.cells #[.int .i64 y.c0, .int .i64 y.c1, .int .i64 y.c2, .int .i64 y.c3, .int .i64 y.c4] 96))).from _)
      have FIN : Hid (∀ V : World, V = ((u.setCell ⟨w.heap.size + 1, 0, none⟩ (.bool false)).alloc (.cells #[.int .i64 y.c0, .int .i64 y.c1, .int .i64 y.c2, .int .i64 y.c3, .int .i64 y.c4] 96)) → V.heap[D]? = some (.deferred (some [])) ∧ (V.putObj D (.deferred none)).cell? ⟨w.heap.size + 1, 0, none⟩ = some (.bool false) ∧ Below w.heap.size w (V.putObj D (.deferred none))) := fun V eV => by
        subst eV
        have yD := KK.same D _ DD.out HK.out rfl
        have hm : Mild w.heap.size _ _ := Mild.put (.deferred none) (by have := DD.out; omega) yD rfl
        exact ⟨yD, hm.cell (R2.cell 0 _ rfl), Mild.below B2 hm (Nat.le_refl _)⟩
      have ul : w.heap.size + 1 < u.heap.size := R1.lt
      clear R1 B1 HI HC HRW R2 B2 KK RC RR tn
      gi_wp2
      generalize hV : ((u.setCell ⟨w.heap.size + 1, 0, none⟩ (.bool false)).alloc (.cells #[.int .i64 y.c0, .int .i64 y.c1, .int .i64 y.c2, .int .i64 y.c3, .int .i64 y.c4] 96)) = V
      obtain ⟨z1, z2, z3⟩ := FIN.out V hV.symm
      refine ⟨by simp, .inl ⟨_, _, rfl, run_takeDeferred z1, ?_⟩⟩
      exact ⟨.bool false, by simp [results, Try.results72, go_sem, z2], rfl, z3⟩
  · rintro D pre A hD ⟨q2, hf, hB⟩ hK
    have hm : Mild w.heap.size A (A.putObj D (.deferred none)) := Mild.put (.deferred none) (by rw [HSZ.out] at hD; omega) hK rfl
    have z2 := hm.cell (q2.cell 0 _ rfl)
    refine ⟨by simp, .inl ⟨_, _, rfl, run_takeDeferred hK, ?_⟩⟩
    exact ⟨.bool false, by simp [results, Try.results72, go_sem, z2], by rw [hf], Mild.below hB hm (Nat.le_refl _)⟩

end Go.Proofs.Ythlpndligadnjaa.OneO
