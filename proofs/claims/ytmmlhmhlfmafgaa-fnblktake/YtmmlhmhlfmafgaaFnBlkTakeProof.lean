/-
  At every two codes of bytes the law FnBlkTake returns true (P35: blkTake of BlkWords of instructions that are ok is these; and BlkWords of what BlkTake takes are the first words); no condition.
  The frame (the steps lifted, over, proved) is the guide's shell, written by its program; the walk and the lemmas ahead of it are mine.
-/
import Derived.Test.YtmmlhmhlfmafgaaRows
import Derived.WalkKit
import Derived.ProofKit
import Derived.OpenShut
import Derived.Test.YtmmlhmhlfmafgaaLsP
import Derived.Test.YtmmlhmhlfmafgaaLsM
import Derived.Test.YtmmlhmhlfmafgaaLaL
import Derived.Test.YtmmlhmhlfmafgaaPhaseIn
import Derived.ShutString
import Derived.ChangeOld
import Derived.Below
namespace Go.Proofs.Ytmmlhmhlfmafgaa.fnBlkTake
open Go.ChangeShapes Go.WideShapes Go.ChangeAt Go.RowKit
open Go.ChangeMaps (open_string shut_string)
set_option linter.unusedVariables false

theorem own : ownKnob Try.prog.godebug = none := by kernel_rfl
theorem laidOut : laidOutB Try.prog = true := by kernel_rfl

def IsRow (k : IntKind) (w : World) (a : Option Addr) (len cap : Nat) (zs : List Int) : Prop :=
  (a = none ∧ len = 0 ∧ cap = 0 ∧ zs = []) ∨
  ∃ x, a = some x ∧ len ≤ cap ∧ cap ≤ maxLen ∧ zs.length = cap ∧ (∀ i, i < zs.length → w.cell? (x.add i) = some (.int k (zs.getD i 0))) ∧ ∀ n ∈ zs, (Lit.int k n).wf = true

open IntS Flat InsS
set_option linter.unusedVariables false
set_option linter.unusedSimpArgs false
theorem ok_list {w : World} {lo : Nat} {v : Value} {is : List In4} (h : OwnI w lo v is) : ∃ B, IRow w B v is := h.frow
theorem row_read {w : World} {lo : Nat} {v : Value} {xs : List Int} (h : Go.Proofs.Ytmmlhmhlfmafgaa.Blk.OwnN w lo v xs) : ∃ B, Row w B v xs := by
  obtain ⟨B, hB, _⟩ := h.wrow lo (Nat.le_refl _)
  exact ⟨B, (Blk.row_of_flat hB).row⟩
theorem row_take {w : World} {B m c N : Nat} {q : Option Addr} {ws : List Int} (h : Row w B (.slice q m c) ws) (hN : N ≤ m) : Row w B (.slice q N c) (ws.take N) := by
  obtain ⟨a, cap, off, h1, h2, h3, hz, h4⟩ := h
  injection h1 with i1 i2 i3
  subst i1 i2 i3
  have el : (ws.take N).length = N := by simp; omega
  refine ⟨q, c, off, by rw [el], by omega, h3, hz, ?_⟩
  rcases h4 with rfl | ⟨e, hc⟩
  · left; simp
  · refine Or.inr ⟨e, fun i x hx => hc i x ?_⟩
    have hi := (List.getElem?_eq_some_iff.1 hx).1
    rw [el] at hi
    rw [List.getElem?_take_of_lt hi] at hx
    exact hx
theorem row_cap {w : World} {B m c : Nat} {q : Option Addr} {ws : List Int} (h : Row w B (.slice q m c) ws) : m ≤ c ∧ c ≤ maxLen := by
  obtain ⟨a, cap, off, h1, h2, h3, _⟩ := h
  injection h1 with i1 i2 i3
  subst i2 i3
  exact ⟨h2, h3⟩
/-- What the law knows: instructions, words, what was made of both. -/
structure Kn (w : World) (is xs : List In4) (ws ys : List Int) (v1 v2 v3 v4 : Value) (u : World) : Prop where
  bw : Below w.heap.size w u
  a : ∃ B, IRow u B v1 is
  b : ∃ B, Row u B v2 ws
  c : ∃ B, Row u B v3 ys
  d : ∃ B, IRow u B v4 xs
theorem Kn.below {w u u' : World} {is xs : List In4} {ws ys : List Int} {v1 v2 v3 v4 : Value} (h : Kn w is xs ws ys v1 v2 v3 v4 u) (hb : Below u.heap.size u u') : Kn w is xs ws ys v1 v2 v3 v4 u' :=
  ⟨h.bw.trans (hb.mono h.bw.size), h.a.imp fun _ h => h.below hb, h.b.imp fun _ h => h.below hb, h.c.imp fun _ h => h.below hb, h.d.imp fun _ h => h.below hb⟩

set_option maxRecDepth 8000 in
set_option maxHeartbeats 16000000 in
theorem walk (a0 : Option Addr) (len0 cap0 : Nat) (z0 : List Int) (a1 : Option Addr) (len1 cap1 : Nat) (z1 : List Int) (w : World) (w0 : IsRow .u8 w a0 len0 cap0 z0) (w1 : IsRow .u8 w a1 len1 cap1 z1) :
    Calls Try.prog 3 #[.slice a0 len0 cap0, .slice a1 len1 cap1] w fun e w' => e = .returned (.bool true) ∧ Below w.heap.size w w' := by
  obtain ⟨hlc, hm, hc⟩ := Draw.code_row w a0 len0 cap0 z0 w0
  obtain ⟨hlc1, hm1, hc1⟩ := Draw.code_row w a1 len1 cap1 z1 w1
  by_cases hl : 1048576 < len0
  · unfold maxLen at hm hm1
    go_enter Try.func3, Try.ntmps3
    go_wp2
    go_ret
    exact ⟨rfl, Below.refl _ _⟩
  by_cases hl1 : 1048576 < len1
  · unfold maxLen at hm hm1
    go_enter Try.func3, Try.ntmps3
    go_wp2
    go_ret
    exact ⟨rfl, Below.refl _ _⟩
  clear w0 w1
  go_enter Try.func3, Try.ntmps3
  go_wp2_with fail
  refine (Draw.drawBlkWords a0 len0 cap0 _ hlc hm hc).mono ?_
  rintro e va ⟨q1, c1, is, B1, rfl, r1, l1, hb⟩
  have BW := hide hb
  have HC1 := hide (hc1.below hb)
  have R1 := hide r1
  clear hc hm hlc hb r1 hc1
  go_wp2_with fail
  refine (Draw.drawBlkTake a1 len1 cap1 va hlc1 hm1 HC1.out).mono ?_
  rintro e vb ⟨q2, c2, ws, B2, rfl, r2, l2, hb⟩
  have R1b := hide (R1.out.below hb)
  replace BW := hide (BW.out.trans (hb.mono BW.out.size))
  have R2 := hide r2
  clear hb r2 R1 HC1 hm1 hlc1
  go_wp2_with fail
  refine (Blk.implWords is B1 _ vb R1b.out (by omega)).mono ?_
  rintro e vc ⟨g, rfl, W3, _, _, hb⟩
  have R1c := hide (R1b.out.below hb)
  replace R2 := hide (R2.out.below hb)
  replace BW := hide (BW.out.trans (hb.mono BW.out.size))
  have R3 := hide W3.row
  clear hb W3 R1b
  go_wp2_with fail
  refine (Blk.implTake ws B2 _ vc R2.out (by omega)).mono ?_
  rintro e vd ⟨q4, c4, rfl, o4, hb⟩
  have S : Hid (Kn w is (Blk.takeL ws) ws (Blk.wordsL is) (.slice q1 is.length c1) (.slice q2 ws.length c2) (.slice (some ⟨g, 0, none⟩) (Blk.wordsL is).length (Blk.wordsL is).length) (.slice q4 (Blk.takeL ws).length c4) vd) :=
    ⟨BW.out.trans (hb.mono BW.out.size), ⟨_, R1c.out.below hb⟩, ⟨_, R2.out.below hb⟩, ⟨_, R3.out.below hb⟩, ok_list o4⟩
  have TL := Blk.takeL_len ws
  obtain ⟨xs, ex⟩ : ∃ xs, Blk.takeL ws = xs := ⟨_, rfl⟩
  have XE := hide ex
  have WL : (Blk.wordsL is).length = is.length := by unfold Blk.wordsL; rw [List.length_map]
  have WT := hide (Blk.words_take ws)
  have TW := hide (Blk.take_words is)
  have WT2 : Hid ((Blk.wordsL (Blk.takeL ws)).length = (Blk.takeL ws).length) := show _ = _ by unfold Blk.wordsL; rw [List.length_map]
  rw [ex] at S TL WT WT2 ⊢
  obtain ⟨ys, ey⟩ : ∃ ys, Blk.wordsL is = ys := ⟨_, rfl⟩
  have EY := hide ey
  rw [ey] at S WL TW ⊢
  clear ex hb o4 R1c R2 R3 BW ey
  obtain ⟨n, en⟩ : ∃ n, is.length = n := ⟨_, rfl⟩
  obtain ⟨m, em⟩ : ∃ m, ws.length = m := ⟨_, rfl⟩
  obtain ⟨t, et⟩ : ∃ t, xs.length = t := ⟨_, rfl⟩
  have EN := hide en
  have EM := hide em
  have ET := hide et
  rw [WL, en, em, et] at S
  rw [em, et] at TL
  rw [et] at WT2
  rw [en] at l1
  rw [em] at l2
  rw [WL, en, em, et]
  have WLH := hide (WL.trans en)
  clear WL en em et
  go_wp2_with fail
  obtain ⟨D1, d1⟩ := S.out.a
  refine (Blk.specWords is D1 _ vd d1 (by rw [EN.out]; omega)).mono ?_
  rintro e ve ⟨qa, ca, rfl, oa, hb⟩
  obtain ⟨Da, da⟩ := row_read oa
  rw [EY.out, WLH.out]
  rw [EY.out, WLH.out] at da
  replace S := hide (S.out.below hb)
  have DA := hide da
  clear hb oa d1 da
  go_wp2_with fail
  obtain ⟨D3, d3⟩ := S.out.c
  refine (La.laInts ys ys D3 Da _ _ ve d3 DA.out).mono ?_
  rintro e vf ⟨rfl, hb⟩
  rw [show decide (ys = ys) = true from decide_eq_true rfl]
  replace S := hide (S.out.below hb)
  clear hb d3 DA
  go_wp2_with fail
  obtain ⟨D2, d2⟩ := S.out.b
  refine (Blk.specTake ws D2 _ vf d2 (by rw [EM.out]; omega)).mono ?_
  rintro e vg ⟨qb, cb, rfl, ob, hb⟩
  obtain ⟨Db, db⟩ := ok_list ob
  rw [XE.out, ET.out]
  rw [XE.out, ET.out] at db
  replace S := hide (S.out.below hb)
  have DB := hide db
  clear hb ob d2 db
  go_wp2_with fail
  obtain ⟨D4, d4⟩ := S.out.d
  refine (La.laList xs D4 Db _ _ vg d4 (by rw [← ET.out] at DB; rw [← ET.out]; exact DB.out)).mono ?_
  rintro e vh ⟨rfl, hb⟩
  replace S := hide (S.out.below hb)
  clear hb d4 DB
  have tm : ¬ (m : Int) < (t : Int) := by omega
  go_wp2_with fail
  refine (wpIn_wide (n := 0)).1 ?_
  have SD := hide (S.out.below (Below.refl _ _).drew)
  clear S
  refine PhaseIn.region (S := fun v => Kn w is xs ws ys (.slice q1 n c1) (.slice q2 m c2) (.slice (some ⟨g, 0, none⟩) n n) (.slice q4 t c4) v) 8 (by kernel_rfl) ?_
  generalize vh.drew = vi at *
  have hHeld := SD.out
  clear SD
  obtain ⟨D2, d2⟩ := hHeld.b
  obtain ⟨mc, mx⟩ := row_cap d2
  unfold maxLen at mx
  have tc : t ≤ c2 := by omega
  clear d2
  refine PhaseIn.takeD (i := 0) (v := ?_) [0, 1, 6, 7] 45 rfl (by rfl) (by kernel_rfl) (by kernel_rfl) (by kernel_rfl) (by kernel_rfl) (by kernel_rfl) (fun _ _ _ h => h) (Or.inl ⟨by kernel_rfl, ?_⟩) hHeld ?_
  rotate_left
  · intro w' hSw
    (try dsimp only at hSw)
    go_simp
    first | done | with_reducible rfl
  try simp only [Act.put, List.setIfInBounds_toArray, List.set]
  refine PhaseIn.takeD (i := 2) (v := ?_) [2, 5, 6, 7] 47 rfl (by rfl) (by kernel_rfl) (by kernel_rfl) (by kernel_rfl) (by kernel_rfl) (by kernel_rfl) (fun _ _ _ h => h) (Or.inl ⟨by kernel_rfl, ?_⟩) hHeld ?_
  rotate_left
  · intro w' hSw
    (try dsimp only at hSw)
    go_simp
    first | done | with_reducible rfl
  try simp only [Act.put, List.setIfInBounds_toArray, List.set]
  refine PhaseIn.takeD (i := 3) (v := ?_) [3, 4, 5, 6, 7] 48 rfl (by rfl) (by kernel_rfl) (by kernel_rfl) (by kernel_rfl) (by kernel_rfl) (by kernel_rfl) (fun _ _ _ h => h) (Or.inl ⟨by kernel_rfl, ?_⟩) hHeld ?_
  rotate_left
  · intro w' hSw
    (try dsimp only at hSw)
    go_simp
    first | done | with_reducible rfl
  try simp only [Act.put, List.setIfInBounds_toArray, List.set]
  refine PhaseIn.takeD (i := 4) (v := ?_) [4, 5, 6, 7] 49 rfl (by rfl) (by kernel_rfl) (by kernel_rfl) (by kernel_rfl) (by kernel_rfl) (by kernel_rfl) (fun _ _ _ h => h) (Or.inl ⟨by kernel_rfl, ?_⟩) hHeld ?_
  rotate_left
  · intro w' hSw
    (try dsimp only at hSw)
    go_simp
    first | done | with_reducible rfl
  try simp only [Act.put, List.setIfInBounds_toArray, List.set]
  refine PhaseIn.takeD (i := 5) (v := .slice q2 t c2) [5, 6, 7] 50 rfl (by rfl) (by kernel_rfl) (by kernel_rfl) (by kernel_rfl) (by kernel_rfl) (by kernel_rfl) (fun _ _ _ h => h) (Or.inl ⟨by kernel_rfl, ?_⟩) hHeld ?_
  · intro w' hSw
    (try dsimp only at hSw)
    go_simp
    first | done | with_reducible rfl
  try simp only [Act.put, List.setIfInBounds_toArray, List.set]
  refine PhaseIn.one (i := 1) (by kernel_rfl) rfl (by kernel_rfl) (fun K hK => ?_)
  unfold Oper.wpIn
  refine ⟨fun _ _ => trivial, ?_⟩
  go_simp
  refine ⟨rfl, (callsIn_wide.2 (Blk.implWords xs _ _ vi hHeld.d.choose_spec (by rw [ET.out]; omega))).mono ?_⟩
  rintro e vj ⟨g2, rfl, W5, _, _, hb⟩
  have R5 := hide W5.row
  rw [WT2.out]
  rw [WT2.out] at R5
  replace hHeld := hHeld.below hb
  clear hb W5
  refine hK _ _ (fun _ => hHeld) ?_
  clear hK K
  try simp only [Act.put, List.setIfInBounds_toArray, List.set]
  refine PhaseIn.one (i := 6) (by kernel_rfl) rfl (by kernel_rfl) (fun K hK => ?_)
  unfold Oper.wpIn
  refine ⟨fun _ _ => trivial, ?_⟩
  go_simp
  refine ⟨rfl, (callsIn_wide.2 (La.laInts (Blk.wordsL xs) (ws.take t) _ _ _ _ vj R5.out (row_take hHeld.b.choose_spec TL))).mono ?_⟩
  rintro e vk ⟨rfl, hb⟩
  rw [show decide (Blk.wordsL xs = ws.take t) = true from decide_eq_true (by rw [WT.out, ET.out])]
  replace hHeld := hHeld.below hb
  clear hb R5
  refine hK _ _ (fun _ => hHeld) ?_
  clear hK K
  try simp only [Act.put, List.setIfInBounds_toArray, List.set]
  refine PhaseIn.takeD (i := 7) (v := ?_) [7] 52 rfl (by rfl) (by kernel_rfl) (by kernel_rfl) (by kernel_rfl) (by kernel_rfl) (by kernel_rfl) (fun _ _ _ h => h) (Or.inl ⟨by kernel_rfl, ?_⟩) hHeld ?_
  rotate_left
  · intro w' hSw
    (try dsimp only at hSw)
    go_simp
    first | done | with_reducible rfl
  try simp only [Act.put, List.setIfInBounds_toArray, List.set]
  refine PhaseIn.done (by kernel_rfl) ?_ _
  have S := hide hHeld
  clear hHeld tc mc mx
  go_wp2
  obtain ⟨Bq, dq⟩ := S.out.a
  have dq2 := dq
  rw [← EN.out] at dq
  obtain ⟨aq, kq, oq, hv, n1, n2, n3, n4, n5⟩ := dq
  injection hv with i1 i2 i3
  subst i1 i3
  clear n1 n3 n4 i2
  rw [EN.out] at n5
  have N5 := hide n5
  have N2 := hide n2
  clear n5 n2 dq2
  go_loopw [9] (fun i wr => ∃ k : Nat, k ≤ n ∧ i = .int .i64 k ∧ Hid (Kn w is xs ws ys (.slice q1 n c1) (.slice q2 m c2) (.slice (some ⟨g, 0, none⟩) n n) (.slice q4 t c4) wr) ∧ Hid (Below vk.heap.size vk wr) ∧ Hid (∀ (j : Nat) i, j < k → is[j]? = some i → Ins.okB i.op i.d i.a i.k = true)) (fun i _ => n - (intOf i).toNat)
  case atStart => exact ⟨0, by omega, rfl, S, Below.refl _ _, fun j i hj => by omega⟩
  case round =>
    clear S
    obtain ⟨k, hk, rfl, S, HV, AL⟩ := hrel
    by_cases hlt : k < n
    · have lk : ((k : Nat) : Int) < (n : Nat) := by omega
      obtain ⟨i, et⟩ : ∃ i, is[k]? = some i := ⟨_, List.getElem?_eq_getElem (by rw [EN.out]; exact hlt)⟩
      obtain ⟨rfl, hcell⟩ := N5.out.resolve_left (by omega)
      obtain ⟨p0, p1, p2, p3⟩ := at4 hcell et
      have c0 := cell_below HV.out p0
      have c1 := cell_below HV.out p1
      have c2 := cell_below HV.out p2
      have c3 := cell_below HV.out p3
      have ET2 := hide et
      clear p0 p1 p2 p3 hcell et
      go_wp2_with fail
      refine (Ins.insOk i.op i.d i.a i.k wr).mono ?_
      rintro e u1 ⟨rfl, hb⟩
      replace S := hide (S.out.below hb)
      replace HV := hide (HV.out.trans (hb.mono HV.out.size))
      clear hb c0 c1 c2 c3
      cases ho : Ins.okB i.op i.d i.a i.k with
      | false =>
        have FIN := hide S.out.bw
        clear S ho
        go_wp2_with fail
        refine (La.laOk u1).mono ?_
        rintro e u2 ⟨rfl, rfl⟩
        go_wp2
        go_ret
        exact ⟨rfl, FIN.out⟩
      | true =>
        have AL2 : Hid (∀ (j : Nat) i, j < k + 1 → is[j]? = some i → Ins.okB i.op i.d i.a i.k = true) := fun j i' hj hi => by
          by_cases e : j = k
          · subst e
            rw [ET2.out] at hi
            cases hi
            exact ho
          · exact AL.out j i' (by omega) hi
        clear AL ho ET2
        go_wp2
        exact ⟨⟨k + 1, by omega, by go_num, S, HV, AL2⟩, by simp [intOf]; omega⟩
    · have OKS : ∀ i ∈ is, Ins.okB i.op i.d i.a i.k = true := fun i hi => by
        obtain ⟨j, hj, rfl⟩ := List.mem_iff_getElem.1 hi
        exact AL.out j _ (by have := EN.out; omega) (List.getElem?_eq_getElem hj)
      have TY := hide (TW.out OKS)
      clear OKS AL TW
      go_wp2_with fail
      obtain ⟨D3, d3⟩ := S.out.c
      refine (Blk.implTake ys D3 _ wr d3 (by rw [WLH.out]; omega)).mono ?_
      rintro e u1 ⟨qz, cz, rfl, oz, hb⟩
      obtain ⟨Dz, dz⟩ := ok_list oz
      rw [TY.out, EN.out]
      rw [TY.out] at dz
      replace S := hide (S.out.below hb)
      have DZ := hide dz
      clear hb oz d3 dz
      go_wp2_with fail
      obtain ⟨D1, d1⟩ := S.out.a
      refine (La.laList is Dz D1 _ _ u1 (by rw [← EN.out]; exact DZ.out) d1).mono ?_
      rintro e u2 ⟨rfl, hb⟩
      replace S := hide (S.out.below hb)
      clear hb d1 DZ
      go_wp2_with fail
      refine (La.laOk u2).mono ?_
      rintro e u3 ⟨rfl, rfl⟩
      have FIN := hide S.out.bw
      clear S
      go_wp2
      go_ret
      exact ⟨rfl, FIN.out⟩

set_option maxRecDepth 100000 in
theorem lifted (os : Os) (started : os.Started) (H : Type) (enc : TypeId × Value → H) :
    ReturnsInHanded {} Try.checked os 3 .any (Rows.fnBlkTakeSpec.pre6 enc Try.prog Try.f3 Rows.fnBlkTakeRow.domain false) (Rows.fnBlkTakeSpec.post enc Try.prog Try.f3 false true false false) := by
  refine returnsInHanded_of_change (C := Try.checked) own started (by kernel_rfl) Try.func3
    (ChangeSpec.witness6 (enc := enc) (C := Try.checked) false ⟨#[], #[.slice none 0 0, .slice none 0 0], []⟩ 8 (by kernel_rfl) (by kernel_rfl) (by kernel_rfl) (by kernel_rfl)) ?_
  intro W base args ds gs before hval0 hW hcnd _
  have hval : ∀ (j : Nat) t v, Try.f3.params[j]? = some t → args[j]? = some v → Value.okWide Try.prog W .any base t v := hval0
  have hW' := hW
  obtain ⟨p, q, hA0, hV, rfl, hfz, hnd⟩ := hW
  have hA : DataW.TrodAll enc Try.prog W 0 (fun _ => true) true Try.f3.params.toList args.toList ds p := hA0
  rw [Try.params3] at hA hval
  obtain ⟨v0, vs0, d0, ds0, p0, q0, hargs, rfl, rfl, h0, r0⟩ := trodAll_cons hA
  obtain ⟨v1, vs1, d1, ds1, p1, q1, rfl, rfl, rfl, h1, r1⟩ := trodAll_cons r0
  obtain ⟨rfl, rfl, rfl⟩ := trodAll_nil r1
  obtain rfl : args = #[v0, v1] := by cases args; simp_all
  obtain ⟨rfl, rfl⟩ := trodVars_none hV
  obtain ⟨a0, len0, cap0, rfl⟩ := okWide_slice Try.underlying22 (hval 0 22 v0 rfl rfl)
  have k0 := h0
  have lt0 : ∀ x ∈ p0, x.block < W.heap.size := by obtain ⟨m, hm⟩ := k0; exact DataW.trod_lt m _ _ _ hm
  obtain ⟨z0, w0⟩ : ∃ zs, IsRow .u8 W a0 len0 cap0 zs := by
    obtain ⟨fuel, hf⟩ := h0
    rcases open_ints Try.underlying22 Try.underlying5 (by kernel_rfl) hf with ⟨hcs, _⟩ | ⟨x, l, c, zs, hcs, _, hl, hm, hz, _, hcell, hwz⟩
    · simp [Value.cells] at hcs
      obtain ⟨rfl, rfl, rfl⟩ := hcs
      exact ⟨[], .inl ⟨rfl, rfl, rfl, rfl⟩⟩
    · simp [Value.cells] at hcs
      obtain ⟨rfl, rfl, rfl⟩ := hcs
      exact ⟨zs, .inr ⟨_, rfl, hl, hm, by simpa using hz, hcell, hwz⟩⟩
  obtain ⟨a1, len1, cap1, rfl⟩ := okWide_slice Try.underlying22 (hval 1 22 v1 rfl rfl)
  have k1 := h1
  have lt1 : ∀ x ∈ p1, x.block < W.heap.size := by obtain ⟨m, hm⟩ := k1; exact DataW.trod_lt m _ _ _ hm
  obtain ⟨z1, w1⟩ : ∃ zs, IsRow .u8 W a1 len1 cap1 zs := by
    obtain ⟨fuel, hf⟩ := h1
    rcases open_ints Try.underlying22 Try.underlying5 (by kernel_rfl) hf with ⟨hcs, _⟩ | ⟨x, l, c, zs, hcs, _, hl, hm, hz, _, hcell, hwz⟩
    · simp [Value.cells] at hcs
      obtain ⟨rfl, rfl, rfl⟩ := hcs
      exact ⟨[], .inl ⟨rfl, rfl, rfl, rfl⟩⟩
    · simp [Value.cells] at hcs
      obtain ⟨rfl, rfl, rfl⟩ := hcs
      exact ⟨zs, .inr ⟨_, rfl, hl, hm, by simpa using hz, hcell, hwz⟩⟩
  clear hA0 hval0
  refine (walk a0 len0 cap0 z0 a1 len1 cap1 z1 W w0 w1).mono fun e W' ⟨he, bel⟩ => ?_
  subst he
  exact ⟨_, rfl, _, _, _, [], _, [], hW', trodAll_mk1 (shut_bool Try.underlying4 _), (trodAll_cons_mk (Below.trod laidOut (by kernel_rfl) (of_decide_eq_true (by kernel_rfl)) k0 bel lt0) (trodAll_cons_mk (Below.trod laidOut (by kernel_rfl) (of_decide_eq_true (by kernel_rfl)) k1 bel lt1) trodAll_mk0)), rfl, bel.frame _, fun h => by cases h⟩

theorem over : Rows.fnBlkTakeRow.holds Try.pinned (OpenSpec.ofChange Rows.fnBlkTakeSpec) :=
  OpenClaim.holds_of_wide 3 Try.f3 rfl rfl rfl rfl rfl rfl rfl ⟨rfl, rfl, rfl, rfl, rfl⟩ rfl rfl rfl rfl rfl (by kernel_rfl) Try.func3 (by kernel_rfl)
    (of_decide_eq_true (by kernel_rfl)) (by unfold Func.isWrapper; first | (rw [if_pos (by decide +kernel)]; kernel_rfl) | (rw [if_neg (by decide +kernel)]; exact ⟨rfl, rfl⟩))
    (fun os started H enc _ => lifted os started H enc)

theorem proved : Rows.FnBlkTakeSaid := over
#print axioms proved
end Go.Proofs.Ytmmlhmhlfmafgaa.fnBlkTake
