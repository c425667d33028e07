/-
  The iterator of the parts in order: inOrder's closure.
-/
import Derived.Test.YtckhfpaicnjknaaGreatPolKeys
import Derived.Test.YtckhfpaicnjknaaGreatPhaseIn
namespace Go.Proofs.YtckhfpaicnjknaaGreat.Pol
set_option linter.unusedVariables false
open Go.ChangeShapes Go.WideShapes Go.ChangeAt Go.RowKit Go.Shelf IntS Rng
attribute [local go_sem] Oper.semAt_some
/-- A part that is handed over: its word, its atoms, and the slice that holds them. -/
structure Part where
  c : Int
  q : Option Addr
  m : Nat
  k : Nat
  at_ : List Int
def Part.mono (p : Part) : Mono := (p.c, p.at_)
def Part.val (p : Part) : Value := .agg #[.int .i64 p.c, .slice p.q p.m p.k]
/-- Texts of parts that do not come to 0. -/
def live (es : List Mono) (ks : List (List UInt8)) : List (List UInt8) := ks.filter fun x => decide (totE es x ≠ 0)
theorem live_snoc {es : List Mono} {ks : List (List UInt8)} {k : Nat} {x : List UInt8} (h : ks[k]? = some x) : live es (ks.take (k + 1)) = live es (ks.take k) ++ if totE es x ≠ 0 then [x] else [] := by
  unfold live
  rw [List.take_add_one, h, List.filter_append]
  congr 1
  simp [List.filter_cons]
theorem live_next {es L : List Mono} {ks : List (List UInt8)} (hT : Told es L) (hk : ks.Pairwise (· < ·)) (hm : ∀ x, (∃ m ∈ es, txt m.2 = x) → x ∈ ks) {k j : Nat} {x : List UInt8} (hx : ks[k]? = some x) (hl : live es (ks.take k) = (L.take j).map fun m => txt m.2) (hj : j ≤ L.length) (h0 : totE es x ≠ 0) :
    ∃ m, L[j]? = some m ∧ txt m.2 = x ∧ m.1 = totE es x ∧ Fine m.2 := by
  have hall := hT.keys hk hm
  have e1 : live es (ks.take (k + 1)) = (L.take j).map (fun m => txt m.2) ++ [x] := by rw [live_snoc hx, hl, if_pos h0]
  have e2 : live es (ks.take (k + 1)) <+: L.map fun m => txt m.2 := by
    rw [← hall]
    exact (List.take_prefix _ _).filter _
  rw [e1] at e2
  obtain ⟨r, hr⟩ := e2
  have e3 : (L.map fun m => txt m.2)[j]? = some x := by
    rw [← hr, List.append_assoc, List.getElem?_append_right (by simp [hj])]
    simp [Nat.min_eq_left hj]
  rw [List.getElem?_map] at e3
  cases hm2 : L[j]? with
  | none => rw [hm2] at e3; cases e3
  | some m =>
    rw [hm2] at e3
    have e4 : txt m.2 = x := by simpa using e3
    have hmem := List.mem_of_getElem? hm2
    exact ⟨m, rfl, e4, by rw [← e4, ← hT.eq, coef_mem hT.up m hmem], (hT.fine m hmem).1⟩
theorem live_end {es L : List Mono} {ks : List (List UInt8)} (hT : Told es L) (hk : ks.Pairwise (· < ·)) (hm : ∀ x, (∃ m ∈ es, txt m.2 = x) → x ∈ ks) {j : Nat} (hl : live es ks = (L.take j).map fun m => txt m.2) (hj : j ≤ L.length) : j = L.length := by
  have hall := hT.keys hk hm
  have := congrArg List.length (hl.symm.trans hall)
  simp at this
  omega
theorem look {w : World} {b : Nat} {es : List Mono} (h : MapOf w b es) (x : List UInt8) (hx : x.length ≤ 1000) : (Instr.lookup 52 (.map (some b)) (.string ⟨x.toArray⟩) false).run Tryz.prog w = .ok (.int .i64 (totE es x)) w := by
  obtain ⟨nn, D, hown, hnn, hhas, hat⟩ := h
  have hkey : keyOf Tryz.prog 9 (.string ⟨x.toArray⟩) = some (.string x) := by
    have := Go.WideMaps.keyOf_string_mk (P := Tryz.prog) (k := 9) Tryz.underlying9 (s := ⟨x.toArray⟩) (by show x.toArray.size ≤ maxLen; unfold maxLen; simp; omega)
    simpa using this
  obtain ⟨c, hrun, h1, h2⟩ := hown.lookup_int (Maps.string_keyed Tryz.underlying9) Tryz.underlying52 Tryz.underlying3 (Tryz.zeroValue3 _) hkey
  have := hat x
  rw [h1] at this
  have e : c = totE es x := by simpa using this
  rw [hrun, e]
set_option maxRecDepth 100000 in
set_option maxHeartbeats 16000000 in
theorem inOrder (es L : List Mono) (b Bp : Nat) (hT : Told es L) (hn : es.length ≤ 1000000) (he : ∀ m ∈ es, m.2.length < 256) :
    Tells Tryz.prog 69 #[.pointer (some ⟨Bp, 0, none⟩)] (fun x : Part => #[x.val]) (fun A => A.cell? ⟨Bp, 0, none⟩ = some (.map (some b)) ∧ MapOf A b es)
      (fun pre x A₀ A => (pre ++ [x]).map Part.mono <+: L ∧ IntS.Own A A₀.heap.size (.slice x.q x.m x.k) x.at_) (fun xs => xs.map Part.mono = L) (fun t => t = 9) := by
  intro l J Jx W hS hb hY h0
  obtain ⟨hc, hM⟩ := hS _ _ h0
  have SK := hide (sortedKeys es b W hM hn)
  refine callsIn_of_wp Tryz.func69 rfl trivial ?_ rfl
  simp only [Tryz.ntmps69, List.size_toArray, List.length_cons, List.length_nil, Nat.reduceAdd, Nat.reduceSub, Array.replicate_succ, Array.replicate_zero, List.push_toArray, List.append_toArray, List.nil_append, List.cons_append]
  have HS := hide hS
  have HB := hide hb
  have HY := hide hY
  have HT := hide hT
  have HE := hide he
  clear hS hb hY hT hM he
  gi_wp2_with fail
  refine ⟨trivial, rfl, (callsIn_wide.2 (keysOf _ _)).mono ?_⟩
  rintro e u ⟨rfl, rfl⟩
  have bu := (Below.refl _ W).alloc (Nat.le_refl _) (.cells #[.map (some b)] 52)
  generalize W.alloc (.cells #[.map (some b)] 52) = U at SK bu ⊢
  gi_wp2_with fail
  refine ⟨trivial, rfl, (callsIn_wide.2 SK.out).mono ?_⟩
  rintro e V ⟨v, ks, rfl, hrow, hpw, hkl, hmem, hbV⟩
  have J0 := HB.out _ _ _ h0 (bu.trans (hbV.mono bu.size))
  have KP := hide hpw
  have KM : Hid (∀ x, (∃ m ∈ es, txt m.2 = x) → x ∈ ks) := fun x hx => (hmem x).2 hx
  have KX : Hid (∀ x ∈ ks, x.length ≤ 1000) := fun x hx => by
    obtain ⟨m, hm, e⟩ := (hmem x).1 hx
    have := HE.out m hm
    rw [← e]
    unfold txt
    simp
    omega
  clear SK bu hbV hpw hmem hc h0 HE
  rcases hrow.2 with ⟨rfl, hz⟩ | ⟨gb, cap, cur, rfl, hbase, hgb, r1, r2, r3, r4⟩
  · obtain rfl : ks = [] := List.length_eq_zero_iff.1 hz
    have e0 : 0 = L.length := live_end HT.out KP.out KM.out (j := 0) rfl (Nat.zero_le _)
    have eL : Hid (L = []) := List.length_eq_zero_iff.1 e0.symm
    clear hrow hz hkl e0
    gi_wp2
    gi_loopw [9] (fun i wr => i = .int .i64 0 ∧ J [] wr) (fun _ _ => 0)
    case atStart => exact ⟨rfl, J0⟩
    case round =>
      obtain ⟨rfl, hJs⟩ := hrel
      gi_wp2
      go_end0
      exact ⟨⟨_, rfl⟩, .inl ⟨[], by rw [eL.out]; rfl, hJs⟩⟩
  obtain ⟨n, en⟩ : ∃ n, ks.length = n := ⟨_, rfl⟩
  have EN := hide en
  have R4 := hide r4
  have HG := hide hgb
  rw [en] at r1 hkl
  unfold maxLen at r2
  rw [en]
  clear hrow r3 r4 hgb en hbase
  gi_wp2
  gi_loopw [9] (fun i wr => ∃ (k : Nat) (pre : List Part), k ≤ n ∧ i = .int .i64 k ∧ Hid (J pre wr) ∧ Hid (pre.map Part.mono = L.take pre.length ∧ pre.length ≤ L.length ∧ live es (ks.take k) = (L.take pre.length).map fun m => txt m.2) ∧ Hid (wr.heap[gb]? = some (.cells cur 9 (0, 0)))) (fun i _ => n - (intOf i).toNat)
  case atStart => exact ⟨0, [], by omega, rfl, J0, ⟨rfl, Nat.zero_le _, rfl⟩, HG⟩
  case round =>
    obtain ⟨k, pre, hk, rfl, hJs, HP, HC⟩ := hrel
    clear J0 HG
    by_cases hlt : k < n
    case neg =>
      obtain rfl : k = n := by omega
      have e1 : ks.take k = ks := by rw [← EN.out, List.take_length]
      have e2 := HP.out.2.2
      rw [e1] at e2
      have e3 := live_end HT.out KP.out KM.out e2 HP.out.2.1
      have e4 : Hid (pre.map Part.mono = L) := show _ = _ by rw [HP.out.1, e3, List.take_length]
      clear e1 e2 e3 HC
      gi_wp2
      go_end0
      exact ⟨⟨_, rfl⟩, .inl ⟨pre, e4.out, hJs.out⟩⟩
    obtain ⟨x, ex⟩ : ∃ x, ks[k]? = some x := ⟨_, List.getElem?_eq_getElem (by rw [EN.out]; exact hlt)⟩
    have XL := hide (KX.out x (List.mem_of_getElem? ex))
    have cx : wr.cell? ⟨gb, k, none⟩ = some (.string ⟨x.toArray⟩) := by
      have hu : (ks.map encStr)[k]? = some (.string ⟨x.toArray⟩) := by simp [ex, encStr]
      rw [← R4.out, List.getElem?_take, if_pos (by rw [EN.out]; omega)] at hu
      unfold World.cell?
      simp only [HC.out]
      simpa using hu
    have lk : ((k : Nat) : Int) < (n : Nat) := by omega
    have hHeld : wr.drew.cell? ⟨Bp, 0, none⟩ = some (.map (some b)) ∧ MapOf wr.drew b es := by
      obtain ⟨s1, s2⟩ := HS.out _ _ hJs.out
      exact ⟨s1, s2.below (Below.refl _ _).drew⟩
    have EX := hide ex
    obtain ⟨t, et⟩ : ∃ t, totE es x = t := ⟨_, rfl⟩
    have ET := hide et
    clear ex et
    by_cases ht : t = 0
    · subst ht
      have HP2 : Hid (pre.map Part.mono = L.take pre.length ∧ pre.length ≤ L.length ∧ live es (ks.take (k + 1)) = (L.take pre.length).map fun m => txt m.2) := ⟨HP.out.1, HP.out.2.1, by rw [live_snoc EX.out, if_neg (by rw [ET.out]; decide), List.append_nil]; exact HP.out.2.2⟩
      have JD : Hid (J pre wr.drew) := HB.out _ _ _ hJs.out (Below.refl _ _).drew
      gi_wp2
      refine PhaseIn.region (S := fun w' => w'.cell? ⟨Bp, 0, none⟩ = some (.map (some b)) ∧ MapOf w' b es) 15 (by kernel_rfl) ?_
      refine PhaseIn.takeD (i := 0) (v := ?_) [0, 2, 3, 4, 5, 6, 7, 8, 9, 10, 11, 12, 13, 14] 13 rfl (by rfl) (by kernel_rfl) (by kernel_rfl) (by kernel_rfl) (by kernel_rfl) (by kernel_rfl) (fun _ _ _ h => h) (Or.inl ⟨by kernel_rfl, ?_⟩) hHeld ?_
      rotate_left
      · intro w' hSw
        (try dsimp only at hSw)
        go_simp
        first | done | with_reducible rfl
      try simp only [Act.put, List.setIfInBounds_toArray, List.set]
      refine PhaseIn.takeD (i := 1) (v := ?_) [1, 2, 3, 4, 5, 6, 7, 8, 9, 10, 11, 12, 13, 14] 14 rfl (by rfl) (by kernel_rfl) (by kernel_rfl) (by kernel_rfl) (by kernel_rfl) (by kernel_rfl) (fun _ _ _ h => h) (Or.inl ⟨by kernel_rfl, ?_⟩) hHeld ?_
      rotate_left
      · intro w' hSw
        (try dsimp only at hSw)
        go_simp
        first | done | with_reducible rfl
      try simp only [Act.put, List.setIfInBounds_toArray, List.set]
      refine PhaseIn.takeD (i := 2) (v := .int .i64 0) [2, 3, 4, 5, 6, 7, 8, 9, 10, 11, 12, 13, 14] 15 rfl (by rfl) (by kernel_rfl) (by kernel_rfl) (by kernel_rfl) (by kernel_rfl) (by kernel_rfl) (fun _ _ _ h => h) (Or.inl ⟨by kernel_rfl, ?_⟩) hHeld ?_
      · intro w' hSw
        (try dsimp only at hSw)
        have LK := look hSw.2 x XL.out
        rw [ET.out] at LK
        go_simp
        first | done | with_reducible rfl
      try simp only [Act.put, List.setIfInBounds_toArray, List.set]
      refine PhaseIn.takeD (i := 3) (v := ?_) [3, 4, 5, 6, 7, 8, 9, 10, 11, 12, 13, 14] 16 rfl (by rfl) (by kernel_rfl) (by kernel_rfl) (by kernel_rfl) (by kernel_rfl) (by kernel_rfl) (fun _ _ _ h => h) (Or.inl ⟨by kernel_rfl, ?_⟩) hHeld ?_
      rotate_left
      · intro w' hSw
        (try dsimp only at hSw)
        go_simp
        first | done | with_reducible rfl
      try simp only [Act.put, List.setIfInBounds_toArray, List.set]
      refine PhaseIn.takeD (i := 4) (v := ?_) [4, 5, 6, 7, 8, 9, 10, 11, 12, 13, 14] 17 rfl (by rfl) (by kernel_rfl) (by kernel_rfl) (by kernel_rfl) (by kernel_rfl) (by kernel_rfl) (fun _ _ _ h => h) (Or.inl ⟨by kernel_rfl, ?_⟩) hHeld ?_
      rotate_left
      · intro w' hSw
        (try dsimp only at hSw)
        go_simp
        first | done | with_reducible rfl
      try simp only [Act.put, List.setIfInBounds_toArray, List.set]
      refine PhaseIn.takeD (i := 5) (v := undef) [5, 12, 13, 14] 18 rfl (by rfl) (by kernel_rfl) (by kernel_rfl) (by kernel_rfl) (by kernel_rfl) (by kernel_rfl) (fun _ _ _ h => h) (Or.inr ⟨by kernel_rfl, rfl⟩) hHeld ?_
      try simp only [Act.put, List.setIfInBounds_toArray, List.set]
      refine PhaseIn.takeD (i := 6) (v := undef) [6, 8, 11, 12, 13, 14] 19 rfl (by rfl) (by kernel_rfl) (by kernel_rfl) (by kernel_rfl) (by kernel_rfl) (by kernel_rfl) (fun _ _ _ h => h) (Or.inr ⟨by kernel_rfl, rfl⟩) hHeld ?_
      try simp only [Act.put, List.setIfInBounds_toArray, List.set]
      refine PhaseIn.takeD (i := 7) (v := undef) [7, 8, 11, 12, 13, 14] 20 rfl (by rfl) (by kernel_rfl) (by kernel_rfl) (by kernel_rfl) (by kernel_rfl) (by kernel_rfl) (fun _ _ _ h => h) (Or.inr ⟨by kernel_rfl, rfl⟩) hHeld ?_
      try simp only [Act.put, List.setIfInBounds_toArray, List.set]
      refine PhaseIn.takeD (i := 8) (v := undef) [8, 11, 12, 13, 14] 21 rfl (by rfl) (by kernel_rfl) (by kernel_rfl) (by kernel_rfl) (by kernel_rfl) (by kernel_rfl) (fun _ _ _ h => h) (Or.inr ⟨by kernel_rfl, rfl⟩) hHeld ?_
      try simp only [Act.put, List.setIfInBounds_toArray, List.set]
      refine PhaseIn.takeD (i := 9) (v := undef) [9, 10, 11, 12, 13, 14] 22 rfl (by rfl) (by kernel_rfl) (by kernel_rfl) (by kernel_rfl) (by kernel_rfl) (by kernel_rfl) (fun _ _ _ h => h) (Or.inr ⟨by kernel_rfl, rfl⟩) hHeld ?_
      try simp only [Act.put, List.setIfInBounds_toArray, List.set]
      refine PhaseIn.takeD (i := 10) (v := undef) [10, 11, 12, 13, 14] 23 rfl (by rfl) (by kernel_rfl) (by kernel_rfl) (by kernel_rfl) (by kernel_rfl) (by kernel_rfl) (fun _ _ _ h => h) (Or.inr ⟨by kernel_rfl, rfl⟩) hHeld ?_
      try simp only [Act.put, List.setIfInBounds_toArray, List.set]
      refine PhaseIn.takeD (i := 11) (v := undef) [11, 12, 13, 14] 24 rfl (by rfl) (by kernel_rfl) (by kernel_rfl) (by kernel_rfl) (by kernel_rfl) (by kernel_rfl) (fun _ _ _ h => h) (Or.inr ⟨by kernel_rfl, rfl⟩) hHeld ?_
      try simp only [Act.put, List.setIfInBounds_toArray, List.set]
      refine PhaseIn.takeD (i := 12) (v := undef) [12, 13, 14] 25 rfl (by rfl) (by kernel_rfl) (by kernel_rfl) (by kernel_rfl) (by kernel_rfl) (by kernel_rfl) (fun _ _ _ h => h) (Or.inr ⟨by kernel_rfl, rfl⟩) hHeld ?_
      try simp only [Act.put, List.setIfInBounds_toArray, List.set]
      refine PhaseIn.takeD (i := 13) (v := undef) [13, 14] 26 rfl (by rfl) (by kernel_rfl) (by kernel_rfl) (by kernel_rfl) (by kernel_rfl) (by kernel_rfl) (fun _ _ _ h => h) (Or.inr ⟨by kernel_rfl, rfl⟩) hHeld ?_
      try simp only [Act.put, List.setIfInBounds_toArray, List.set]
      refine PhaseIn.takeD (i := 14) (v := ?_) [14] 27 rfl (by rfl) (by kernel_rfl) (by kernel_rfl) (by kernel_rfl) (by kernel_rfl) (by kernel_rfl) (fun _ _ _ h => h) (Or.inl ⟨by kernel_rfl, ?_⟩) hHeld ?_
      rotate_left
      · intro w' hSw
        (try dsimp only at hSw)
        go_simp
        first | done | with_reducible rfl
      try simp only [Act.put, List.setIfInBounds_toArray, List.set]
      refine PhaseIn.done (by kernel_rfl) ?_ _
      gi_wp2
      go_roundw
      case rel => exact ⟨k + 1, pre, by omega, by simp, JD, HP2, HC⟩
      case measure => simp [intOf]; omega
    · obtain ⟨m, em, e1, e2, e3⟩ := live_next HT.out KP.out KM.out EX.out HP.out.2.2 HP.out.2.1 (by rw [ET.out]; exact ht)
      have tn : (t != 0) = true := by simp [ht]
      have JD : Hid (J pre wr.drew) := HB.out _ _ _ hJs.out (Below.refl _ _).drew
      have AO := hide (atomsOf m.2 wr.drew e3)
      rw [e1] at AO
      have e4 : m.1 = t := e2.trans ET.out
      have ME : Hid (L[pre.length]? = some (t, m.2)) := show _ = _ by rw [em, ← e4]
      have HC2 : Hid (wr.drew.heap[gb]? = some (.cells cur 9 (0, 0))) := HC.out
      have HL : Hid (live es (ks.take (k + 1)) = (L.take (pre.length + 1)).map fun m => txt m.2) := show _ = _ by
        rw [live_snoc EX.out, if_pos (by rw [ET.out]; exact ht), HP.out.2.2, List.take_add_one, em, List.map_append]
        simp [e1]
      obtain ⟨ys, ey⟩ : ∃ ys, m.2 = ys := ⟨_, rfl⟩
      rw [ey] at AO ME
      clear em e1 e2 e3 e4 ey
      gi_wp2
      refine PhaseIn.region (S := fun w' => w'.cell? ⟨Bp, 0, none⟩ = some (.map (some b)) ∧ MapOf w' b es) 12 (by kernel_rfl) ?_
      generalize hwd : wr.drew = wd at hHeld JD AO HC2 ⊢
      clear hwd
      refine PhaseIn.takeD (i := 0) (v := ?_) [0, 2, 3, 4, 5, 6, 7, 8, 9, 10, 11, 12, 13, 14] 13 rfl (by rfl) (by kernel_rfl) (by kernel_rfl) (by kernel_rfl) (by kernel_rfl) (by kernel_rfl) (fun _ _ _ h => h) (Or.inl ⟨by kernel_rfl, ?_⟩) hHeld ?_
      rotate_left
      · intro w' hSw
        (try dsimp only at hSw)
        go_simp
        first | done | with_reducible rfl
      try simp only [Act.put, List.setIfInBounds_toArray, List.set]
      refine PhaseIn.takeD (i := 1) (v := ?_) [1, 2, 3, 4, 5, 6, 7, 8, 9, 10, 11, 12, 13, 14] 14 rfl (by rfl) (by kernel_rfl) (by kernel_rfl) (by kernel_rfl) (by kernel_rfl) (by kernel_rfl) (fun _ _ _ h => h) (Or.inl ⟨by kernel_rfl, ?_⟩) hHeld ?_
      rotate_left
      · intro w' hSw
        (try dsimp only at hSw)
        go_simp
        first | done | with_reducible rfl
      try simp only [Act.put, List.setIfInBounds_toArray, List.set]
      refine PhaseIn.takeD (i := 2) (v := .int .i64 t) [2, 3, 4, 5, 6, 7, 8, 9, 10, 11, 12, 13, 14] 15 rfl (by rfl) (by kernel_rfl) (by kernel_rfl) (by kernel_rfl) (by kernel_rfl) (by kernel_rfl) (fun _ _ _ h => h) (Or.inl ⟨by kernel_rfl, ?_⟩) hHeld ?_
      · intro w' hSw
        (try dsimp only at hSw)
        have LK := look hSw.2 x XL.out
        rw [ET.out] at LK
        go_simp
        first | done | with_reducible rfl
      try simp only [Act.put, List.setIfInBounds_toArray, List.set]
      refine PhaseIn.takeD (i := 3) (v := ?_) [3, 4, 5, 6, 7, 8, 9, 10, 11, 12, 13, 14] 16 rfl (by rfl) (by kernel_rfl) (by kernel_rfl) (by kernel_rfl) (by kernel_rfl) (by kernel_rfl) (fun _ _ _ h => h) (Or.inl ⟨by kernel_rfl, ?_⟩) hHeld ?_
      rotate_left
      · intro w' hSw
        (try dsimp only at hSw)
        go_simp
        first | done | with_reducible rfl
      try simp only [Act.put, List.setIfInBounds_toArray, List.set]
      refine PhaseIn.takeD (i := 4) (v := ?_) [4, 5, 6, 7, 8, 9, 10, 11, 12, 13, 14] 17 rfl (by rfl) (by kernel_rfl) (by kernel_rfl) (by kernel_rfl) (by kernel_rfl) (by kernel_rfl) (fun _ _ _ h => h) (Or.inl ⟨by kernel_rfl, ?_⟩) hHeld ?_
      rotate_left
      · intro w' hSw
        (try dsimp only at hSw)
        go_simp
        first | done | with_reducible rfl
      try simp only [Act.put, List.setIfInBounds_toArray, List.set]
      refine PhaseIn.takeD (i := 5) (v := ?_) [5, 12, 13, 14] 18 rfl (by rfl) (by kernel_rfl) (by kernel_rfl) (by kernel_rfl) (by kernel_rfl) (by kernel_rfl) (fun _ _ _ h => h) (Or.inl ⟨by kernel_rfl, ?_⟩) hHeld ?_
      rotate_left
      · intro w' hSw
        (try dsimp only at hSw)
        go_simp
        first | done | with_reducible rfl
      try simp only [Act.put, List.setIfInBounds_toArray, List.set]
      refine PhaseIn.takeD (i := 6) (v := ?_) [6, 8, 11, 12, 13, 14] 19 rfl (by rfl) (by kernel_rfl) (by kernel_rfl) (by kernel_rfl) (by kernel_rfl) (by kernel_rfl) (fun _ _ _ h => h) (Or.inl ⟨by kernel_rfl, ?_⟩) hHeld ?_
      rotate_left
      · intro w' hSw
        (try dsimp only at hSw)
        go_simp
        first | done | with_reducible rfl
      try simp only [Act.put, List.setIfInBounds_toArray, List.set]
      refine PhaseIn.takeD (i := 7) (v := ?_) [7, 8, 11, 12, 13, 14] 20 rfl (by rfl) (by kernel_rfl) (by kernel_rfl) (by kernel_rfl) (by kernel_rfl) (by kernel_rfl) (fun _ _ _ h => h) (Or.inl ⟨by kernel_rfl, ?_⟩) hHeld ?_
      rotate_left
      · intro w' hSw
        (try dsimp only at hSw)
        go_simp
        first | done | with_reducible rfl
      try simp only [Act.put, List.setIfInBounds_toArray, List.set]
      refine PhaseIn.takeD (i := 8) (v := .int .i64 t) [8, 11, 12, 13, 14] 21 rfl (by rfl) (by kernel_rfl) (by kernel_rfl) (by kernel_rfl) (by kernel_rfl) (by kernel_rfl) (fun _ _ _ h => h) (Or.inl ⟨by kernel_rfl, ?_⟩) hHeld ?_
      · intro w' hSw
        (try dsimp only at hSw)
        have LK := look hSw.2 x XL.out
        rw [ET.out] at LK
        go_simp
        first | done | with_reducible rfl
      try simp only [Act.put, List.setIfInBounds_toArray, List.set]
      refine PhaseIn.takeD (i := 9) (v := ?_) [9, 10, 11, 12, 13, 14] 22 rfl (by rfl) (by kernel_rfl) (by kernel_rfl) (by kernel_rfl) (by kernel_rfl) (by kernel_rfl) (fun _ _ _ h => h) (Or.inl ⟨by kernel_rfl, ?_⟩) hHeld ?_
      rotate_left
      · intro w' hSw
        (try dsimp only at hSw)
        go_simp
        first | done | with_reducible rfl
      try simp only [Act.put, List.setIfInBounds_toArray, List.set]
      refine PhaseIn.one (i := 10) (by kernel_rfl) rfl (by kernel_rfl) (fun K hK => ?_)
      unfold Oper.wpIn
      refine ⟨fun _ _ => trivial, ?_⟩
      go_simp
      refine ⟨rfl, (callsIn_wide.2 AO.out).mono ?_⟩
      rintro e w2 ⟨q, m', k', rfl, hO, hb2⟩
      refine hK _ _ (fun _ => ⟨cell_below hb2 hHeld.1, hHeld.2.below hb2⟩) ?_
      have hHeld2 : w2.cell? ⟨Bp, 0, none⟩ = some (.map (some b)) ∧ MapOf w2 b es := ⟨cell_below hb2 hHeld.1, hHeld.2.below hb2⟩
      have HC3 : Hid (w2.heap[gb]? = some (.cells cur 9 (0, 0))) := (hb2.block gb (lt_of_some HC2.out)).trans HC2.out
      have pe : (pre ++ [(⟨t, q, m', k', ys⟩ : Part)]).map Part.mono = L.take (pre.length + 1) := by
        rw [List.map_append, HP.out.1, List.take_add_one, ME.out]
        rfl
      have ll : pre.length + 1 ≤ L.length := (List.getElem?_eq_some_iff.1 ME.out).1
      have HP2 : Hid ((pre ++ [(⟨t, q, m', k', ys⟩ : Part)]).map Part.mono = L.take (pre ++ [(⟨t, q, m', k', ys⟩ : Part)]).length ∧ (pre ++ [(⟨t, q, m', k', ys⟩ : Part)]).length ≤ L.length ∧ live es (ks.take (k + 1)) = (L.take (pre ++ [(⟨t, q, m', k', ys⟩ : Part)]).length).map fun m => txt m.2) := by
        rw [show (pre ++ [(⟨t, q, m', k', ys⟩ : Part)]).length = pre.length + 1 by simp]
        exact ⟨pe, ll, HL.out⟩
      obtain ⟨fn, tmps, assign, body, hy, hR⟩ := HY.out pre ⟨t, q, m', k', ys⟩ wd w2 JD.out hb2 ⟨by rw [pe]; exact List.take_prefix _ _, hO⟩
      simp only [Part.val] at hy
      clear hK K hHeld JD AO HC2 hb2 hO pe ll
      try simp only [Act.put, List.setIfInBounds_toArray, List.set]
      refine PhaseIn.takeD (i := 11) (v := ?_) [11, 12, 13, 14] 24 rfl (by rfl) (by kernel_rfl) (by kernel_rfl) (by kernel_rfl) (by kernel_rfl) (by kernel_rfl) (fun _ _ _ h => h) (Or.inl ⟨by kernel_rfl, ?_⟩) hHeld2 ?_
      rotate_left
      · intro w' hSw
        (try dsimp only at hSw)
        go_simp
        first | done | with_reducible rfl
      try simp only [Act.put, List.setIfInBounds_toArray, List.set]
      refine PhaseIn.one (i := 12) (by kernel_rfl) rfl (by kernel_rfl) (fun K hK => ?_)
      unfold Oper.wpIn
      refine ⟨fun _ _ => trivial, ?_⟩
      go_simp
      refine ⟨rfl, hR.mono ?_⟩
      rintro e W3 (⟨rfl, hJ3, hkp⟩ | ⟨rfl, hJx3⟩)
      · refine hK _ _ (fun h => absurd h (by omega)) ?_
        have HC4 : Hid (W3.heap[gb]? = some (.cells cur 9 (0, 0))) := hkp _ _ _ _ rfl HC3.out
        have J3 := hide hJ3
        clear hK K hHeld2 HC3 hy hR hkp hJ3
        try simp only [Act.put, List.setIfInBounds_toArray, List.set]
        refine PhaseIn.late (i := 13) (v := .bool false) (by kernel_rfl) rfl 26 (by rfl) (by omega) (Or.inl ⟨by kernel_rfl, ?_⟩) ?_
        · intro w' _
          go_simp
        try simp only [Act.put, List.setIfInBounds_toArray, List.set]
        refine PhaseIn.late (i := 14) (v := .bool false) (by kernel_rfl) rfl 27 (by rfl) (by omega) (Or.inl ⟨by kernel_rfl, ?_⟩) ?_
        · intro w' _
          go_simp
        try simp only [Act.put, List.setIfInBounds_toArray, List.set]
        refine PhaseIn.done (by kernel_rfl) ?_ _
        gi_wp2
        go_roundw
        case rel => exact ⟨k + 1, pre ++ [(⟨t, q, m', k', ys⟩ : Part)], by omega, by simp, J3, HP2, HC4⟩
        case measure => simp [intOf]; omega
      · refine hK _ _ (fun h => absurd h (by omega)) ?_
        have J3 := hide hJx3
        clear hK K hHeld2 HC3 hy hR hJx3
        try simp only [Act.put, List.setIfInBounds_toArray, List.set]
        refine PhaseIn.late (i := 13) (v := .bool true) (by kernel_rfl) rfl 26 (by rfl) (by omega) (Or.inl ⟨by kernel_rfl, ?_⟩) ?_
        · intro w' _
          go_simp
        try simp only [Act.put, List.setIfInBounds_toArray, List.set]
        refine PhaseIn.late (i := 14) (v := .bool true) (by kernel_rfl) rfl 27 (by rfl) (by omega) (Or.inl ⟨by kernel_rfl, ?_⟩) ?_
        · intro w' _
          go_simp
        try simp only [Act.put, List.setIfInBounds_toArray, List.set]
        refine PhaseIn.done (by kernel_rfl) ?_ _
        gi_wp2
        refine bodyPost_ret (results_none rfl _ _ _) rfl ?_
        exact ⟨⟨_, rfl⟩, .inr ⟨_, J3.out⟩⟩
end Go.Proofs.YtckhfpaicnjknaaGreat.Pol
