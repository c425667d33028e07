/-
  At every two codes of bytes the law FnPolUnder returns true (P27: if all atoms of a sum are below a number what it comes to hangs on the first so many words alone); no condition.
  The frame (the steps lifted, over, proved) is the guide's shell, written by its program; the walk and the lemmas ahead of it are mine.
-/
import Derived.Test.YtckhfpaicnjknaaRows
import Derived.WalkKit
import Derived.ProofKit
import Derived.OpenShut
import Derived.Test.YtckhfpaicnjknaaPolSi
import Derived.Test.YtckhfpaicnjknaaDrawPf
import Derived.Test.YtckhfpaicnjknaaPolL
import Derived.Test.YtckhfpaicnjknaaPolV
import Derived.ShutString
import Derived.ChangeOld
import Derived.Below
namespace Go.Proofs.Ytckhfpaicnjknaa.fnPolUnder
open Go.ChangeShapes Go.WideShapes Go.ChangeAt Go.RowKit
open Go.ChangeMaps (open_string shut_string)
set_option linter.unusedVariables false

theorem own : ownKnob Try.prog.godebug = none := by kernel_rfl
theorem laidOut : laidOutB Try.prog = true := by kernel_rfl

def IsRow (k : IntKind) (w : World) (a : Option Addr) (len cap : Nat) (zs : List Int) : Prop :=
  (a = none ∧ len = 0 ∧ cap = 0 ∧ zs = []) ∨
  ∃ x, a = some x ∧ len ≤ cap ∧ cap ≤ maxLen ∧ zs.length = cap ∧ (∀ i, i < zs.length → w.cell? (x.add i) = some (.int k (zs.getD i 0))) ∧ ∀ n ∈ zs, (Lit.int k n).wf = true

open IntS Pol
set_option linter.unusedVariables false
set_option linter.unusedSimpArgs false
theorem row_take {w : World} {B g m c N : Nat} {ws : List Int} (h : Row w B (.slice (some ⟨g, 0, none⟩) m c) ws) (hN : N ≤ m) : Row w B (.slice (some ⟨g, 0, none⟩) N c) (ws.take N) := by
  obtain ⟨a, cap, off, h1, h2, h3, hz, h4⟩ := h
  injection h1 with i1 i2 i3
  subst i1 i2 i3
  have el : (ws.take N).length = N := by simp; omega
  refine ⟨some ⟨g, 0, none⟩, c, off, by rw [el], by omega, h3, (fun e => by cases e), ?_⟩
  rcases h4 with rfl | ⟨e, hc⟩
  · left; simp
  · refine Or.inr ⟨e, fun i x hx => hc i x ?_⟩
    have hi := (List.getElem?_eq_some_iff.1 hx).1
    rw [el] at hi
    rw [List.getElem?_take_of_lt hi] at hx
    exact hx
theorem row_cap {w : World} {B m c : Nat} {q : Option Addr} {ws : List Int} (h : Row w B (.slice q m c) ws) : m ≤ c ∧ c ≤ maxLen := by
  obtain ⟨a, cap, off, h1, h2, h3, _⟩ := h
  injection h1 with i1 i2 i3
  subst i2 i3
  exact ⟨h2, h3⟩
theorem wordsB_of {ws : List Int} (h : ∀ x ∈ ws, 0 ≤ x ∧ x < 65536) : wordsB ws = true := by
  unfold wordsB
  rw [List.all_eq_true]
  exact fun x hx => Wrd.wok_t (h x hx).1 (h x hx).2
theorem under_words {ws : List Int} {N : Nat} (h : ∀ x ∈ ws, 0 ≤ x ∧ x < 65536) : ∀ x ∈ ws.take N ++ [1, 2, 3], 0 ≤ x ∧ x < 65536 := fun x hx => by
  rcases List.mem_append.1 hx with hx | hx
  · exact h x (List.mem_of_mem_take hx)
  · simp at hx
    omega

set_option maxRecDepth 8000 in
set_option maxHeartbeats 16000000 in
theorem walk (a0 : Option Addr) (len0 cap0 : Nat) (z0 : List Int) (a1 : Option Addr) (len1 cap1 : Nat) (z1 : List Int) (w : World) (w0 : IsRow .u8 w a0 len0 cap0 z0) (w1 : IsRow .u8 w a1 len1 cap1 z1) :
    Calls Try.prog 6 #[.slice a0 len0 cap0, .slice a1 len1 cap1] w fun e w' => e = .returned (.bool true) ∧ Below w.heap.size w w' := by
  obtain ⟨hlc, hm, hc⟩ := Draw.code_row w a0 len0 cap0 z0 w0
  obtain ⟨hlc1, hm1, hc1⟩ := Draw.code_row w a1 len1 cap1 z1 w1
  by_cases hl : 1048576 < len0
  · unfold maxLen at hm hm1
    go_enter Try.func6, Try.ntmps6
    go_wp2
    go_ret
    exact ⟨rfl, Below.refl _ _⟩
  by_cases hl1 : 1048576 < len1
  · unfold maxLen at hm hm1
    go_enter Try.func6, Try.ntmps6
    go_wp2
    go_ret
    exact ⟨rfl, Below.refl _ _⟩
  clear w0 w1
  go_enter Try.func6, Try.ntmps6
  go_wp2_with fail
  refine (Draw.drawUnder a0 len0 cap0 _ hlc hm hc).mono ?_
  rintro e va ⟨u1, k1, ps, nn, B1, rfl, r1, n0, n6, hb⟩
  have S := hide (Pit.new hb)
  have NB := hide (And.intro n0 n6)
  replace hc1 := hide ((hc1.below hb).below (Draw.alloc_below va (.cells #[.slice u1 ps.length k1] 25)))
  clear hb hc hm hlc n0 n6
  have S2 := hide (Pit.add S.out r1)
  clear S r1
  have S := S2
  clear S2
  go_wp2_with fail
  generalize hZ0 : va.heap.size = X1 at S ⊢
  clear hZ0
  generalize (va.alloc (.cells #[.slice u1 ps.length k1] 25)) = wv1 at S hc1 ⊢
  refine (Draw.drawEval a1 len1 cap1 _ hlc1 hm1 hc1.out).mono ?_
  rintro e vb ⟨u3, k3, pe, g1, nx, c2, xs, B1, B2, rfl, lx, n7, r2, rr, hb⟩
  have HX := hide (And.intro lx n7)
  clear hc1 hm1 hlc1 lx n7
  have S2 := hide (S.out.below hb)
  clear S hb
  have S := S2
  clear S2
  have S2 := hide (S.out.addRow rr)
  clear S rr
  have S := S2
  clear S2
  have S2 := hide (Pit.add S.out r2)
  clear S r2
  have S := S2
  clear S2
  have zP := (S.out.box (X1, .slice u1 ps.length k1, ps) (List.mem_cons_of_mem _ List.mem_cons_self)).1.cell 0 _ rfl
  go_wp2_with fail
  clear zP
  generalize hZ0 : vb.heap.size = X2 at S ⊢
  clear hZ0
  generalize (vb.alloc (.cells #[.slice u3 pe.length k3] 25)) = wv2 at S ⊢
  obtain ⟨un, eun⟩ : ∃ un, underB ps nn = un := ⟨_, rfl⟩
  have EU := hide eun
  clear eun
  have nb : (un != un) = false := by cases un <;> rfl
  obtain ⟨D0, d0⟩ := (S.out.box (X1, .slice u1 ps.length k1, ps) (List.mem_cons_of_mem _ List.mem_cons_self)).2
  refine (implUnder ps  nn D0  _ _ d0 ).mono ?_
  rintro e wv3 ⟨he, hb⟩
  clear d0 
  rw [EU.out] at he
  subst he
  have S2 := hide (S.out.below hb)
  clear S hb
  have S := S2
  clear S2
  have zP := (S.out.box (X1, .slice u1 ps.length k1, ps) (List.mem_cons_of_mem _ List.mem_cons_self)).1.cell 0 _ rfl
  go_wp2_with fail
  clear zP
  obtain ⟨D0, d0⟩ := (S.out.box (X1, .slice u1 ps.length k1, ps) (List.mem_cons_of_mem _ List.mem_cons_self)).2
  refine (specUnder ps  nn D0  _ _ d0 ).mono ?_
  rintro e wv4 ⟨he, hb⟩
  clear d0 
  rw [EU.out] at he
  subst he
  have S2 := hide (S.out.below hb)
  clear S hb
  have S := S2
  clear S2
  go_wp2_with fail
  clear nb
  obtain ⟨E0, e0⟩ := (S.out.row ((.slice (some ⟨g1, 0, none⟩) nx c2), xs) List.mem_cons_self)
  refine (La.laWords xs E0 _ _ e0 (by have := HX.out; omega)).mono ?_
  rintro e ww ⟨g2, c3, B3, rfl, rw0, hb⟩
  clear e0
  have S2 := hide (S.out.below hb)
  clear S hb
  have S := S2
  clear S2
  obtain ⟨ws, ews⟩ : ∃ ws, La.wordsOf xs = ws := ⟨_, rfl⟩
  have WW := hide (La.words_ok xs)
  have WL := hide (show ws.length ≤ 7 by rw [← ews, La.words_len]; have := HX.out; omega)
  rw [ews] at WW rw0 ⊢
  clear ews HX
  have S2 := hide (S.out.addRow rw0)
  clear S rw0
  have S := S2
  clear S2
  obtain ⟨okp, eok⟩ : ∃ okp, okP ps = okp := ⟨_, rfl⟩
  have EK := hide eok
  clear eok
  have zP := (S.out.box (X1, .slice u1 ps.length k1, ps) (List.mem_cons_of_mem _ List.mem_cons_self)).1.cell 0 _ rfl
  go_wp2_with fail
  clear zP
  obtain ⟨D0, d0⟩ := (S.out.box (X1, .slice u1 ps.length k1, ps) (List.mem_cons_of_mem _ List.mem_cons_self)).2
  refine (specOk ps   D0  _ _ d0 ).mono ?_
  rintro e wv5 ⟨he, hb⟩
  clear d0 
  rw [EK.out] at he
  subst he
  have S2 := hide (S.out.below hb)
  clear S hb
  have S := S2
  clear S2
  cases okp with
  | false =>
    go_wp2_with fail
    refine (La.laOk wv5).mono ?_
    rintro e wz ⟨rfl, rfl⟩
    have FIN := hide S.out.bw
    clear S
    go_wp2
    go_ret
    exact ⟨rfl, FIN.out⟩
  | true =>
    cases un with
    | false =>
      go_wp2_with fail
      refine (La.laOk wv5).mono ?_
      rintro e wz ⟨rfl, rfl⟩
      have FIN := hide S.out.bw
      clear S
      go_wp2
      go_ret
      exact ⟨rfl, FIN.out⟩
    | true =>
      by_cases h0 : nn < 0
      · have hx := trivial
        go_wp2_with fail
        refine (La.laOk wv5).mono ?_
        rintro e wz ⟨rfl, rfl⟩
        have FIN := hide S.out.bw
        clear S
        go_wp2
        go_ret
        exact ⟨rfl, FIN.out⟩
      · have hx := trivial
        by_cases h1 : (ws.length : Int) < nn
        · have hx := trivial
          go_wp2_with fail
          refine (La.laOk wv5).mono ?_
          rintro e wz ⟨rfl, rfl⟩
          have FIN := hide S.out.bw
          clear S
          go_wp2
          go_ret
          exact ⟨rfl, FIN.out⟩
        · have hx := trivial
          obtain ⟨N, rfl⟩ : ∃ N : Nat, nn = N := ⟨nn.toNat, by omega⟩
          have hN : N ≤ ws.length := by omega
          have HN := hide hN
          obtain ⟨tk, etk⟩ : ∃ tk, ws.take N = tk := ⟨_, rfl⟩
          have TL := hide (show tk.length = N by rw [← etk]; simp; omega)
          have ETK := hide etk
          obtain ⟨E0, e0⟩ := (S.out.row ((.slice (some ⟨g2, 0, none⟩) ws.length c3), ws) List.mem_cons_self)
          have RT := row_take e0 hN
          obtain ⟨cc1, cc2⟩ := row_cap e0
          unfold maxLen at cc2
          have cc3 : N ≤ c3 := by omega
          rw [etk] at RT
          clear etk e0
          have b1 := Draw.alloc_below wv5 (.cells #[] 3)
          have HR := hide (RT.below b1)
          have HG : Hid ((wv5.alloc (.cells #[] 3)).heap[wv5.heap.size]? = some (.cells #[] 3 (0, 0))) := (MapKept.heap_alloc wv5 (.cells #[] 3)).1
          have HL : Hid (tk.length ≤ 1000000000000) := show _ ≤ _ by rw [TL.out]; have := WL.out; have := HN.out; omega
          clear RT
          have BW := hide b1
          clear b1
          have cb : ((ws.length : Nat) : Int) ≤ 7 := by have := WL.out; omega
          go_wp2_with (at_builtin; refine IntS.wpList_copy rfl _ _ rfl wv5.heap.size HG.out rfl (.slice (some ⟨g2, 0, none⟩) N c3) E0 tk rfl HR.out HL.out ?_; intro g4 c4 w4 ho hw hg1 hg2 hT; rw [TL.out] at ho hw ⊢; have OO := hide ho; have G4 := hide (And.intro hg1 hg2); have BW4 := hide (BW.out.trans (hT.below (Nat.le_refl _) BW.out.size)); clear ho hw hg1 hg2 hT; refine Hid.out ?_)
          refine hide ?_
          clear HR HG BW HL
          have b5 := Draw.alloc_below w4 (.cells #[.int .i64 1, .int .i64 2, .int .i64 3] 3)
          have BW5 := hide (BW4.out.trans (b5.mono BW4.out.size))
          have O5 := hide (show IntS.Own (w4.alloc (.cells #[.int .i64 1, .int .i64 2, .int .i64 3] 3)) wv5.heap.size (.slice (some ⟨g4, 0, none⟩) tk.length c4) tk by rw [TL.out]; exact La.own_below OO.out b5)
          have R5 := hide ((Draw.lit_row (w := w4) (xs := [1, 2, 3]) (by simp)).1)
          have L5 : Hid (tk.length ≤ 1000000) := show _ ≤ _ by rw [TL.out]; have := WL.out; have := HN.out; omega
          have LS := hide (show wv5.heap.size ≤ (w4.alloc (.cells #[.int .i64 1, .int .i64 2, .int .i64 3] 3)).heap.size from BW5.out.size)
          clear OO BW4 b5
          go_wp2_with (at_builtin; refine wpList_join rfl _ _ rfl wv5.heap.size g4 c4 tk (by rw [TL.out]; rfl) O5.out LS.out (.slice (some ⟨w4.heap.size, 0, none⟩) 3 3) w4.heap.size [1, 2, 3] rfl R5.out (by simp) L5.out ?_; intro g6 c6 w6 hR hT; have RX := hide hR.out; have BX := hide (BW5.out.trans (hT.out.below G4.out.1 LS.out)); clear hR hT; refine Hid.out ?_)
          refine hide ?_
          clear O5 R5 L5 LS BW5 G4
          have hb := BX.out
          clear BX
          have S2 := hide (S.out.below hb)
          clear S hb
          have S := S2
          clear S2
          have S2 := hide (S.out.addRow RX.out)
          clear S RX
          have S := S2
          clear S2
          obtain ⟨xl, exl⟩ : ∃ xl, tk ++ [1, 2, 3] = xl := ⟨_, rfl⟩
          have V1 : Hid (evalP ps xl = sumVal ws ps 0) := show _ = _ by
            rw [← exl, ← ETK.out]
            rw [eval_yes EK.out (wordsB_of (under_words WW.out))]
            exact eval_under HN.out EK.out EU.out
          have V2 : Hid (evalP ps ws = sumVal ws ps 0) := eval_yes EK.out (wordsB_of WW.out)
          have el : tk.length + 3 = xl.length := by rw [← exl]; simp
          rw [exl] at S
          rw [el]
          clear exl el EU EK WW
          go_wp2_with fail
          refine (wpIn_wide (n := 0)).1 ?_
          have S2 := hide S.out.drew
          clear S
          refine PhaseIn.region (S := fun v => Pit w [(X2, .slice u3 pe.length k3, pe), (X1, .slice u1 ps.length k1, ps)] [((.slice (some ⟨g6, 0, none⟩) xl.length c6), xl), ((.slice (some ⟨g2, 0, none⟩) ws.length c3), ws), ((.slice (some ⟨g1, 0, none⟩) nx c2), xs)] v) 8 (by kernel_rfl) ?_
          generalize w6.drew = wv6 at *
          have hHeld := S2.out
          clear S2
          refine PhaseIn.takeD (i := 0) (v := ?_) [0, 2, 5, 6, 7] 64 rfl (by rfl) (by kernel_rfl) (by kernel_rfl) (by kernel_rfl) (by kernel_rfl) (by kernel_rfl) (fun _ _ _ h => h) (Or.inl ⟨by kernel_rfl, ?_⟩) hHeld ?_
          rotate_left
          · intro w' hSw
            (try dsimp only at hSw)
            have z0 := (hSw.box (X1, .slice u1 ps.length k1, ps) (List.mem_cons_of_mem _ List.mem_cons_self)).1.cell 0 _ rfl
            go_simp
            first | done | with_reducible rfl
          try simp only [Act.put, List.setIfInBounds_toArray, List.set]
          refine PhaseIn.takeD (i := 1) (v := ?_) [1, 2, 5, 6, 7] 65 rfl (by rfl) (by kernel_rfl) (by kernel_rfl) (by kernel_rfl) (by kernel_rfl) (by kernel_rfl) (fun _ _ _ h => h) (Or.inl ⟨by kernel_rfl, ?_⟩) hHeld ?_
          rotate_left
          · intro w' hSw
            (try dsimp only at hSw)
            go_simp
            first | done | with_reducible rfl
          try simp only [Act.put, List.setIfInBounds_toArray, List.set]
          refine PhaseIn.takeD (i := 3) (v := ?_) [3, 5, 6, 7] 67 rfl (by rfl) (by kernel_rfl) (by kernel_rfl) (by kernel_rfl) (by kernel_rfl) (by kernel_rfl) (fun _ _ _ h => h) (Or.inl ⟨by kernel_rfl, ?_⟩) hHeld ?_
          rotate_left
          · intro w' hSw
            (try dsimp only at hSw)
            have z0 := (hSw.box (X1, .slice u1 ps.length k1, ps) (List.mem_cons_of_mem _ List.mem_cons_self)).1.cell 0 _ rfl
            go_simp
            first | done | with_reducible rfl
          try simp only [Act.put, List.setIfInBounds_toArray, List.set]
          refine PhaseIn.takeD (i := 4) (v := ?_) [4, 5, 6, 7] 68 rfl (by rfl) (by kernel_rfl) (by kernel_rfl) (by kernel_rfl) (by kernel_rfl) (by kernel_rfl) (fun _ _ _ h => h) (Or.inl ⟨by kernel_rfl, ?_⟩) hHeld ?_
          rotate_left
          · intro w' hSw
            (try dsimp only at hSw)
            go_simp
            first | done | with_reducible rfl
          try simp only [Act.put, List.setIfInBounds_toArray, List.set]
          obtain ⟨D0, d0⟩ := (hHeld.box (X1, .slice u1 ps.length k1, ps) (List.mem_cons_of_mem _ List.mem_cons_self)).2
          obtain ⟨E0, e0⟩ := (hHeld.row ((.slice (some ⟨g6, 0, none⟩) xl.length c6), xl) List.mem_cons_self)
          refine PhaseIn.one (i := 2) (by kernel_rfl) rfl (by kernel_rfl) (fun K hK => ?_)
          unfold Oper.wpIn
          refine ⟨fun _ _ => trivial, ?_⟩
          go_simp
          refine ⟨rfl, (callsIn_wide.2 (implEval ps xl D0 E0 _ _ wv6 d0 e0)).mono ?_⟩
          rintro e wv7 ⟨he, hb⟩
          rw [V1.out] at he
          subst he
          clear d0 e0
          replace hHeld := hHeld.below hb
          clear hb
          refine hK _ _ (fun _ => hHeld) ?_
          clear hK K
          try simp only [Act.put, List.setIfInBounds_toArray, List.set]
          obtain ⟨D1, d1⟩ := (hHeld.box (X1, .slice u1 ps.length k1, ps) (List.mem_cons_of_mem _ List.mem_cons_self)).2
          obtain ⟨E1, e1⟩ := (hHeld.row ((.slice (some ⟨g2, 0, none⟩) ws.length c3), ws) (List.mem_cons_of_mem _ List.mem_cons_self))
          refine PhaseIn.one (i := 5) (by kernel_rfl) rfl (by kernel_rfl) (fun K hK => ?_)
          unfold Oper.wpIn
          refine ⟨fun _ _ => trivial, ?_⟩
          go_simp
          refine ⟨rfl, (callsIn_wide.2 (implEval ps ws D1 E1 _ _ wv7 d1 e1)).mono ?_⟩
          rintro e wv8 ⟨he, hb⟩
          rw [V2.out] at he
          subst he
          clear d1 e1
          replace hHeld := hHeld.below hb
          clear hb
          refine hK _ _ (fun _ => hHeld) ?_
          clear hK K
          try simp only [Act.put, List.setIfInBounds_toArray, List.set]
          refine PhaseIn.takeD (i := 6) (v := ?_) [6, 7] 70 rfl (by rfl) (by kernel_rfl) (by kernel_rfl) (by kernel_rfl) (by kernel_rfl) (by kernel_rfl) (fun _ _ _ h => h) (Or.inl ⟨by kernel_rfl, ?_⟩) hHeld ?_
          rotate_left
          · intro w' hSw
            (try dsimp only at hSw)
            go_simp
            first | done | with_reducible rfl
          try simp only [Act.put, List.setIfInBounds_toArray, List.set]
          refine PhaseIn.takeD (i := 7) (v := ?_) [7] 4 rfl (by rfl) (by kernel_rfl) (by kernel_rfl) (by kernel_rfl) (by kernel_rfl) (by kernel_rfl) (fun _ _ _ h => h) (Or.inl ⟨by kernel_rfl, ?_⟩) hHeld ?_
          rotate_left
          · intro w' hSw
            (try dsimp only at hSw)
            go_simp
            first | done | with_reducible rfl
          try simp only [Act.put, List.setIfInBounds_toArray, List.set]
          refine PhaseIn.done (by kernel_rfl) ?_ _
          have S := hide hHeld
          clear hHeld
          have FIN := hide S.out.bw
          clear S
          go_wp2
          go_ret
          exact ⟨rfl, FIN.out⟩

set_option maxRecDepth 100000 in
theorem lifted (os : Os) (started : os.Started) (H : Type) (enc : TypeId × Value → H) :
    ReturnsInHanded {} Try.checked os 6 .any (Rows.fnPolUnderSpec.pre6 enc Try.prog Try.f6 Rows.fnPolUnderRow.domain false) (Rows.fnPolUnderSpec.post enc Try.prog Try.f6 false true false false) := by
  refine returnsInHanded_of_change (C := Try.checked) own started (by kernel_rfl) Try.func6
    (ChangeSpec.witness6 (enc := enc) (C := Try.checked) false ⟨#[], #[.slice none 0 0, .slice none 0 0], []⟩ 8 (by kernel_rfl) (by kernel_rfl) (by kernel_rfl) (by kernel_rfl)) ?_
  intro W base args ds gs before hval0 hW hcnd _
  have hval : ∀ (j : Nat) t v, Try.f6.params[j]? = some t → args[j]? = some v → Value.okWide Try.prog W .any base t v := hval0
  have hW' := hW
  obtain ⟨p, q, hA0, hV, rfl, hfz, hnd⟩ := hW
  have hA : DataW.TrodAll enc Try.prog W 0 (fun _ => true) true Try.f6.params.toList args.toList ds p := hA0
  rw [Try.params6] at hA hval
  obtain ⟨v0, vs0, d0, ds0, p0, q0, hargs, rfl, rfl, h0, r0⟩ := trodAll_cons hA
  obtain ⟨v1, vs1, d1, ds1, p1, q1, rfl, rfl, rfl, h1, r1⟩ := trodAll_cons r0
  obtain ⟨rfl, rfl, rfl⟩ := trodAll_nil r1
  obtain rfl : args = #[v0, v1] := by cases args; simp_all
  obtain ⟨rfl, rfl⟩ := trodVars_none hV
  obtain ⟨a0, len0, cap0, rfl⟩ := okWide_slice Try.underlying22 (hval 0 22 v0 rfl rfl)
  have k0 := h0
  have lt0 : ∀ x ∈ p0, x.block < W.heap.size := by obtain ⟨m, hm⟩ := k0; exact DataW.trod_lt m _ _ _ hm
  obtain ⟨z0, w0⟩ : ∃ zs, IsRow .u8 W a0 len0 cap0 zs := by
    obtain ⟨fuel, hf⟩ := h0
    rcases open_ints Try.underlying22 Try.underlying5 (by kernel_rfl) hf with ⟨hcs, _⟩ | ⟨x, l, c, zs, hcs, _, hl, hm, hz, _, hcell, hwz⟩
    · simp [Value.cells] at hcs
      obtain ⟨rfl, rfl, rfl⟩ := hcs
      exact ⟨[], .inl ⟨rfl, rfl, rfl, rfl⟩⟩
    · simp [Value.cells] at hcs
      obtain ⟨rfl, rfl, rfl⟩ := hcs
      exact ⟨zs, .inr ⟨_, rfl, hl, hm, by simpa using hz, hcell, hwz⟩⟩
  obtain ⟨a1, len1, cap1, rfl⟩ := okWide_slice Try.underlying22 (hval 1 22 v1 rfl rfl)
  have k1 := h1
  have lt1 : ∀ x ∈ p1, x.block < W.heap.size := by obtain ⟨m, hm⟩ := k1; exact DataW.trod_lt m _ _ _ hm
  obtain ⟨z1, w1⟩ : ∃ zs, IsRow .u8 W a1 len1 cap1 zs := by
    obtain ⟨fuel, hf⟩ := h1
    rcases open_ints Try.underlying22 Try.underlying5 (by kernel_rfl) hf with ⟨hcs, _⟩ | ⟨x, l, c, zs, hcs, _, hl, hm, hz, _, hcell, hwz⟩
    · simp [Value.cells] at hcs
      obtain ⟨rfl, rfl, rfl⟩ := hcs
      exact ⟨[], .inl ⟨rfl, rfl, rfl, rfl⟩⟩
    · simp [Value.cells] at hcs
      obtain ⟨rfl, rfl, rfl⟩ := hcs
      exact ⟨zs, .inr ⟨_, rfl, hl, hm, by simpa using hz, hcell, hwz⟩⟩
  clear hA0 hval0
  refine (walk a0 len0 cap0 z0 a1 len1 cap1 z1 W w0 w1).mono fun e W' ⟨he, bel⟩ => ?_
  subst he
  exact ⟨_, rfl, _, _, _, [], _, [], hW', trodAll_mk1 (shut_bool Try.underlying4 _), (trodAll_cons_mk (Below.trod laidOut (by kernel_rfl) (of_decide_eq_true (by kernel_rfl)) k0 bel lt0) (trodAll_cons_mk (Below.trod laidOut (by kernel_rfl) (of_decide_eq_true (by kernel_rfl)) k1 bel lt1) trodAll_mk0)), rfl, bel.frame _, fun h => by cases h⟩

theorem over : Rows.fnPolUnderRow.holds Try.pinned (OpenSpec.ofChange Rows.fnPolUnderSpec) :=
  OpenClaim.holds_of_wide 6 Try.f6 rfl rfl rfl rfl rfl rfl rfl ⟨rfl, rfl, rfl, rfl, rfl⟩ rfl rfl rfl rfl rfl (by kernel_rfl) Try.func6 (by kernel_rfl)
    (of_decide_eq_true (by kernel_rfl)) (by unfold Func.isWrapper; first | (rw [if_pos (by decide +kernel)]; kernel_rfl) | (rw [if_neg (by decide +kernel)]; exact ⟨rfl, rfl⟩))
    (fun os started H enc _ => lifted os started H enc)

theorem proved : Rows.FnPolUnderSaid := over
#print axioms proved
end Go.Proofs.Ytckhfpaicnjknaa.fnPolUnder
