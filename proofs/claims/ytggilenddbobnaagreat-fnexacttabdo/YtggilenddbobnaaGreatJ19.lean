/-
  The atoms of a text: the program's atomsOf.
  slices.Sorted(maps.Keys(ps)): the texts of a map of parts in order.
  The iterator of the parts in order: inOrder's closure.
  The sum of all parts: the program's told.
-/
import Derived.Test.YtggilenddbobnaaGreatAl
import Derived.Test.YtggilenddbobnaaGreatJ18
import Derived.Lib.ConvBytes
import Derived.Test.YtggilenddbobnaaGreatJ08
namespace Go.Proofs.YtggilenddbobnaaGreat.Pol
set_option linter.unusedVariables false
open Go.ChangeShapes Go.WideShapes Go.ChangeAt Go.RowKit Go.Shelf IntS Rng
theorem wpList_pushI {w : World} {ops : Array Oper} {rest : List Oper} {o : Oper} {a : Act} {Q : Exit → Act → World → Prop} (hgd : o.guard = none) (s x : Operand)
 (ho : o.op = .call { callee := .builtin .append, args := #[s, x], argTypes := #[73, 73] })
 (lo : Nat) (v : Value) (l : List Int) (hs : a.eval s = v) (hown : IntS.Own w lo v l) (hlo : lo ≤ w.heap.size)
 (ad : Addr) (y : Int) (hx : a.eval x = .slice (some ad) 1 1) (hc : w.cell? (ad.add 0) = some (.int .i64 y)) (hl : l.length ≤ 1000000)
 (h : ∀ (G cap : Nat) (w' : World), Hid (IntS.Own w' lo (.slice (some ⟨G, 0, none⟩) (l.length + 1) cap) (l ++ [y])) → Hid (Below lo w w') → Hid (∀ (k : Nat) cs t z, w.heap[k]? = some (Obj.cells cs t z) → t ≠ 3 → w'.heap[k]? = some (Obj.cells cs t z)) → wpList Tryz.prog ops Q rest (a.put o.dst (.slice (some ⟨G, 0, none⟩) (l.length + 1) cap)) w') : wpList Tryz.prog ops Q (o :: rest) a w := by
 obtain ⟨i, hi, hz, hsz, hby⟩ := info_int
 have hlt := World.ownsRow.lt hown
 refine wpList_append_own w hgd s x 73 ho lo 3 i _ 1 8 Tryz.underlying73 hi hz hsz hby rfl (by decide) v l.length (vals l) hs hown ad 1 1 [.int .i64 y] hx rfl (fun j u hu => ?_) (fun u hu => by simp at hu; subst hu; rfl) (by unfold maxLen; omega) (by omega) hlo fun v' w' h1 h2 h3 => ?_
 · match j, hu with
   | 0, hu => cases hu; exact hc
   | j + 1, hu => simp at hu
 · have e : vals l ++ [.int .i64 y] = vals (l ++ [y]) := by simp [vals]
   rw [e] at h1
   have g1 : IntS.Own w' lo v' (l ++ [y]) := by
    unfold IntS.Own
    rw [List.length_append]
    exact h1
   obtain ⟨G, cap, rfl, _⟩ := g1.form (fun e2 => by have := (h3.1 e2).2; omega)
   rw [List.length_append] at g1
   have hb : Below lo w w' := (Below.refl lo w).grown h2 hlo (fun k e => (hlt k e).1)
   have hkeep : ∀ (k : Nat) cs t z, w.heap[k]? = some (Obj.cells cs t z) → t ≠ 3 → w'.heap[k]? = some (Obj.cells cs t z) := fun k cs t z hk ht => by
    rw [h2.block k (lt_of_some hk) ?_]
    · exact hk
    · intro e
      obtain ⟨_, h0 | ⟨g, cap, cur, hv, _, hh, _⟩⟩ := hown
      · rw [h0.1] at e; simp [Value.ownBlock] at e
      · rw [hv] at e
        obtain rfl : k = g := by simpa [Value.ownBlock] using e
        rw [hk] at hh
        cases hh
        exact ht rfl
   have := h G cap w' g1 hb hkeep
   simpa [List.length_append] using this
theorem own_nil (w : World) (lo : Nat) : IntS.Own w lo (.slice none 0 0) [] := ⟨rfl, Or.inl ⟨rfl, rfl⟩⟩
theorem ownI_below {w w' : World} {lo : Nat} {v : Value} {l : List Int} (h : IntS.Own w lo v l) (hb : Below w.heap.size w w') : IntS.Own w' lo v l := Srt.owns_mild (B := 0) h (Mild.of_below hb)
set_option maxRecDepth 8000 in
set_option maxHeartbeats 16000000 in
theorem atomsOf (ys : List Int) (w : World) (hf : Fine ys) :
 Calls Tryz.prog 128 #[.string ⟨(txt ys).toArray⟩] w fun e w' => ∃ q m k, e = .returned (.slice q m k) ∧ IntS.Own w' w.heap.size (.slice q m k) ys ∧ Below w.heap.size w w' := by
 obtain ⟨Y, eY⟩ : ∃ Y, ys.map byteOf = Y := ⟨_, rfl⟩
 have et : txt ys = UInt8.ofNat ys.length :: Y := by unfold txt; rw [eY]
 rw [et]
 have hl := hf.len
 obtain ⟨n, en⟩ : ∃ n, ys.length = n := ⟨_, rfl⟩
 have YL : Hid (Y.length = n) := show _ = _ by rw [← eY]; simp [en]
 have EN := hide en
 have EY := hide eY
 have HF := hide hf
 rw [en] at hl ⊢
 obtain ⟨z, ez⟩ : ∃ z, UInt8.ofNat n = z := ⟨_, rfl⟩
 rw [ez]
 clear ez et en eY hf
 have yl := YL.out
 have eS : (ByteArray.mk (z :: Y).toArray).extract 1 (n + 1) = ByteArray.mk Y.toArray := by
  apply ByteArray.ext
  rw [ByteArray.data_extract]
  apply Array.toList_inj.1
  simp
  exact List.take_of_length_le (by omega)
 obtain ⟨W, C, fz, cp, RC, WB, WH, WC⟩ : ∃ (W : World) (C : Array Value) (fz : Nat × Nat) (cp : Nat), (convert 9 132 (.string ((ByteArray.mk (z :: Y).toArray).extract 1 (n + 1)))).run Tryz.prog w = .ok (.slice (some ⟨w.heap.size, 0, none⟩) n cp) W ∧ Below w.heap.size w W ∧ W.heap[w.heap.size]? = some (.cells C 5 fz) ∧ ∀ (j : Nat) (hj : j < Y.length), C[j]? = some (.int .u8 (Y[j].toNat : Int)) := by
  refine ⟨Lib.bytesWorld w 5 ⟨Y.toArray⟩, Lib.bytesCells w 5 ⟨Y.toArray⟩, _, grownCap w n 0 5, ?_, ⟨rfl, rfl, rfl, by rw [Lib.bytesWorld_size]; omega, fun k hk => Lib.bytesWorld_at_old w _ _ k hk⟩, Lib.bytesWorld_at_new w _ _, fun j hj => ?_⟩
  · rw [eS, Lib.run_convert_string_bytes w 9 132 5 ⟨Y.toArray⟩ Tryz.underlying9 Tryz.underlying132 Tryz.underlying5]
    simp [ByteArray.size, yl]
  · unfold Lib.bytesCells
    rw [Array.getElem?_append_left (by simpa using hj)]
    simp [hj]
 have WB' := hide WB
 have WH' := hide WH
 have WC' := hide WC
 clear eS WB WH WC
 go_enter Tryz.func128, Tryz.ntmps128
 go_wp2
 clear RC yl
 go_loopw [3, 10] (fun t i wr => ∃ (k cq : Nat) (q : Option Addr), k ≤ n ∧ i = .int .i64 k ∧ t = .slice q k cq ∧ Hid (IntS.Own wr w.heap.size (.slice q k cq) (ys.take k)) ∧ Hid (wr.heap[w.heap.size]? = some (.cells C 5 fz)) ∧ Hid (Below w.heap.size w wr)) (fun _ i _ => n - (intOf i).toNat)
 case atStart => exact ⟨0, 0, none, by omega, rfl, rfl, own_nil _ _, WH', WB'⟩
 case round =>
  obtain ⟨k, cq, q, hk, rfl, rfl, HO, HC, HB⟩ := hrel
  clear WB' WH'
  by_cases hlt : k < n
  case neg =>
   obtain rfl : k = n := by omega
   have et : ys.take k = ys := by rw [← EN.out, List.take_length]
   have HO2 := HO.out
   rw [et] at HO2
   have HO3 := hide HO2
   clear HO HO2 et HC
   go_wp2
   go_ret
   exact ⟨_, _, _, rfl, HO3.out, HB.out⟩
  obtain ⟨y, ey⟩ : ∃ y, ys[k]? = some y := ⟨_, List.getElem?_eq_getElem (by rw [EN.out]; exact hlt)⟩
  have yb := HF.out.at_ y (List.mem_of_getElem? ey)
  have cy : wr.cell? ⟨w.heap.size, k, none⟩ = some (.int .u8 y) := by
   have hj : k < Y.length := by rw [YL.out]; exact hlt
   have h1 := WC'.out k hj
   have h2 : Y[k]? = some (byteOf y) := by rw [← EY.out]; simp [ey]
   rw [List.getElem?_eq_getElem hj] at h2
   rw [Option.some.inj h2, ← byte_nat yb] at h1
   unfold World.cell?
   simp only [HC.out]
   simpa using h1
  have et : Hid (ys.take k ++ [y] = ys.take (k + 1)) := show _ = _ by rw [List.take_add_one, ey]; rfl
  have ll : Hid ((ys.take k).length = k) := show _ = _ by rw [List.length_take, EN.out]; omega
  have lk : ((k : Nat) : Int) < (n : Nat) := by omega
  have BX : Below wr.heap.size wr (wr.alloc (.cells #[.int .i64 y] 3)) := (Below.refl _ _).alloc (Nat.le_refl _) _
  have OX := hide (ownI_below HO.out BX)
  have HX : Hid ((wr.alloc (.cells #[.int .i64 y] 3)).heap[w.heap.size]? = some (.cells C 5 fz)) := (BX.block _ (lt_of_some HC.out)).trans HC.out
  have BY := hide (HB.out.trans (BX.mono HB.out.size))
  have CX : Hid ((wr.alloc (.cells #[.int .i64 y] 3)).cell? ((⟨wr.heap.size, 0, none⟩ : Addr).add 0) = some (.int .i64 y)) := show _ = _ by
   rw [Go.WideShapes.add_plain, World.cell?_alloc_new]
   rfl
  have LX : Hid ((ys.take k).length ≤ 1000000) := show _ ≤ _ by rw [ll.out]; omega
  clear BX HO HC HB ey
  go_wp2_with (at_builtin; refine wpList_pushI rfl _ _ rfl w.heap.size (.slice q k cq) (ys.take k) rfl OX.out BY.out.size ⟨wr.heap.size, 0, none⟩ y rfl CX.out LX.out ?_; intro G2 cp2 u2 hO hb hkeep; rw [ll.out] at hO ⊢)
  have O3 := hO.out
  rw [et.out] at O3
  have O4 := hide O3
  have C3 := hide (hkeep.out _ _ _ _ HX.out (by decide))
  have B3 := hide (BY.out.trans hb.out)
  clear O3 hO hb hkeep OX HX BY CX LX cy
  exact ⟨⟨k + 1, cp2, some ⟨G2, 0, none⟩, by omega, by go_num, rfl, O4, C3, B3⟩, by simp [intOf]; omega⟩
end Go.Proofs.YtggilenddbobnaaGreat.Pol
namespace Go.Proofs.YtggilenddbobnaaGreat.Pol
set_option linter.unusedVariables false
open Go.ChangeShapes Go.WideShapes Go.ChangeAt Go.RowKit Go.Shelf Go.Maps IntS Rng
theorem sortsS (m : Nat) : AnyZ.SortsIn Tryz.prog Tryz.sortedS_ren Fence.wide m :=
 ⟨fun blk off cap ss W hH hblk hsz => callsIn_wide.2 (AnyM.slices_Sort_string Tryz.sortS blk off cap ss W hH hblk hsz), fun p cap W => callsIn_wide.2 (AnyM.slices_Sort_string_none Tryz.sortS p cap W)⟩
theorem keysOf (mb : Option Nat) (W : World) : Calls Tryz.prog 127 #[.map mb] W fun e w' => e = .returned (.func (.func 134) #[] #[.pointer (some ⟨W.heap.size, 0, none⟩)]) ∧ w' = W.alloc (.cells #[.map mb] 108) :=
 (callsIn_wide (n := 5)).1 (AnyZ.keys_in Tryz.keysM Fence.wide 5 trivial rfl mb W)
set_option maxHeartbeats 2000000 in
theorem sortedKeys (es : List Mono) (b : Nat) (w : World) (hm : MapOf w b es) (hn : es.length ≤ 1000000) :
 Calls Tryz.prog 126 #[.func (.func 134) #[] #[.pointer (some ⟨w.heap.size, 0, none⟩)]] (w.alloc (.cells #[.map (some b)] 108)) fun e w' => ∃ (v : Value) (ks : List (List UInt8)), e = .returned v ∧
  w'.ownsRow (w.alloc (.cells #[.map (some b)] 108)).heap.size 9 1 v ks.length (ks.map encStr) ∧ ks.Pairwise (· < ·) ∧ ks.length ≤ 1000000 ∧ (∀ x, x ∈ ks ↔ ∃ m ∈ es, txt m.2 = x) ∧ Below (w.alloc (.cells #[.map (some b)] 108)).heap.size (w.alloc (.cells #[.map (some b)] 108)) w' := by
 obtain ⟨nn, D0, hown, hnn, hhas, hat⟩ := hm
 have hbl := hown.lt
 have hsz := hown.size_le
 have hseq : SeqGives Fence.wide 2 Tryz.prog 134 #[.pointer (some ⟨w.heap.size, 0, none⟩)] encStr (fun ss => ss.Perm (strKeys D0)) (Maps.size D0) (w.alloc (.cells #[.map (some b)] 108)) :=
  AnyZ.keys_gives (ρ := Tryz.keysM_ren) { Tryz.keysM with } Fence.wide _ trivial rfl (by omega) w.heap.size b nn D0 _ (by simp) (by simp) (by
   obtain ⟨es, clock, hb, Ft, hs, hD⟩ := hown
   exact ⟨es, clock, (Below.heap_alloc _ _ b hbl).trans hb, Ft, hs, hD⟩)
 refine ((callsIn_wide (n := 5)).1 (AnyZ.sorted_in Tryz.sortedS Fence.wide 5 trivial trivial trivial trivial rfl (by omega) (sortsS _) (enters_of Tryz.func133 (by kernel_rfl) rfl) 134 #[.pointer (some ⟨w.heap.size, 0, none⟩)] trivial (enters_of Tryz.func134 (by kernel_rfl) rfl) _ _ (by unfold maxLen; omega) (by omega) _ hseq)).mono ?_
 rintro e w' ⟨v, ss, rfl, hS, hrow, hnil, hb⟩
 obtain ⟨ents, hD, hpw, _⟩ := hown.entries (Maps.string_keyed Tryz.underlying9)
 obtain ⟨ents', hD', hko⟩ := hown.keysOf
 obtain rfl : ents = ents' := by rw [hD] at hD'; simpa using hD'
 subst hD
 have hstr : ∀ p ∈ ents, ∃ x, p.1 = .string x := fun p hp => by
  obtain ⟨u, hu⟩ := hko p hp
  obtain ⟨x, _, hx, _⟩ := Maps.keyOf_str Tryz.underlying9 hu
  exact ⟨x, hx⟩
 have hnd : (strKeys (DataW.map ents)).Nodup := by
  show (ents.map fun p => strOf p.1).Nodup
  refine List.pairwise_map.2 (hpw.imp_of_mem fun {p q} hp' hq' hne e => hne ?_)
  obtain ⟨a, ha⟩ := hstr p hp'
  obtain ⟨b, hb⟩ := hstr q hq'
  rw [ha, hb] at e ⊢
  exact congrArg _ e
 have hmem : ∀ x, x ∈ strKeys (DataW.map ents) ↔ ∃ m ∈ es, txt m.2 = x := fun x => by
  have h1 := hhas x
  rw [has_eq] at h1
  show x ∈ ents.map (fun p => strOf p.1) ↔ _
  rw [List.mem_map]
  constructor
  · rintro ⟨p, hp', e⟩
    obtain ⟨a, ha⟩ := hstr p hp'
    have h2 : ents.any (fun p => p.1.sameKey (.string x)) = true := List.any_eq_true.2 ⟨p, hp', by rw [ha] at e ⊢; simpa [Lit.sameKey, strOf] using e⟩
    rw [h1, List.any_eq_true] at h2
    obtain ⟨m, hm, e2⟩ := h2
    exact ⟨m, hm, of_decide_eq_true e2⟩
  · rintro ⟨m, hm, e⟩
    have h2 : (es.any fun m => decide (txt m.2 = x)) = true := List.any_eq_true.2 ⟨m, hm, decide_eq_true e⟩
    rw [← h1, List.any_eq_true] at h2
    obtain ⟨p, hp', e2⟩ := h2
    obtain ⟨a, ha⟩ := hstr p hp'
    exact ⟨p, hp', by rw [ha] at e2 ⊢; simpa [Lit.sameKey, strOf] using e2⟩
 have hp : (ss.mergeSort (fun x y => decide (x ≤ y))).Perm (strKeys (DataW.map ents)) := (List.mergeSort_perm _ _).trans hS
 refine ⟨v, ss.mergeSort (fun x y => decide (x ≤ y)), rfl, by rw [List.length_mergeSort]; exact hrow, ?_, ?_, fun x => by rw [hp.mem_iff]; exact hmem x, hb⟩
 · have h1 : (ss.mergeSort (fun x y => decide (x ≤ y))).Pairwise (fun a b => decide (a ≤ b) = true) := List.pairwise_mergeSort (fun a b c h1 h2 => by simp only [decide_eq_true_eq] at *; exact List.le_trans h1 h2) (fun a b => by simp only [Bool.or_eq_true, decide_eq_true_eq]; exact List.le_total a b) ss
   have h2 : (ss.mergeSort (fun x y => decide (x ≤ y))).Nodup := hp.nodup_iff.2 hnd
   refine (h1.and h2).imp fun {a b} h => ?_
   have h3 : a ≤ b := of_decide_eq_true h.1
   rcases Classical.em (a < b) with h4 | h4
   · exact h4
   · exact absurd (List.le_antisymm h3 (List.not_lt.1 h4)) h.2
 · rw [hp.length_eq]
   show (ents.map _).length ≤ _
   rw [List.length_map]
   have : Maps.size (DataW.map ents) = ents.length := rfl
   omega
end Go.Proofs.YtggilenddbobnaaGreat.Pol
namespace Go.Proofs.YtggilenddbobnaaGreat.Pol
set_option linter.unusedVariables false
open Go.ChangeShapes Go.WideShapes Go.ChangeAt Go.RowKit Go.Shelf IntS Rng
attribute [local go_sem] Oper.semAt_some
/-- A part that is handed over: its word, its atoms, and the slice that holds them. -/
structure Part where
 c : Int
 q : Option Addr
 m : Nat
 k : Nat
 at_ : List Int
def Part.mono (p : Part) : Mono := (p.c, p.at_)
def Part.val (p : Part) : Value := .agg #[.int .i64 p.c, .slice p.q p.m p.k]
/-- Texts of parts that do not come to 0. -/
def live (es : List Mono) (ks : List (List UInt8)) : List (List UInt8) := ks.filter fun x => decide (totE es x ≠ 0)
theorem live_snoc {es : List Mono} {ks : List (List UInt8)} {k : Nat} {x : List UInt8} (h : ks[k]? = some x) : live es (ks.take (k + 1)) = live es (ks.take k) ++ if totE es x ≠ 0 then [x] else [] := by
 unfold live
 rw [List.take_add_one, h, List.filter_append]
 congr 1
 simp [List.filter_cons]
theorem live_next {es L : List Mono} {ks : List (List UInt8)} (hT : Told es L) (hk : ks.Pairwise (· < ·)) (hm : ∀ x, (∃ m ∈ es, txt m.2 = x) → x ∈ ks) {k j : Nat} {x : List UInt8} (hx : ks[k]? = some x) (hl : live es (ks.take k) = (L.take j).map fun m => txt m.2) (hj : j ≤ L.length) (h0 : totE es x ≠ 0) :
 ∃ m, L[j]? = some m ∧ txt m.2 = x ∧ m.1 = totE es x ∧ Fine m.2 := by
 have hall := hT.keys hk hm
 have e1 : live es (ks.take (k + 1)) = (L.take j).map (fun m => txt m.2) ++ [x] := by rw [live_snoc hx, hl, if_pos h0]
 have e2 : live es (ks.take (k + 1)) <+: L.map fun m => txt m.2 := by
  rw [← hall]
  exact (List.take_prefix _ _).filter _
 rw [e1] at e2
 obtain ⟨r, hr⟩ := e2
 have e3 : (L.map fun m => txt m.2)[j]? = some x := by
  rw [← hr, List.append_assoc, List.getElem?_append_right (by simp [hj])]
  simp [Nat.min_eq_left hj]
 rw [List.getElem?_map] at e3
 cases hm2 : L[j]? with
 | none => rw [hm2] at e3; cases e3
 | some m =>
  rw [hm2] at e3
  have e4 : txt m.2 = x := by simpa using e3
  have hmem := List.mem_of_getElem? hm2
  exact ⟨m, rfl, e4, by rw [← e4, ← hT.eq, coef_mem hT.up m hmem], (hT.fine m hmem).1⟩
theorem live_end {es L : List Mono} {ks : List (List UInt8)} (hT : Told es L) (hk : ks.Pairwise (· < ·)) (hm : ∀ x, (∃ m ∈ es, txt m.2 = x) → x ∈ ks) {j : Nat} (hl : live es ks = (L.take j).map fun m => txt m.2) (hj : j ≤ L.length) : j = L.length := by
 have hall := hT.keys hk hm
 have := congrArg List.length (hl.symm.trans hall)
 simp at this
 omega
theorem look {w : World} {b : Nat} {es : List Mono} (h : MapOf w b es) (x : List UInt8) (hx : x.length ≤ 1000) : (Instr.lookup 108 (.map (some b)) (.string ⟨x.toArray⟩) false).run Tryz.prog w = .ok (.int .i64 (totE es x)) w := by
 obtain ⟨nn, D, hown, hnn, hhas, hat⟩ := h
 have hkey : keyOf Tryz.prog 9 (.string ⟨x.toArray⟩) = some (.string x) := by
  have := Go.WideMaps.keyOf_string_mk (P := Tryz.prog) (k := 9) Tryz.underlying9 (s := ⟨x.toArray⟩) (by show x.toArray.size ≤ maxLen; unfold maxLen; simp; omega)
  simpa using this
 obtain ⟨c, hrun, h1, h2⟩ := hown.lookup_int (Maps.string_keyed Tryz.underlying9) Tryz.underlying108 Tryz.underlying3 (Tryz.zeroValue3 _) hkey
 have := hat x
 rw [h1] at this
 have e : c = totE es x := by simpa using this
 rw [hrun, e]
set_option maxRecDepth 100000 in
set_option maxHeartbeats 16000000 in
theorem inOrder (es L : List Mono) (b Bp : Nat) (hT : Told es L) (hn : es.length ≤ 1000000) (he : ∀ m ∈ es, m.2.length < 256) :
 Tells Tryz.prog 125 #[.pointer (some ⟨Bp, 0, none⟩)] (fun x : Part => #[x.val]) (fun A => A.cell? ⟨Bp, 0, none⟩ = some (.map (some b)) ∧ MapOf A b es)
  (fun pre x A₀ A => (pre ++ [x]).map Part.mono <+: L ∧ IntS.Own A A₀.heap.size (.slice x.q x.m x.k) x.at_) (fun xs => xs.map Part.mono = L) (fun t => t = 9) := by
 intro l J Jx W hS hb hY h0
 obtain ⟨hc, hM⟩ := hS _ _ h0
 have SK := hide (sortedKeys es b W hM hn)
 refine callsIn_of_wp Tryz.func125 rfl trivial ?_ rfl
 simp only [Tryz.ntmps125, List.size_toArray, List.length_cons, List.length_nil, Nat.reduceAdd, Nat.reduceSub, Array.replicate_succ, Array.replicate_zero, List.push_toArray, List.append_toArray, List.nil_append, List.cons_append]
 have HS := hide hS
 have HB := hide hb
 have HY := hide hY
 have HT := hide hT
 have HE := hide he
 clear hS hb hY hT hM he
 gi_wp2_with fail
 refine ⟨trivial, rfl, (callsIn_wide.2 (keysOf _ _)).mono ?_⟩
 rintro e u ⟨rfl, rfl⟩
 have bu := (Below.refl _ W).alloc (Nat.le_refl _) (.cells #[.map (some b)] 108)
 generalize W.alloc (.cells #[.map (some b)] 108) = U at SK bu ⊢
 gi_wp2_with fail
 refine ⟨trivial, rfl, (callsIn_wide.2 SK.out).mono ?_⟩
 rintro e V ⟨v, ks, rfl, hrow, hpw, hkl, hmem, hbV⟩
 have J0 := HB.out _ _ _ h0 (bu.trans (hbV.mono bu.size))
 have KP := hide hpw
 have KM : Hid (∀ x, (∃ m ∈ es, txt m.2 = x) → x ∈ ks) := fun x hx => (hmem x).2 hx
 have KX : Hid (∀ x ∈ ks, x.length ≤ 1000) := fun x hx => by
  obtain ⟨m, hm, e⟩ := (hmem x).1 hx
  have := HE.out m hm
  rw [← e]
  unfold txt
  simp
  omega
 clear SK bu hbV hpw hmem hc h0 HE
 rcases hrow.2 with ⟨rfl, hz⟩ | ⟨gb, cap, cur, rfl, hbase, hgb, r1, r2, r3, r4⟩
 · obtain rfl : ks = [] := List.length_eq_zero_iff.1 hz
   have e0 : 0 = L.length := live_end HT.out KP.out KM.out (j := 0) rfl (Nat.zero_le _)
   have eL : Hid (L = []) := List.length_eq_zero_iff.1 e0.symm
   clear hrow hz hkl e0
   gi_wp2
   gi_loopw [9] (fun i wr => i = .int .i64 0 ∧ J [] wr) (fun _ _ => 0)
   case atStart => exact ⟨rfl, J0⟩
   case round =>
    obtain ⟨rfl, hJs⟩ := hrel
    gi_wp2
    go_end0
    exact ⟨⟨_, rfl⟩, .inl ⟨[], by rw [eL.out]; rfl, hJs⟩⟩
 obtain ⟨n, en⟩ : ∃ n, ks.length = n := ⟨_, rfl⟩
 have EN := hide en
 have R4 := hide r4
 have HG := hide hgb
 rw [en] at r1 hkl
 unfold maxLen at r2
 rw [en]
 clear hrow r3 r4 hgb en hbase
 gi_wp2
 gi_loopw [9] (fun i wr => ∃ (k : Nat) (pre : List Part), k ≤ n ∧ i = .int .i64 k ∧ Hid (J pre wr) ∧ Hid (pre.map Part.mono = L.take pre.length ∧ pre.length ≤ L.length ∧ live es (ks.take k) = (L.take pre.length).map fun m => txt m.2) ∧ Hid (wr.heap[gb]? = some (.cells cur 9 (0, 0)))) (fun i _ => n - (intOf i).toNat)
 case atStart => exact ⟨0, [], by omega, rfl, J0, ⟨rfl, Nat.zero_le _, rfl⟩, HG⟩
 case round =>
  obtain ⟨k, pre, hk, rfl, hJs, HP, HC⟩ := hrel
  clear J0 HG
  by_cases hlt : k < n
  case neg =>
   obtain rfl : k = n := by omega
   have e1 : ks.take k = ks := by rw [← EN.out, List.take_length]
   have e2 := HP.out.2.2
   rw [e1] at e2
   have e3 := live_end HT.out KP.out KM.out e2 HP.out.2.1
   have e4 : Hid (pre.map Part.mono = L) := show _ = _ by rw [HP.out.1, e3, List.take_length]
   clear e1 e2 e3 HC
   gi_wp2
   go_end0
   exact ⟨⟨_, rfl⟩, .inl ⟨pre, e4.out, hJs.out⟩⟩
  obtain ⟨x, ex⟩ : ∃ x, ks[k]? = some x := ⟨_, List.getElem?_eq_getElem (by rw [EN.out]; exact hlt)⟩
  have XL := hide (KX.out x (List.mem_of_getElem? ex))
  have cx : wr.cell? ⟨gb, k, none⟩ = some (.string ⟨x.toArray⟩) := by
   have hu : (ks.map encStr)[k]? = some (.string ⟨x.toArray⟩) := by simp [ex, encStr]
   rw [← R4.out, List.getElem?_take, if_pos (by rw [EN.out]; omega)] at hu
   unfold World.cell?
   simp only [HC.out]
   simpa using hu
  have lk : ((k : Nat) : Int) < (n : Nat) := by omega
  have hHeld : wr.drew.cell? ⟨Bp, 0, none⟩ = some (.map (some b)) ∧ MapOf wr.drew b es := by
   obtain ⟨s1, s2⟩ := HS.out _ _ hJs.out
   exact ⟨s1, s2.below (Below.refl _ _).drew⟩
  have EX := hide ex
  obtain ⟨t, et⟩ : ∃ t, totE es x = t := ⟨_, rfl⟩
  have ET := hide et
  clear ex et
  by_cases ht : t = 0
  · subst ht
    have HP2 : Hid (pre.map Part.mono = L.take pre.length ∧ pre.length ≤ L.length ∧ live es (ks.take (k + 1)) = (L.take pre.length).map fun m => txt m.2) := ⟨HP.out.1, HP.out.2.1, by rw [live_snoc EX.out, if_neg (by rw [ET.out]; decide), List.append_nil]; exact HP.out.2.2⟩
    have JD : Hid (J pre wr.drew) := HB.out _ _ _ hJs.out (Below.refl _ _).drew
    gi_wp2
    refine PhaseIn.region (S := fun w' => w'.cell? ⟨Bp, 0, none⟩ = some (.map (some b)) ∧ MapOf w' b es) 15 (by kernel_rfl) ?_
    refine PhaseIn.takeE (i := 0) (v := ?_) [0, 2, 3, 4, 5, 6, 7, 8, 9, 10, 11, 12, 13, 14] 13 rfl (by rfl) (by kernel_rfl) (fun _ _ _ h => h) (Or.inl ⟨by kernel_rfl, ?_⟩) hHeld ?_
    rotate_left
    · intro w' hSw
      (try dsimp only at hSw)
      go_simp
      first | done | with_reducible rfl
    try simp only [Act.put, sA, List.set]
    refine PhaseIn.takeE (i := 1) (v := ?_) [1, 2, 3, 4, 5, 6, 7, 8, 9, 10, 11, 12, 13, 14] 14 rfl (by rfl) (by kernel_rfl) (fun _ _ _ h => h) (Or.inl ⟨by kernel_rfl, ?_⟩) hHeld ?_
    rotate_left
    · intro w' hSw
      (try dsimp only at hSw)
      go_simp
      first | done | with_reducible rfl
    try simp only [Act.put, sA, List.set]
    refine PhaseIn.takeE (i := 2) (v := .int .i64 0) [2, 3, 4, 5, 6, 7, 8, 9, 10, 11, 12, 13, 14] 15 rfl (by rfl) (by kernel_rfl) (fun _ _ _ h => h) (Or.inl ⟨by kernel_rfl, ?_⟩) hHeld ?_
    · intro w' hSw
      (try dsimp only at hSw)
      have LK := look hSw.2 x XL.out
      rw [ET.out] at LK
      go_simp
      first | done | with_reducible rfl
    try simp only [Act.put, sA, List.set]
    refine PhaseIn.takeE (i := 3) (v := ?_) [3, 4, 5, 6, 7, 8, 9, 10, 11, 12, 13, 14] 16 rfl (by rfl) (by kernel_rfl) (fun _ _ _ h => h) (Or.inl ⟨by kernel_rfl, ?_⟩) hHeld ?_
    rotate_left
    · intro w' hSw
      (try dsimp only at hSw)
      go_simp
      first | done | with_reducible rfl
    try simp only [Act.put, sA, List.set]
    refine PhaseIn.takeE (i := 4) (v := ?_) [4, 5, 6, 7, 8, 9, 10, 11, 12, 13, 14] 17 rfl (by rfl) (by kernel_rfl) (fun _ _ _ h => h) (Or.inl ⟨by kernel_rfl, ?_⟩) hHeld ?_
    rotate_left
    · intro w' hSw
      (try dsimp only at hSw)
      go_simp
      first | done | with_reducible rfl
    try simp only [Act.put, sA, List.set]
    refine PhaseIn.takeE (i := 5) (v := undef) [5, 12, 13, 14] 18 rfl (by rfl) (by kernel_rfl) (fun _ _ _ h => h) (Or.inr ⟨by kernel_rfl, rfl⟩) hHeld ?_
    try simp only [Act.put, sA, List.set]
    refine PhaseIn.takeE (i := 6) (v := undef) [6, 8, 11, 12, 13, 14] 19 rfl (by rfl) (by kernel_rfl) (fun _ _ _ h => h) (Or.inr ⟨by kernel_rfl, rfl⟩) hHeld ?_
    try simp only [Act.put, sA, List.set]
    refine PhaseIn.takeE (i := 7) (v := undef) [7, 8, 11, 12, 13, 14] 20 rfl (by rfl) (by kernel_rfl) (fun _ _ _ h => h) (Or.inr ⟨by kernel_rfl, rfl⟩) hHeld ?_
    try simp only [Act.put, sA, List.set]
    refine PhaseIn.takeE (i := 8) (v := undef) [8, 11, 12, 13, 14] 21 rfl (by rfl) (by kernel_rfl) (fun _ _ _ h => h) (Or.inr ⟨by kernel_rfl, rfl⟩) hHeld ?_
    try simp only [Act.put, sA, List.set]
    refine PhaseIn.takeE (i := 9) (v := undef) [9, 10, 11, 12, 13, 14] 22 rfl (by rfl) (by kernel_rfl) (fun _ _ _ h => h) (Or.inr ⟨by kernel_rfl, rfl⟩) hHeld ?_
    try simp only [Act.put, sA, List.set]
    refine PhaseIn.takeE (i := 10) (v := undef) [10, 11, 12, 13, 14] 23 rfl (by rfl) (by kernel_rfl) (fun _ _ _ h => h) (Or.inr ⟨by kernel_rfl, rfl⟩) hHeld ?_
    try simp only [Act.put, sA, List.set]
    refine PhaseIn.takeE (i := 11) (v := undef) [11, 12, 13, 14] 24 rfl (by rfl) (by kernel_rfl) (fun _ _ _ h => h) (Or.inr ⟨by kernel_rfl, rfl⟩) hHeld ?_
    try simp only [Act.put, sA, List.set]
    refine PhaseIn.takeE (i := 12) (v := undef) [12, 13, 14] 25 rfl (by rfl) (by kernel_rfl) (fun _ _ _ h => h) (Or.inr ⟨by kernel_rfl, rfl⟩) hHeld ?_
    try simp only [Act.put, sA, List.set]
    refine PhaseIn.takeE (i := 13) (v := undef) [13, 14] 26 rfl (by rfl) (by kernel_rfl) (fun _ _ _ h => h) (Or.inr ⟨by kernel_rfl, rfl⟩) hHeld ?_
    try simp only [Act.put, sA, List.set]
    refine PhaseIn.takeE (i := 14) (v := ?_) [14] 27 rfl (by rfl) (by kernel_rfl) (fun _ _ _ h => h) (Or.inl ⟨by kernel_rfl, ?_⟩) hHeld ?_
    rotate_left
    · intro w' hSw
      (try dsimp only at hSw)
      go_simp
      first | done | with_reducible rfl
    try simp only [Act.put, sA, List.set]
    refine PhaseIn.done (by kernel_rfl) ?_ _
    gi_wp2
    go_roundw
    case rel => exact ⟨k + 1, pre, by omega, by simp, JD, HP2, HC⟩
    case measure => simp [intOf]; omega
  · obtain ⟨m, em, e1, e2, e3⟩ := live_next HT.out KP.out KM.out EX.out HP.out.2.2 HP.out.2.1 (by rw [ET.out]; exact ht)
    have tn : (t != 0) = true := by simp [ht]
    have JD : Hid (J pre wr.drew) := HB.out _ _ _ hJs.out (Below.refl _ _).drew
    have AO := hide (atomsOf m.2 wr.drew e3)
    rw [e1] at AO
    have e4 : m.1 = t := e2.trans ET.out
    have ME : Hid (L[pre.length]? = some (t, m.2)) := show _ = _ by rw [em, ← e4]
    have HC2 : Hid (wr.drew.heap[gb]? = some (.cells cur 9 (0, 0))) := HC.out
    have HL : Hid (live es (ks.take (k + 1)) = (L.take (pre.length + 1)).map fun m => txt m.2) := show _ = _ by
     rw [live_snoc EX.out, if_pos (by rw [ET.out]; exact ht), HP.out.2.2, List.take_add_one, em, List.map_append]
     simp [e1]
    obtain ⟨ys, ey⟩ : ∃ ys, m.2 = ys := ⟨_, rfl⟩
    rw [ey] at AO ME
    clear em e1 e2 e3 e4 ey
    gi_wp2
    refine PhaseIn.region (S := fun w' => w'.cell? ⟨Bp, 0, none⟩ = some (.map (some b)) ∧ MapOf w' b es) 12 (by kernel_rfl) ?_
    generalize hwd : wr.drew = wd at hHeld JD AO HC2 ⊢
    clear hwd
    refine PhaseIn.takeE (i := 0) (v := ?_) [0, 2, 3, 4, 5, 6, 7, 8, 9, 10, 11, 12, 13, 14] 13 rfl (by rfl) (by kernel_rfl) (fun _ _ _ h => h) (Or.inl ⟨by kernel_rfl, ?_⟩) hHeld ?_
    rotate_left
    · intro w' hSw
      (try dsimp only at hSw)
      go_simp
      first | done | with_reducible rfl
    try simp only [Act.put, sA, List.set]
    refine PhaseIn.takeE (i := 1) (v := ?_) [1, 2, 3, 4, 5, 6, 7, 8, 9, 10, 11, 12, 13, 14] 14 rfl (by rfl) (by kernel_rfl) (fun _ _ _ h => h) (Or.inl ⟨by kernel_rfl, ?_⟩) hHeld ?_
    rotate_left
    · intro w' hSw
      (try dsimp only at hSw)
      go_simp
      first | done | with_reducible rfl
    try simp only [Act.put, sA, List.set]
    refine PhaseIn.takeE (i := 2) (v := .int .i64 t) [2, 3, 4, 5, 6, 7, 8, 9, 10, 11, 12, 13, 14] 15 rfl (by rfl) (by kernel_rfl) (fun _ _ _ h => h) (Or.inl ⟨by kernel_rfl, ?_⟩) hHeld ?_
    · intro w' hSw
      (try dsimp only at hSw)
      have LK := look hSw.2 x XL.out
      rw [ET.out] at LK
      go_simp
      first | done | with_reducible rfl
    try simp only [Act.put, sA, List.set]
    refine PhaseIn.takeE (i := 3) (v := ?_) [3, 4, 5, 6, 7, 8, 9, 10, 11, 12, 13, 14] 16 rfl (by rfl) (by kernel_rfl) (fun _ _ _ h => h) (Or.inl ⟨by kernel_rfl, ?_⟩) hHeld ?_
    rotate_left
    · intro w' hSw
      (try dsimp only at hSw)
      go_simp
      first | done | with_reducible rfl
    try simp only [Act.put, sA, List.set]
    refine PhaseIn.takeE (i := 4) (v := ?_) [4, 5, 6, 7, 8, 9, 10, 11, 12, 13, 14] 17 rfl (by rfl) (by kernel_rfl) (fun _ _ _ h => h) (Or.inl ⟨by kernel_rfl, ?_⟩) hHeld ?_
    rotate_left
    · intro w' hSw
      (try dsimp only at hSw)
      go_simp
      first | done | with_reducible rfl
    try simp only [Act.put, sA, List.set]
    refine PhaseIn.takeE (i := 5) (v := ?_) [5, 12, 13, 14] 18 rfl (by rfl) (by kernel_rfl) (fun _ _ _ h => h) (Or.inl ⟨by kernel_rfl, ?_⟩) hHeld ?_
    rotate_left
    · intro w' hSw
      (try dsimp only at hSw)
      go_simp
      first | done | with_reducible rfl
    try simp only [Act.put, sA, List.set]
    refine PhaseIn.takeE (i := 6) (v := ?_) [6, 8, 11, 12, 13, 14] 19 rfl (by rfl) (by kernel_rfl) (fun _ _ _ h => h) (Or.inl ⟨by kernel_rfl, ?_⟩) hHeld ?_
    rotate_left
    · intro w' hSw
      (try dsimp only at hSw)
      go_simp
      first | done | with_reducible rfl
    try simp only [Act.put, sA, List.set]
    refine PhaseIn.takeE (i := 7) (v := ?_) [7, 8, 11, 12, 13, 14] 20 rfl (by rfl) (by kernel_rfl) (fun _ _ _ h => h) (Or.inl ⟨by kernel_rfl, ?_⟩) hHeld ?_
    rotate_left
    · intro w' hSw
      (try dsimp only at hSw)
      go_simp
      first | done | with_reducible rfl
    try simp only [Act.put, sA, List.set]
    refine PhaseIn.takeE (i := 8) (v := .int .i64 t) [8, 11, 12, 13, 14] 21 rfl (by rfl) (by kernel_rfl) (fun _ _ _ h => h) (Or.inl ⟨by kernel_rfl, ?_⟩) hHeld ?_
    · intro w' hSw
      (try dsimp only at hSw)
      have LK := look hSw.2 x XL.out
      rw [ET.out] at LK
      go_simp
      first | done | with_reducible rfl
    try simp only [Act.put, sA, List.set]
    refine PhaseIn.takeE (i := 9) (v := ?_) [9, 10, 11, 12, 13, 14] 22 rfl (by rfl) (by kernel_rfl) (fun _ _ _ h => h) (Or.inl ⟨by kernel_rfl, ?_⟩) hHeld ?_
    rotate_left
    · intro w' hSw
      (try dsimp only at hSw)
      go_simp
      first | done | with_reducible rfl
    try simp only [Act.put, sA, List.set]
    refine PhaseIn.one (i := 10) (by kernel_rfl) rfl (by kernel_rfl) (fun K hK => ?_)
    unfold Oper.wpIn
    refine ⟨fun _ _ => trivial, ?_⟩
    go_simp
    refine ⟨rfl, (callsIn_wide.2 AO.out).mono ?_⟩
    rintro e w2 ⟨q, m', k', rfl, hO, hb2⟩
    refine hK _ _ (fun _ => ⟨cell_below hb2 hHeld.1, hHeld.2.below hb2⟩) ?_
    have hHeld2 : w2.cell? ⟨Bp, 0, none⟩ = some (.map (some b)) ∧ MapOf w2 b es := ⟨cell_below hb2 hHeld.1, hHeld.2.below hb2⟩
    have HC3 : Hid (w2.heap[gb]? = some (.cells cur 9 (0, 0))) := (hb2.block gb (lt_of_some HC2.out)).trans HC2.out
    have pe : (pre ++ [(⟨t, q, m', k', ys⟩ : Part)]).map Part.mono = L.take (pre.length + 1) := by
     rw [List.map_append, HP.out.1, List.take_add_one, ME.out]
     rfl
    have ll : pre.length + 1 ≤ L.length := (List.getElem?_eq_some_iff.1 ME.out).1
    have HP2 : Hid ((pre ++ [(⟨t, q, m', k', ys⟩ : Part)]).map Part.mono = L.take (pre ++ [(⟨t, q, m', k', ys⟩ : Part)]).length ∧ (pre ++ [(⟨t, q, m', k', ys⟩ : Part)]).length ≤ L.length ∧ live es (ks.take (k + 1)) = (L.take (pre ++ [(⟨t, q, m', k', ys⟩ : Part)]).length).map fun m => txt m.2) := by
     rw [show (pre ++ [(⟨t, q, m', k', ys⟩ : Part)]).length = pre.length + 1 by simp]
     exact ⟨pe, ll, HL.out⟩
    obtain ⟨fn, tmps, assign, body, hy, hR⟩ := HY.out pre ⟨t, q, m', k', ys⟩ wd w2 JD.out hb2 ⟨by rw [pe]; exact List.take_prefix _ _, hO⟩
    simp only [Part.val] at hy
    clear hK K hHeld JD AO HC2 hb2 hO pe ll
    try simp only [Act.put, sA, List.set]
    refine PhaseIn.takeE (i := 11) (v := ?_) [11, 12, 13, 14] 24 rfl (by rfl) (by kernel_rfl) (fun _ _ _ h => h) (Or.inl ⟨by kernel_rfl, ?_⟩) hHeld2 ?_
    rotate_left
    · intro w' hSw
      (try dsimp only at hSw)
      go_simp
      first | done | with_reducible rfl
    try simp only [Act.put, sA, List.set]
    refine PhaseIn.one (i := 12) (by kernel_rfl) rfl (by kernel_rfl) (fun K hK => ?_)
    unfold Oper.wpIn
    refine ⟨fun _ _ => trivial, ?_⟩
    go_simp
    refine ⟨rfl, hR.mono ?_⟩
    rintro e W3 (⟨rfl, hJ3, hkp⟩ | ⟨rfl, hJx3⟩)
    · refine hK _ _ (fun h => absurd h (by omega)) ?_
      have HC4 : Hid (W3.heap[gb]? = some (.cells cur 9 (0, 0))) := hkp _ _ _ _ rfl HC3.out
      have J3 := hide hJ3
      clear hK K hHeld2 HC3 hy hR hkp hJ3
      try simp only [Act.put, sA, List.set]
      refine PhaseIn.late (i := 13) (v := .bool false) (by kernel_rfl) rfl 26 (by rfl) (by omega) (Or.inl ⟨by kernel_rfl, ?_⟩) ?_
      · intro w' _
        go_simp
      try simp only [Act.put, sA, List.set]
      refine PhaseIn.late (i := 14) (v := .bool false) (by kernel_rfl) rfl 27 (by rfl) (by omega) (Or.inl ⟨by kernel_rfl, ?_⟩) ?_
      · intro w' _
        go_simp
      try simp only [Act.put, sA, List.set]
      refine PhaseIn.done (by kernel_rfl) ?_ _
      gi_wp2
      go_roundw
      case rel => exact ⟨k + 1, pre ++ [(⟨t, q, m', k', ys⟩ : Part)], by omega, by simp, J3, HP2, HC4⟩
      case measure => simp [intOf]; omega
    · refine hK _ _ (fun h => absurd h (by omega)) ?_
      have J3 := hide hJx3
      clear hK K hHeld2 HC3 hy hR hJx3
      try simp only [Act.put, sA, List.set]
      refine PhaseIn.late (i := 13) (v := .bool true) (by kernel_rfl) rfl 26 (by rfl) (by omega) (Or.inl ⟨by kernel_rfl, ?_⟩) ?_
      · intro w' _
        go_simp
      try simp only [Act.put, sA, List.set]
      refine PhaseIn.late (i := 14) (v := .bool true) (by kernel_rfl) rfl 27 (by rfl) (by omega) (Or.inl ⟨by kernel_rfl, ?_⟩) ?_
      · intro w' _
        go_simp
      try simp only [Act.put, sA, List.set]
      refine PhaseIn.done (by kernel_rfl) ?_ _
      gi_wp2
      refine bodyPost_ret (results_none rfl _ _ _) rfl ?_
      exact ⟨⟨_, rfl⟩, .inr ⟨_, J3.out⟩⟩
end Go.Proofs.YtggilenddbobnaaGreat.Pol
namespace Go.Proofs.YtggilenddbobnaaGreat.Pol
set_option linter.unusedVariables false
open Go.ChangeShapes Go.WideShapes Go.ChangeAt Go.RowKit Go.Shelf IntS Rng
attribute [local go_sem] Oper.semAt_some
theorem wpListIn_pushM {F : Fence} {n : Nat} {w : World} {ops : Array Oper} {rest : List Oper} {o : Oper} {a : Act} {Q : Exit → Act → World → Prop} (hgd : o.guard = none) (s x : Operand)
 (ho : o.op = .call { callee := .builtin .append, args := #[s, x], argTypes := #[33, 33] })
 (lo : Nat) (v : Value) (cs : List (Int × Value)) (hs : a.eval s = v) (hown : OwnM w lo v cs) (hlo : lo ≤ w.heap.size)
 (ad : Addr) (c : Int) (q : Option Addr) (m k : Nat) (hx : a.eval x = .slice (some ad) 1 1) (hc : w.cell? (ad.add 0) = some (.int .i64 c)) (hc2 : w.cell? (ad.add 1) = some (.slice q m k)) (hl : cs.length ≤ 1000000)
 (h : ∀ (G cap : Nat) (w' : World), Hid (OwnM w' lo (.slice (some ⟨G, 0, none⟩) (cs.length + 1) cap) (cs ++ [(c, .slice q m k)])) → Hid (Below lo w w') → Hid (∀ (k : Nat) (o : Obj), w.heap[k]? = some o → (∀ cs z, o ≠ Obj.cells cs 82 z) → w'.heap[k]? = some o) → wpListIn F n Tryz.prog ops Q rest (a.put o.dst (.slice (some ⟨G, 0, none⟩) (cs.length + 1) cap)) w') : wpListIn F n Tryz.prog ops Q (o :: rest) a w := by
 obtain ⟨i, hi, hz, hsz, hby⟩ := infoMono
 have hlt := World.ownsRow.lt hown
 refine wpListIn_append_own w hgd s x 33 ho lo 82 i _ 2 32 Tryz.underlying33 hi hz hsz hby rfl (by decide) v cs.length (flat cs) hs hown ad 1 1 [.int .i64 c, .slice q m k] hx rfl (fun j u hu => ?_) (fun u hu => by simp at hu; rcases hu with rfl | rfl <;> rfl) (by unfold maxLen; omega) (by omega) hlo fun v' w' h1 h2 h3 => ?_
 · match j, hu with
   | 0, hu => cases hu; exact hc
   | 1, hu => cases hu; exact hc2
   | j + 2, hu => simp at hu
 · have e : flat cs ++ [.int .i64 c, .slice q m k] = flat (cs ++ [(c, .slice q m k)]) := by rw [flat_app]; rfl
   rw [e] at h1
   have g1 : OwnM w' lo v' (cs ++ [(c, .slice q m k)]) := by
    unfold OwnM
    rw [List.length_append]
    exact h1
   obtain ⟨G, cap, rfl⟩ := g1.form (fun e2 => by have := (h3.1 e2).2; omega)
   rw [List.length_append] at g1
   have hb : Below lo w w' := (Below.refl lo w).grown h2 hlo (fun k e => (hlt k e).1)
   have hkeep : ∀ (k : Nat) (o : Obj), w.heap[k]? = some o → (∀ cs z, o ≠ Obj.cells cs 82 z) → w'.heap[k]? = some o := fun k o hk ht => by
    rw [h2.block k (lt_of_some hk) ?_]
    · exact hk
    · intro e
      obtain ⟨_, h0 | ⟨g, cap, cur, hv, _, hh, _⟩⟩ := hown
      · rw [h0.1] at e; simp [Value.ownBlock] at e
      · rw [hv] at e
        obtain rfl : k = g := by simpa [Value.ownBlock] using e
        rw [hk] at hh
        cases hh
        exact ht _ _ rfl
   have := h G cap w' g1 hb hkeep
   simpa [List.length_append] using this
theorem MapOf.same {w w' : World} {b : Nat} {es : List Mono} (h : MapOf w b es) (hs : w'.heap[b]? = w.heap[b]?) : MapOf w' b es := by
 obtain ⟨nn, D, h1, h2⟩ := h
 refine ⟨nn, D, ?_, h2⟩
 obtain ⟨e, clock, hb, F, hs2, hD⟩ := h1
 exact ⟨e, clock, hs.trans hb, F, hs2, hD⟩
def Part.cell (p : Part) : Int × Value := (p.c, .slice p.q p.m p.k)
/-- What the call has told so far. N: the heap's size when it began. -/
structure TellP (w : World) (b : Nat) (es L : List Mono) (pre : List Part) (A : World) : Prop where
 bw : Below w.heap.size w A
 r2 : Boxed A w.heap.size 35 (.slice none 0 0)
 r3 : Boxed A (w.heap.size + 1) 4 (.bool false)
 r4 : ∃ vq vc, Boxed A (w.heap.size + 2) 35 (.slice vq pre.length vc) ∧ OwnM A (w.heap.size + 4) (.slice vq pre.length vc) (pre.map Part.cell)
 bx : Boxed A (w.heap.size + 3) 108 (.map (some b))
 mp : MapOf A b es
 rows : ∀ p ∈ pre, IntS.Own A (w.heap.size + 4) (.slice p.q p.m p.k) p.at_
 apart : ∀ (i j : Nat) p r, i < j → pre[i]? = some p → pre[j]? = some r → ∀ a a', p.q = some a → r.q = some a' → a.block < a'.block
 pf : pre.map Part.mono <+: L
 many : pre.length ≤ 12
 high : ∀ p ∈ pre, p.at_.length ≤ 4
 lo : w.heap.size + 4 ≤ A.heap.size
theorem TellP.mild {w A A' : World} {b : Nat} {es L : List Mono} {pre : List Part} {B : Nat} (h : TellP w b es L pre A) (hm : Mild B A A') (hB : w.heap.size ≤ B) (hb : b < w.heap.size) : TellP w b es L pre A' :=
 ⟨Mild.below h.bw ⟨hm.os, hm.tape, hm.output, hm.size, fun k hk hl => hm.low k (Nat.lt_of_lt_of_le hk hB) hl, hm.cells⟩ (Nat.le_refl _), Srt.boxed_mild h.r2 hm, Srt.boxed_mild h.r3 hm, let ⟨vq, vc, h1, h2⟩ := h.r4; ⟨vq, vc, Srt.boxed_mild h1 hm, Srt.owns_mild h2 hm⟩, Srt.boxed_mild h.bx hm, h.mp.mild hm (Nat.lt_of_lt_of_le hb hB), fun p hp => Srt.owns_mild (h.rows p hp) hm, h.apart, h.pf, h.many, h.high, Nat.le_trans h.lo hm.size⟩
/-- What holds of a part that was handed over. -/
structure HandP (w : World) (L : List Mono) (pre : List Part) (x : Part) (A : World) : Prop where
 pf : (pre ++ [x]).map Part.mono <+: L
 own : IntS.Own A (w.heap.size + 4) (.slice x.q x.m x.k) x.at_
 last : ∀ p ∈ pre, ∀ a a', p.q = some a → x.q = some a' → a.block < a'.block
theorem HandP.mild {w A A' : World} {L : List Mono} {pre : List Part} {x : Part} {B : Nat} (h : HandP w L pre x A) (hm : Mild B A A') : HandP w L pre x A' := ⟨h.pf, Srt.owns_mild h.own hm, h.last⟩
theorem hand_of {w A₀ A : World} {b : Nat} {es L : List Mono} {pre : List Part} {x : Part} (h : TellP w b es L pre A₀) (hb : Below A₀.heap.size A₀ A) (hf : (pre ++ [x]).map Part.mono <+: L ∧ IntS.Own A A₀.heap.size (.slice x.q x.m x.k) x.at_) : HandP w L pre x A := by
 refine ⟨hf.1, IntS.Own.mono hf.2 h.lo, fun p hp a a' ha ha' => ?_⟩
 have l1 : a.block < A₀.heap.size := by
  obtain ⟨_, h0 | ⟨g, cap, cur, hv, _, hh, _⟩⟩ := h.rows p hp
  · rw [ha] at h0; cases h0.1
  · rw [ha] at hv
    injection hv with e1 _ _
    injection e1 with e2
    rw [e2]
    exact lt_of_some hh
 have l2 : A₀.heap.size ≤ a'.block := by
  obtain ⟨_, h0 | ⟨g, cap, cur, hv, hl, _⟩⟩ := hf.2
  · rw [ha'] at h0; cases h0.1
  · rw [ha'] at hv
    injection hv with e1 _ _
    injection e1 with e2
    rw [e2]
    exact hl
 omega
theorem HandP.len {w A : World} {L : List Mono} {pre : List Part} {x : Part} (h : HandP w L pre x A) : x.m = x.at_.length := by
 obtain ⟨_, h0 | ⟨g, cap, cur, hv, _⟩⟩ := h.own
 · injection h0.1 with _ e _
   rw [e, h0.2]
 · injection hv with _ e _
theorem HandP.at_ {w A : World} {L : List Mono} {pre : List Part} {x : Part} (h : HandP w L pre x A) : L[pre.length]? = some x.mono ∧ pre.length + 1 ≤ L.length := by
 obtain ⟨r, hr⟩ := h.pf
 rw [← hr]
 constructor
 · rw [List.map_append, List.append_assoc, List.getElem?_append_right (by simp)]
   simp
 · simp
theorem TellP.next {w A A' : World} {b G cap : Nat} {es L : List Mono} {pre : List Part} {x : Part} (h : TellP w b es L pre A) (hx : HandP w L pre x A) (hb : b < w.heap.size) (h12 : pre.length < 12) (h4 : x.at_.length ≤ 4)
 (ho : OwnM A' (w.heap.size + 4) (.slice (some ⟨G, 0, none⟩) (pre.length + 1) cap) (pre.map Part.cell ++ [x.cell])) (hB : Below (w.heap.size + 4) A A')
 (hk : ∀ (k : Nat) (o : Obj), A.heap[k]? = some o → (∀ cs z, o ≠ Obj.cells cs 82 z) → A'.heap[k]? = some o) :
 TellP w b es L (pre ++ [x]) (A'.setCell ⟨w.heap.size + 2, 0, none⟩ (.slice (some ⟨G, 0, none⟩) (pre.length + 1) cap)) := by
 obtain ⟨vq, vc, k1, k2⟩ := h.r4
 have box : ∀ {B t v}, Boxed A B t v → t ≠ 82 → Boxed A' B t v := fun hb ht => hk _ _ hb (fun cs z e => ht (by injection e))
 have b4 := box k1 (by decide)
 have tn : Turn (w.heap.size + 2) A' (A'.setCell ⟨w.heap.size + 2, 0, none⟩ (.slice (some ⟨G, 0, none⟩) (pre.length + 1) cap)) := (Turn.refl _ A').setCell (p := ⟨w.heap.size + 2, 0, none⟩) rfl _
 have far : ∀ {B t v}, Boxed A' B t v → B ≠ w.heap.size + 2 → Boxed (A'.setCell ⟨w.heap.size + 2, 0, none⟩ (.slice (some ⟨G, 0, none⟩) (pre.length + 1) cap)) B t v := fun hb hne => (tn.block _ hb.lt hne).trans hb
 have row : ∀ {v xs}, IntS.Own A (w.heap.size + 4) v xs → IntS.Own (A'.setCell ⟨w.heap.size + 2, 0, none⟩ (.slice (some ⟨G, 0, none⟩) (pre.length + 1) cap)) (w.heap.size + 4) v xs := fun hr => by
  obtain ⟨hl, h0 | ⟨g, cp, cur, hv, hb, hh, rest⟩⟩ := hr
  · exact ⟨hl, Or.inl h0⟩
  · have h1 := hk g _ hh (fun cs z e => by injection e with _ e2 _; exact absurd e2 (by decide))
    exact ⟨hl, Or.inr ⟨g, cp, cur, hv, hb, (tn.block g (lt_of_some h1) (by omega)).trans h1, rest⟩⟩
 have lo' : w.heap.size + 4 ≤ A'.heap.size := Nat.le_trans h.lo hB.size
 have f2 := far (box h.r2 (by decide)) (by omega)
 have f3 := far (box h.r3 (by decide)) (by omega)
 have fx := far (box h.bx (by decide)) (by omega)
 have mp' : MapOf A' b es := h.mp.same (hB.block b (by omega))
 have bw' : Below w.heap.size w (A'.setCell ⟨w.heap.size + 2, 0, none⟩ (.slice (some ⟨G, 0, none⟩) (pre.length + 1) cap)) := (h.bw.trans (hB.mono (by omega))).setCell (p := ⟨w.heap.size + 2, 0, none⟩) (by show w.heap.size ≤ w.heap.size + 2; omega) _
 have lo'' : w.heap.size + 4 ≤ (A'.setCell ⟨w.heap.size + 2, 0, none⟩ (.slice (some ⟨G, 0, none⟩) (pre.length + 1) cap)).heap.size := Nat.le_trans lo' tn.size
 refine ⟨bw', f2, f3, ⟨some ⟨G, 0, none⟩, cap, ?_, ?_⟩, fx, mp'.turn tn (by omega), fun p hp => ?_, fun i j p r hij hi hj a a' ha ha' => ?_, hx.pf, by simp; omega, fun p hp => ?_, lo''⟩
 · rw [List.length_append]
   exact b4.set _
 · rw [List.length_append, List.map_append]
   refine OwnM.turn ?_ tn (fun G' n c e => ?_)
   · exact ho
   · injection e with e1 _ _
     injection e1 with e2
     injection e2 with e3 _ _
     have := ho.cells.2.2.2.1
     omega
 · rcases List.mem_append.1 hp with hp | hp
   · exact row (h.rows p hp)
   · rw [List.mem_singleton.1 hp]; exact row hx.own
 · have hjl : j < pre.length + 1 := by have := (List.getElem?_eq_some_iff.1 hj).1; simpa using this
   rw [List.getElem?_append_left (by omega)] at hi
   by_cases e : j < pre.length
   · rw [List.getElem?_append_left e] at hj
     exact h.apart i j p r hij hi hj a a' ha ha'
   · obtain rfl : j = pre.length := by omega
     have : r = x := by simpa using hj.symm
     subst this
     exact hx.last p (List.mem_of_getElem? hi) a a' ha ha'
 · rcases List.mem_append.1 hp with hp | hp
   · exact h.high p hp
   · rw [List.mem_singleton.1 hp]; exact h4
theorem frozen_mild {B : Nat} {A A' : World} (h : Mild B A A') {a : Addr} {v : Value} (hc : A.cell? a = some v) (hf : A.frozen? a = false) : A'.frozen? a = false := by
 unfold World.cell? at hc
 unfold World.frozen? at hf ⊢
 cases ho : A.heap[a.block]? with
 | none => simp [ho] at hc
 | some o =>
  cases o with
  | cells cs t z => rw [h.cells _ _ _ _ ho]; simpa [ho] using hf
  | _ => simp [ho] at hc
theorem wrow_mild {B b : Nat} {A A' : World} {v : Value} {xs : List Int} (h : WRow A b v xs) (hm : Mild B A A') : WRow A' b v xs := by
 obtain ⟨a, cap, off, h1, h2, h3, hz, h4⟩ := h
 refine ⟨a, cap, off, h1, h2, h3, hz, h4.imp id fun ⟨e1, e2, e3⟩ => ⟨e1, Nat.lt_of_lt_of_le e2 hm.size, fun i x hx => ?_⟩⟩
 obtain ⟨k1, k2⟩ := e3 i x hx
 exact ⟨hm.cell k1, frozen_mild hm k1 k2⟩
theorem WPoly.mild {B lo hi : Nat} {A A' : World} {v : Value} {ps : List Mono} (h : WPoly A lo hi v ps) (hm : Mild B A A') : WPoly A' lo hi v ps := by
 obtain ⟨a, G, cap, g, s, h1, h⟩ := h
 refine ⟨a, G, cap, g, s, h1, h.le, h.mx, h.nl, h.at_.imp id (fun ⟨e1, e2, e3, e4⟩ => ⟨e1, e2, e3, Nat.lt_of_lt_of_le e4 hm.size⟩), fun i x hx => ?_, h.apart⟩
 obtain ⟨k1, k2, k3, k4, k5⟩ := h.cells i x hx
 exact ⟨hm.cell k1, frozen_mild hm k1 k2, hm.cell k3, wrow_mild k4 hm, k5⟩
def Part.blk (p : Part) : Nat := match p.q with
 | some a => a.block
 | none => 0
theorem own_wrow {A : World} {lo : Nat} {p : Part} (h : IntS.Own A lo (.slice p.q p.m p.k) p.at_) : WRow A p.blk (.slice p.q p.m p.k) p.at_ ∧ (p.at_ = [] ∨ ∃ a, p.q = some a ∧ lo ≤ p.blk ∧ p.blk < A.heap.size ∧ IsT A p.blk 3) := by
 by_cases e : (Value.slice p.q p.m p.k) = .slice none 0 0
 · have e0 : p.at_ = [] := by
    obtain ⟨_, h0 | ⟨g, cap, cur, hv, _⟩⟩ := h
    · exact List.length_eq_zero_iff.1 h0.2
    · rw [e] at hv; injection hv with q _ _; cases q
   refine ⟨?_, Or.inl e0⟩
   rw [e, e0]
   exact ⟨none, 0, 0, rfl, Nat.le_refl _, Nat.zero_le _, fun _ => rfl, Or.inl rfl⟩
 · obtain ⟨g, cap, hv, k1, k2, k3⟩ := h.form e
   injection hv with q1 q2 q3
   have eb : p.blk = g := by unfold Part.blk; rw [q1]
   rw [eb]
   refine ⟨k3, Or.inr ⟨_, q1, k1, k2, ?_⟩⟩
   obtain ⟨_, h0 | ⟨g', cap', cur, hv', _, hh, _⟩⟩ := h
   · exact absurd h0.1 e
   · rw [q1] at hv'
     injection hv' with r1 _ _
     injection r1 with r2
     injection r2 with r3 _ _
     rw [r3]
     exact ⟨cur, _, hh⟩
theorem TellP.whole {w A : World} {b : Nat} {es L : List Mono} {xs : List Part} {vq : Option Addr} {vc : Nat} (h : TellP w b es L xs A) (hL : xs.map Part.mono = L) (ho : OwnM A (w.heap.size + 4) (.slice vq xs.length vc) (xs.map Part.cell)) : WPoly A (w.heap.size + 4) A.heap.size (.slice vq xs.length vc) L := by
 have ll : L.length = xs.length := by rw [← hL]; simp
 by_cases hn : (Value.slice vq xs.length vc) = .slice none 0 0
 · have hx : xs = [] := List.length_eq_zero_iff.1 (by injection hn)
   have hl : L = [] := by rw [← hL, hx]; rfl
   rw [hn, hl]
   exact ⟨none, 0, 0, fun _ => 0, fun _ => .slice none 0 0, rfl, Nat.le_refl _, Nat.zero_le _, fun _ => rfl, Or.inl rfl, fun i x hx => by simp at hx, fun i j x y _ hx => by simp at hx⟩
 · obtain ⟨G, cap, e⟩ := ho.form hn
   injection e with e1 e2 e3
   subst e1 e3
   obtain ⟨_, hc, hm, hb, hI, hcells, hsoft⟩ := ho.cells
   have mi : (82 : TypeId) ≠ 3 := by decide
   have part : ∀ (i : Nat) x, L[i]? = some x → ∃ p, xs[i]? = some p ∧ x = p.mono := fun i x hx => by
    rw [← hL, List.getElem?_map] at hx
    cases hp : xs[i]? with
    | none => rw [hp] at hx; cases hx
    | some p => rw [hp] at hx; exact ⟨p, rfl, (Option.some.inj hx).symm⟩
   refine ⟨some ⟨G, 0, none⟩, G, vc, fun i => (xs[i]?.map Part.blk).getD 0, fun i => (xs[i]?.map fun p => Value.slice p.q p.m p.k).getD (.slice none 0 0), by rw [ll], by omega, hm, (fun h => by cases h), Or.inr ⟨rfl, hb, hI.lt, hI.lt⟩, fun i x hx => ?_, fun i j x y hij hx hy => ?_⟩
   · obtain ⟨p, hp, rfl⟩ := part i x hx
     obtain ⟨c1, c2⟩ := hcells i p.cell (by rw [List.getElem?_map, hp]; rfl)
     obtain ⟨k1, k2⟩ := own_wrow (h.rows p (List.mem_of_getElem? hp))
     simp only [hp, Option.map_some, Option.getD_some]
     exact ⟨c1, hsoft _, c2, k1, k2.imp id fun ⟨a, _, q1, q2, q3⟩ => ⟨q1, q2, fun e => IsT.ne hI q3 mi e.symm⟩⟩
   · obtain ⟨p, hp, rfl⟩ := part i x hx
     obtain ⟨r, hr, rfl⟩ := part j y hy
     simp only [hp, hr, Option.map_some, Option.getD_some]
     rcases (own_wrow (h.rows p (List.mem_of_getElem? hp))).2 with q | ⟨a, q, _⟩
     · exact Or.inl q
     · rcases (own_wrow (h.rows r (List.mem_of_getElem? hr))).2 with q' | ⟨a', q', _⟩
       · exact Or.inr (Or.inl q')
       · have := h.apart i j p r hij hp hr a a' q q'
         refine Or.inr (Or.inr (fun e => ?_))
         unfold Part.blk at e
         rw [q, q'] at e
         simp only [] at e
         omega
end Go.Proofs.YtggilenddbobnaaGreat.Pol
