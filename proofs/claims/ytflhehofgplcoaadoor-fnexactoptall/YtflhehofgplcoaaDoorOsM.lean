/-
  Our own hand: lists of bools and of operations that a call makes; the specification's l10Drop.
-/
import Derived.Test.YtflhehofgplcoaaDoorOsL
namespace Go.Proofs.YtflhehofgplcoaaDoor.Op
set_option linter.unusedVariables false
set_option linter.unusedSimpArgs false
open Go.ChangeShapes Go.WideShapes Go.ChangeAt Go.RowKit IntS Flat Irk
open Ir Dt
open Mch (Rec)
open Push
def valsB (bs : List Bool) : List Value := bs.map Value.bool
def OwnL (w : World) (lo : Nat) (v : Value) (bs : List Bool) : Prop := w.ownsRow lo 4 1 v bs.length (valsB bs)
theorem infoBool : ∃ i, Tryd.prog.info? 4 = some i ∧ i.zero = some (.bool false) ∧ i.size = 1 ∧ i.bytes = 1 := by
  have hinfo : (Tryd.prog.info? 4).map (fun i => (i.zero, i.size, i.bytes)) = some (some (.bool false), 1, 1) := by kernel_rfl
  obtain ⟨i, hi, h⟩ := Option.map_eq_some_iff.1 hinfo
  simp only [Prod.mk.injEq] at h
  exact ⟨i, hi, h.1, h.2.1, h.2.2⟩
/-- Bools that can be read, and written, in a block from its first cell on. -/
structure Bw (w : World) (g n cap : Nat) (bs : List Bool) : Prop where
  len : bs.length = n
  le : n ≤ cap
  mx : cap ≤ maxLen
  lt : g < w.heap.size
  at_ : ∀ (i : Nat) b, bs[i]? = some b → w.cell? ⟨g, i, none⟩ = some (.bool b) ∧ w.frozen? ⟨g, i, none⟩ = false
theorem Bw.turn {w w' : World} {g n cap B : Nat} {bs : List Bool} (h : Bw w g n cap bs) (ht : Turn B w w') (hB : g ≠ B) : Bw w' g n cap bs :=
  ⟨h.len, h.le, h.mx, Nat.lt_of_lt_of_le h.lt ht.size, fun i b hb => ⟨(ht.cell (p := ⟨g, i, none⟩) h.lt hB).trans (h.at_ i b hb).1, (ht.frozen (p := ⟨g, i, none⟩) h.lt hB).trans (h.at_ i b hb).2⟩⟩
theorem Bw.below {w w' : World} {g n cap : Nat} {bs : List Bool} (h : Bw w g n cap bs) (hb : Below w.heap.size w w') : Bw w' g n cap bs := h.turn (B := g + 1) (Turn.of_below hb) (by omega)
theorem OwnL.form {w : World} {lo g cap : Nat} {bs : List Bool} (h : OwnL w lo (.slice (some ⟨g, 0, none⟩) bs.length cap) bs) : lo ≤ g ∧ Bw w g bs.length cap bs := by
  obtain ⟨hl, h0 | ⟨g', cap', cur, hv, hb, hg, hle, hm, hc, ht⟩⟩ := h
  · cases h0.1
  · cases hv
    have hlt : g < w.heap.size := by
      rcases Nat.lt_or_ge g w.heap.size with h' | h'
      · exact h'
      · rw [Array.getElem?_eq_none h'] at hg; cases hg
    refine ⟨hb, rfl, hle, hm, hlt, fun i b hx => ?_⟩
    have hi : i < bs.length * 1 := by rw [Nat.mul_one]; exact (List.getElem?_eq_some_iff.1 hx).1
    have h1 : cur.toList[i]? = some (.bool b) := by
      have e1 : (cur.toList.take (bs.length * 1))[i]? = cur.toList[i]? := by rw [List.getElem?_take_of_lt hi]
      rw [← e1, ht]
      simp [valsB, List.getElem?_map, hx]
    have h2 : cur[i]? = some (.bool b) := by rw [← Array.getElem?_toList]; exact h1
    constructor
    · unfold World.cell?
      simp [hg, h2]
    · unfold World.frozen?
      simp [hg]
theorem OwnL.below {w w' : World} {lo : Nat} {v : Value} {bs : List Bool} (h : OwnL w lo v bs) (hb : Below w.heap.size w w') : OwnL w' lo v bs := owns_turn h (Turn.of_below (B := w.heap.size) hb) (Or.inr (Nat.le_refl _))
theorem OwnL.empty {w : World} {g : Nat} (hg : w.heap[g]? = some (.cells #[] 4 (0, 0))) : OwnL w g (.slice (some ⟨g, 0, none⟩) 0 0) [] :=
  ⟨rfl, Or.inr ⟨g, 0, #[], rfl, Nat.le_refl _, hg, Nat.le_refl _, by unfold maxLen; omega, rfl, rfl⟩⟩
/-- One bool more. -/
theorem run_pushL {w : World} {ty : TypeId} {lo cap : Nat} {q : Option Addr} {bs : List Bool} (hown : OwnL w lo (.slice q bs.length cap) bs) (hn : bs.length ≤ 1000000) (hlo : lo ≤ w.heap.size) (Z : Nat) (b : Bool) (hr : w.cell? ⟨Z, 0, none⟩ = some (.bool b)) :
    ∃ g' cap' w', (Builtin.append_ #[34, 34] ty #[.slice q bs.length cap, .slice (some ⟨Z, 0, none⟩) 1 1]).run Tryd.prog w = .ok (.slice (some ⟨g', 0, none⟩) (bs.length + 1) cap') w' ∧ OwnL w' lo (.slice (some ⟨g', 0, none⟩) (bs ++ [b]).length cap') (bs ++ [b]) ∧ ((Value.slice q bs.length cap).ownBlock = some g' ∨ w.heap.size ≤ g') ∧ g' < w'.heap.size ∧ w.grownBy w' (Value.slice q bs.length cap).ownBlock := by
  obtain ⟨j, hi, hz, hsz, hby⟩ := infoBool
  obtain ⟨g', cap', w', h1, h2, h3⟩ := run_push (P := Tryd.prog) (w := w) lo 34 ty 4 j _ 1 1 Tryd.underlying34 hi hz hsz hby rfl (by decide) _ bs.length (valsB bs) hown ⟨Z, 0, none⟩ [.bool b] rfl (fun i u hu => by
    match i, hu with
    | 0, hu => cases hu; rw [Addr.add_lit]; exact hr
    | i + 1, hu => simp at hu) (fun u hu => by
    obtain rfl := List.mem_singleton.1 hu
    rfl) (by unfold maxLen; omega) (by omega) hlo
  refine ⟨g', cap', w', h1, ?_, h3⟩
  unfold OwnL
  rw [List.length_append, show valsB (bs ++ [b]) = valsB bs ++ [.bool b] by simp [valsB]]
  exact h2
/-- One operation more. -/
theorem run_pushO {w : World} {ty : TypeId} {lo cap : Nat} {q : Option Addr} {os : List Opn} (hown : OwnO w lo (.slice q os.length cap) os) (hn : os.length ≤ 1000000000000) (hlo : lo ≤ w.heap.size) (Z : Nat) (o : Opn) (hr : Rec Z [.int .i64 o.kd, .int .i64 o.x, .int .i64 o.y, .int .i64 o.k, .int .i64 o.t] w) :
    ∃ g' cap' w', (Builtin.append_ #[26, 26] ty #[.slice q os.length cap, .slice (some ⟨Z, 0, none⟩) 1 1]).run Tryd.prog w = .ok (.slice (some ⟨g', 0, none⟩) (os.length + 1) cap') w' ∧ OwnO w' lo (.slice (some ⟨g', 0, none⟩) (os ++ [o]).length cap') (os ++ [o]) ∧ ((Value.slice q os.length cap).ownBlock = some g' ∨ w.heap.size ≤ g') ∧ g' < w'.heap.size ∧ w.grownBy w' (Value.slice q os.length cap).ownBlock := by
  obtain ⟨j, hi, hz, hsz, hby⟩ := infoOp
  obtain ⟨g', cap', w', h1, h2, h3⟩ := run_flat (P := Tryd.prog) 26 ty 41 j _ 5 40 Tryd.underlying26 hi hz hsz hby rfl (by decide) (by decide) hown hn hlo ⟨Z, 0, none⟩ [o.kd, o.x, o.y, o.k, o.t] rfl (fun j x hx => by
    rw [Addr.add_lit, Nat.zero_add]
    match j, hx with
    | 0, hx => cases hx; exact hr.cell 0 _ rfl
    | 1, hx => cases hx; exact hr.cell 1 _ rfl
    | 2, hx => cases hx; exact hr.cell 2 _ rfl
    | 3, hx => cases hx; exact hr.cell 3 _ rfl
    | 4, hx => cases hx; exact hr.cell 4 _ rfl
    | j + 5, hx => simp at hx)
  refine ⟨g', cap', w', h1, ?_, h3⟩
  unfold OwnO
  rw [flatO_app, List.length_append]
  exact h2
theorem OwnO.form' {w : World} {lo g cap : Nat} {os : List Opn} (h : OwnO w lo (.slice (some ⟨g, 0, none⟩) os.length cap) os) : lo ≤ g ∧ Ow w g os.length cap os := by
  rcases h.form with ⟨e, _⟩ | ⟨g', cap', e, k1, k2, k3⟩
  · cases e
  · cases e
    exact ⟨k1, Ow.of (wo_of k3) k2⟩
set_option maxRecDepth 8000 in
set_option maxHeartbeats 16000000 in
theorem l10Drop (b : Bk) (keep : List Bool) (q : Option Addr) (c B Kb kc : Nat) (w : World) (h : ORow w B (.slice q b.ops.length c) b.ops) (hb : Bw w Kb b.ops.length kc keep) (hok : okB b = true) :
    Calls Tryd.prog 26 #[.agg #[.int .i64 b.pc, .int .i64 b.ln, .slice q b.ops.length c, .int .i64 b.en, .int .i64 b.x, .int .i64 b.y, .int .i64 b.k], .slice (some ⟨Kb, 0, none⟩) b.ops.length kc] w fun e w' => ∃ cs', e = .returned (.agg cs'.toArray) ∧ blkR.ow w' (New w w') cs' (toT (dropB b keep)) ∧ Below w.heap.size w w' := by
  obtain ⟨h1, h2, h3, h4, h5⟩ := ok_parts hok
  obtain ⟨pc, ln, ops, en, x, y, k⟩ := b
  simp only [] at h hb h1 h2 h3 h4 h5 ⊢
  obtain ⟨r1, r2, b0⟩ := boxes w (.int .i64 pc) (.int .i64 ln) (.slice q ops.length c) (.int .i64 en) (.int .i64 x) (.int .i64 y) (.int .i64 k)
  have s2 : ((w.alloc (.cells #[.int .i64 pc, .int .i64 ln, .slice q ops.length c, .int .i64 en, .int .i64 x, .int .i64 y, .int .i64 k] 28)).alloc (.cells #[.int .i64 0, .int .i64 0, .slice none 0 0, .int .i64 0, .int .i64 0, .int .i64 0, .int .i64 0] 28)).heap.size = w.heap.size + 1 + 1 := by simp
  have s3 : (((w.alloc (.cells #[.int .i64 pc, .int .i64 ln, .slice q ops.length c, .int .i64 en, .int .i64 x, .int .i64 y, .int .i64 k] 28)).alloc (.cells #[.int .i64 0, .int .i64 0, .slice none 0 0, .int .i64 0, .int .i64 0, .int .i64 0, .int .i64 0] 28)).alloc (.cells #[] 41)).heap.size = w.heap.size + 1 + 1 + 1 := by simp
  have b3 : Below ((w.alloc (.cells #[.int .i64 pc, .int .i64 ln, .slice q ops.length c, .int .i64 en, .int .i64 x, .int .i64 y, .int .i64 k] 28)).alloc (.cells #[.int .i64 0, .int .i64 0, .slice none 0 0, .int .i64 0, .int .i64 0, .int .i64 0, .int .i64 0] 28)).heap.size ((w.alloc (.cells #[.int .i64 pc, .int .i64 ln, .slice q ops.length c, .int .i64 en, .int .i64 x, .int .i64 y, .int .i64 k] 28)).alloc (.cells #[.int .i64 0, .int .i64 0, .slice none 0 0, .int .i64 0, .int .i64 0, .int .i64 0, .int .i64 0] 28)) (((w.alloc (.cells #[.int .i64 pc, .int .i64 ln, .slice q ops.length c, .int .i64 en, .int .i64 x, .int .i64 y, .int .i64 k] 28)).alloc (.cells #[.int .i64 0, .int .i64 0, .slice none 0 0, .int .i64 0, .int .i64 0, .int .i64 0, .int .i64 0] 28)).alloc (.cells #[] 41)) := (Below.refl _ _).alloc (Nat.le_refl _) _
  have b4 : Below (((w.alloc (.cells #[.int .i64 pc, .int .i64 ln, .slice q ops.length c, .int .i64 en, .int .i64 x, .int .i64 y, .int .i64 k] 28)).alloc (.cells #[.int .i64 0, .int .i64 0, .slice none 0 0, .int .i64 0, .int .i64 0, .int .i64 0, .int .i64 0] 28)).alloc (.cells #[] 41)).heap.size (((w.alloc (.cells #[.int .i64 pc, .int .i64 ln, .slice q ops.length c, .int .i64 en, .int .i64 x, .int .i64 y, .int .i64 k] 28)).alloc (.cells #[.int .i64 0, .int .i64 0, .slice none 0 0, .int .i64 0, .int .i64 0, .int .i64 0, .int .i64 0] 28)).alloc (.cells #[] 41)) ((((w.alloc (.cells #[.int .i64 pc, .int .i64 ln, .slice q ops.length c, .int .i64 en, .int .i64 x, .int .i64 y, .int .i64 k] 28)).alloc (.cells #[.int .i64 0, .int .i64 0, .slice none 0 0, .int .i64 0, .int .i64 0, .int .i64 0, .int .i64 0] 28)).alloc (.cells #[] 41)).alloc (.cells #[] 3)) := (Below.refl _ _).alloc (Nat.le_refl _) _
  have bb := (b0.trans (b3.mono b0.size))
  have bE : Below w.heap.size w ((((w.alloc (.cells #[.int .i64 pc, .int .i64 ln, .slice q ops.length c, .int .i64 en, .int .i64 x, .int .i64 y, .int .i64 k] 28)).alloc (.cells #[.int .i64 0, .int .i64 0, .slice none 0 0, .int .i64 0, .int .i64 0, .int .i64 0, .int .i64 0] 28)).alloc (.cells #[] 41)).alloc (.cells #[] 3)) := bb.trans (b4.mono bb.size)
  have oo := (own_emptyO (w := (((w.alloc (.cells #[.int .i64 pc, .int .i64 ln, .slice q ops.length c, .int .i64 en, .int .i64 x, .int .i64 y, .int .i64 k] 28)).alloc (.cells #[.int .i64 0, .int .i64 0, .slice none 0 0, .int .i64 0, .int .i64 0, .int .i64 0, .int .i64 0] 28)).alloc (.cells #[] 41))) (g := w.heap.size + 1 + 1) (heap_last s2)).below b4
  have ot := own_empty (w := ((((w.alloc (.cells #[.int .i64 pc, .int .i64 ln, .slice q ops.length c, .int .i64 en, .int .i64 x, .int .i64 y, .int .i64 k] 28)).alloc (.cells #[.int .i64 0, .int .i64 0, .slice none 0 0, .int .i64 0, .int .i64 0, .int .i64 0, .int .i64 0] 28)).alloc (.cells #[] 41)).alloc (.cells #[] 3))) (g := w.heap.size + 1 + 1 + 1) (heap_last s3)
  have RA := hide ((r1.below b3).below b4)
  have RZ := hide ((r2.below b3).below b4)
  have OO := hide oo
  have OT := hide (Own.mono ot (show w.heap.size + 1 + 1 ≤ w.heap.size + 1 + 1 + 1 by omega))
  have HR := hide h
  have HK := hide hb
  have BW := hide bE
  have KL : Hid (Kb < w.heap.size) := hb.lt
  have OPS := hide h4
  have END := hide h5
  obtain ⟨R, eR⟩ : ∃ R, dropB (⟨pc, ln, ops, en, x, y, k⟩ : Bk) keep = R := ⟨_, rfl⟩
  rw [eR]
  have ER := hide eR
  clear eR s2 s3 b3 b4 bb bE oo ot r1 r2 b0 h hb h4 h5 hok
  go_enter Tryd.func26, Tryd.ntmps26
  go_wp2
  generalize ((((w.alloc (.cells #[.int .i64 pc, .int .i64 ln, .slice q ops.length c, .int .i64 en, .int .i64 x, .int .i64 y, .int .i64 k] 28)).alloc (.cells #[.int .i64 0, .int .i64 0, .slice none 0 0, .int .i64 0, .int .i64 0, .int .i64 0, .int .i64 0] 28)).alloc (.cells #[] 41)).alloc (.cells #[] 3)) = V4 at RA RZ OO OT BW ⊢
  go_loopw [5, 6, 7] (fun so st i wr => ∃ (j go co gt ct : Nat) (out : List Opn) (to : List Int), j ≤ ops.length ∧ i = .int .i64 j ∧ so = .slice (some ⟨go, 0, none⟩) out.length co ∧ st = .slice (some ⟨gt, 0, none⟩) to.length ct ∧ Hid (out = (dropS ops keep j).1 ∧ to = (dropS ops keep j).2) ∧ Hid (OwnO wr (w.heap.size + 1 + 1) (.slice (some ⟨go, 0, none⟩) out.length co) out) ∧ Hid (Own wr (w.heap.size + 1 + 1) (.slice (some ⟨gt, 0, none⟩) to.length ct) to) ∧ Hid (go ≠ gt) ∧ Hid (Rec w.heap.size [.int .i64 pc, .int .i64 ln, .slice q ops.length c, .int .i64 en, .int .i64 x, .int .i64 y, .int .i64 k] wr) ∧ Hid (Rec (w.heap.size + 1) [.int .i64 0, .int .i64 0, .slice none 0 0, .int .i64 0, .int .i64 0, .int .i64 0, .int .i64 0] wr) ∧ Hid (Below w.heap.size w wr)) (fun _ _ i _ => ops.length - (intOf i).toNat)
  case atStart => exact ⟨0, w.heap.size + 1 + 1, 0, w.heap.size + 1 + 1 + 1, 0, [], [], by omega, rfl, rfl, rfl, ⟨rfl, rfl⟩, OO, OT, (by show _ ≠ _; omega), RA, RZ, BW⟩
  case round =>
    clear OO OT RA RZ BW
    obtain ⟨j, go, co, gt, ct, out, to, hj, rfl, rfl, rfl, EQ, OO, OT, NE, RA, RZ, BW⟩ := hrel
    have x2 := RA.out.cell 2 _ rfl
    obtain ⟨l1, l2⟩ := dropS_len ops keep j (by omega)
    rw [← EQ.out.2] at l1
    rw [← EQ.out.1] at l2
    have L1H := hide l1
    have L2H := hide l2
    clear l1 l2
    obtain ⟨gb1, OW⟩ := OwnO.form' OO.out
    obtain ⟨gt', ct', ef, gb2, gl2, WR⟩ := OT.out.form (fun e => by cases e)
    cases ef
    have GB : Hid (w.heap.size + 1 + 1 ≤ go ∧ w.heap.size + 1 + 1 ≤ gt ∧ go < wr.heap.size ∧ gt < wr.heap.size) := ⟨gb1, gb2, OW.lt, gl2⟩
    clear gb1 gb2 gl2
    by_cases hlt : j < ops.length
    · obtain ⟨o, et⟩ : ∃ o, ops[j]? = some o := ⟨_, List.getElem?_eq_getElem (by omega)⟩
      obtain ⟨kb, ek⟩ : ∃ b, keep[j]? = some b := ⟨_, List.getElem?_eq_getElem (by rw [HK.out.len]; omega)⟩
      have OP := op_parts (OPS.out j o et)
      have NX := dropS_next (keep := keep) et
      rw [← EQ.out.1, ← EQ.out.2, List.getD_eq_getElem?_getD, ek] at NX
      simp only [Option.getD_some] at NX
      replace NX := hide NX
      have ET := hide et
      have lk : ((j : Nat) : Int) < (ops.length : Nat) := by omega
      clear OW WR
      -- to gets one more
      have bP : Below wr.heap.size wr (wr.alloc (.cells #[.int .i64 (out.length : Int)] 3)) := (Below.refl _ _).alloc (Nat.le_refl _) _
      have NB := hide ((Rec.new wr [.int .i64 (out.length : Int)] 3).cell 0 _ rfl)
      have OO1 := hide (OO.out.below bP)
      have OT1 := hide (OT.out.turn (B := gt + 1) (Turn.of_below bP) (by omega) GB.out.2.2.2)
      have RA1 := hide (RA.out.below bP)
      have RZ1 := hide (RZ.out.below bP)
      have BW1 := hide (BW.out.trans (bP.mono BW.out.size))
      have LO1 : Hid (w.heap.size + 1 + 1 ≤ (wr.alloc (.cells #[.int .i64 (out.length : Int)] 3)).heap.size) := Nat.le_trans (by have := GB.out; omega) bP.size
      have GS1 : Hid (go < (wr.alloc (.cells #[.int .i64 (out.length : Int)] 3)).heap.size) := Nat.lt_of_lt_of_le GB.out.2.2.1 bP.size
      clear bP OO OT RA RZ BW et
      go_wp2_with (at_builtin; refine wpList_push rfl _ _ rfl (w.heap.size + 1 + 1) gt ct to rfl OT1.out LO1.out ⟨wr.heap.size, 0, none⟩ (out.length : Int) rfl NB.out (by have := L1H.out; omega) ?_; intro g1 c1 w1 O1 G1 L1 T1; refine Hid.out ?_)
      have OT := hide O1
      have OO := hide (OO1.out.apart T1 (fun G e h => NE.out (by cases e; exact h)))
      have RA := hide (RA1.out.turn T1 (by have := GB.out; omega))
      have RZ := hide (RZ1.out.turn T1 (by have := GB.out; omega))
      have BW := hide (BW1.out.trans (T1.below (by have := GB.out; omega) BW1.out.size))
      have NE1 : Hid (go ≠ g1) := show _ ≠ _ by
        rcases G1 with rfl | h9
        · exact NE.out
        · have := GS1.out; omega
      have lto : Hid ((to ++ [(out.length : Int)]).length = j + 1) := show _ = _ by have := L1H.out; simp; omega
      obtain ⟨to1, eto⟩ : ∃ z, to ++ [(out.length : Int)] = z := ⟨_, rfl⟩
      rw [eto] at OT lto NX
      have G2 : Hid (w.heap.size + 1 + 1 ≤ g1 ∧ g1 < w1.heap.size) := ⟨by rcases G1 with rfl | h9; exact GB.out.2.1; have := LO1.out; omega, L1⟩
      have GO : Hid (go < w1.heap.size) := Nat.lt_of_lt_of_le GS1.out T1.size
      have x2 := RA.out.cell 2 _ rfl
      have ck := ((HK.out.below BW.out).at_ j kb ek).1
      have K1 := HK.out.le
      have K2 := HK.out.mx
      unfold maxLen at K2
      have G5 : Hid (w.heap.size + 1 + 1 ≤ go) := GB.out.1
      clear O1 G1 L1 T1 OO1 OT1 RA1 RZ1 BW1 NB LO1 GS1 GB NE
      have LT1 : Hid (to1.length = to.length + 1) := show _ = _ by rw [← eto]; simp
      clear eto
      refine hide ?_
      cases kb with
      | false =>
        simp only [Bool.false_eq_true, if_false] at NX
        have E2 : Hid (out = (dropS ops keep (j + 1)).1 ∧ to1 = (dropS ops keep (j + 1)).2) := by rw [NX.out]; exact ⟨rfl, rfl⟩
        go_wp2
        exact ⟨⟨j + 1, go, co, g1, c1, out, to1, by omega, by go_num, rfl, by rw [LT1.out], E2, OO, OT, NE1, RA, RZ, BW⟩, by simp [intOf]; omega⟩
      | true =>
        simp only [if_true] at NX
        obtain ⟨qa, qc, qo, qe, q2, q3, -, q4⟩ := (HR.out.below BW.out).ex
        cases qe
        unfold maxLen at q3
        obtain ⟨rfl, q5⟩ := q4.resolve_left (fun e => by rw [e] at hlt; simp at hlt)
        obtain ⟨c0, ca, cb, cc, cd⟩ := q5 j o ET.out
        obtain ⟨ga', ca', ef, gb, gl, WR⟩ := OT.out.form (fun e => by cases e)
        cases ef
        have WRR := WR.row
        rw [LT1.out] at WRR
        have LC := hide (l10Alias o to1 g1 _ w1 WRR (Or.inl gl) OP.1 (fun hx => by rw [lto.out]; obtain ⟨m, _, e, h1, _⟩ := val_take (OP.2.1 hx); exact ⟨m, e, by omega⟩) (fun hy => by rw [lto.out]; obtain ⟨m, _, e, h1, _⟩ := val_take (OP.2.2.2.1 hy); exact ⟨m, e, by omega⟩))
        obtain ⟨O, eO⟩ : ∃ O, aliasO o to1 = O := ⟨_, rfl⟩
        rw [eO] at LC NX
        have lout : Hid (out.length ≤ 48) := show _ ≤ _ by have := L2H.out; omega
        clear q5 q4 gb WR WRR eO ET
        go_wp2_with fail
        refine LC.out.mono ?_
        rintro e w2 ⟨rfl, hb2⟩
        clear c0 ca cb cc cd LC x2 ck
        have b5 : Below w2.heap.size w2 (w2.alloc (.cells #[.int .i64 O.kd, .int .i64 O.x, .int .i64 O.y, .int .i64 O.k, .int .i64 O.t] 41)) := (Below.refl _ _).alloc (Nat.le_refl _) _
        have RN := Rec.new w2 [.int .i64 O.kd, .int .i64 O.x, .int .i64 O.y, .int .i64 O.k, .int .i64 O.t] 41
        have OO2 := (OO.out.below hb2).below b5
        have OT2 := hide ((OT.out.turn (B := g1 + 1) (Turn.of_below hb2) (by omega) G2.out.2).turn (B := g1 + 1) (Turn.of_below b5) (by omega) (Nat.lt_of_lt_of_le G2.out.2 hb2.size))
        have RA2 := hide ((RA.out.below hb2).below b5)
        have RZ2 := hide ((RZ.out.below hb2).below b5)
        have BW2 := BW.out.trans (hb2.mono BW.out.size)
        have BW3 := hide (BW2.trans (b5.mono BW2.size))
        have LO2 : w.heap.size + 1 + 1 ≤ (w2.alloc (.cells #[.int .i64 O.kd, .int .i64 O.x, .int .i64 O.y, .int .i64 O.k, .int .i64 O.t] 41)).heap.size := Nat.le_trans (Nat.le_trans (Nat.le_trans G2.out.1 (Nat.le_of_lt G2.out.2)) hb2.size) b5.size
        have G3 : Hid (g1 < (w2.alloc (.cells #[.int .i64 O.kd, .int .i64 O.x, .int .i64 O.y, .int .i64 O.k, .int .i64 O.t] 41)).heap.size) := Nat.lt_of_lt_of_le (Nat.lt_of_lt_of_le G2.out.2 hb2.size) b5.size
        obtain ⟨gx, cx, w3, hrun, OX, GX, LX, gr⟩ := run_pushO (ty := 26) OO2 (by have := lout.out; omega) LO2 w2.heap.size O RN
        have T3 : Turn go _ w3 := Turn.of_grown gr
        have OX2 := hide OX
        have OT3 := hide (OT2.out.turn T3 (fun e => NE1.out e.symm) G3.out)
        have RA3 := hide (RA2.out.turn T3 (by have := G5.out; omega))
        have RZ3 := hide (RZ2.out.turn T3 (by have := G5.out; omega))
        have BW4 := hide (BW3.out.trans (T3.below (by have := G5.out; omega) BW3.out.size))
        have NE3 : Hid (gx ≠ g1) := show _ ≠ _ by
          rcases GX with h9 | h9
          · cases h9; exact NE1.out
          · have := G3.out; omega
        have E2 : Hid (out ++ [O] = (dropS ops keep (j + 1)).1 ∧ to1 = (dropS ops keep (j + 1)).2) := by rw [NX.out]; exact ⟨rfl, rfl⟩
        clear hb2 b5 RN OO2 OT2 RA2 RZ2 BW2 BW3 LO2 OX GX LX gr T3 OO OT RA RZ BW NX
        go_wp2_with (at_builtin; refine push_list rfl _ _ rfl rfl rfl hrun ?_; refine Hid.out ?_)
        clear hrun
        refine hide ?_
        go_wp2
        exact ⟨⟨j + 1, gx, cx, g1, c1, out ++ [O], to1, by omega, by go_num, by simp, by rw [LT1.out], E2, OX2, OT3, NE3, RA3, RZ3, BW4⟩, by simp [intOf]; omega⟩
    · have lk : ¬ ((j : Nat) : Int) < (ops.length : Nat) := by omega
      have ej : j = ops.length := by omega
      rw [ej] at EQ L1H
      have YES : Hid (R = endO (⟨pc, ln, ops, en, x, y, k⟩ : Bk) out to) := show _ = _ by rw [← ER.out, EQ.out.1, EQ.out.2]; rfl
      have HE := (end_parts END.out)
      have ek := HE.1
      have hX := HE.2.1
      have hY := HE.2.2.2.1
      have RW := hide WR
      have WE := hide OW
      clear HE EQ OO OT OW WR x2
      have za0 := fun ob => (RA.out.alloc ob).cell 0 _ rfl
      have za1 := fun ob => (RA.out.alloc ob).cell 1 _ rfl
      have za2 := fun ob => (RA.out.alloc ob).cell 2 _ rfl
      have za3 := fun ob => (RA.out.alloc ob).cell 3 _ rfl
      have za4 := fun ob => (RA.out.alloc ob).cell 4 _ rfl
      have za5 := fun ob => (RA.out.alloc ob).cell 5 _ rfl
      have za6 := fun ob => (RA.out.alloc ob).cell 6 _ rfl
      have z0 := RA.out.cell 0 _ rfl
      have z1 := RA.out.cell 1 _ rfl
      have z2 := RA.out.cell 2 _ rfl
      have z3 := RA.out.cell 3 _ rfl
      have z4 := RA.out.cell 4 _ rfl
      have z5 := RA.out.cell 5 _ rfl
      have z6 := RA.out.cell 6 _ rfl
      have ce : en = 1 ∨ en = 2 ∨ en = 3 ∨ en = 4 := by omega
      rcases ce with rfl | rfl | rfl | rfl
      · have YE : Hid (R = ⟨pc, ln, out, 1, x, y, k⟩) := show _ = _ by
          rw [YES.out]
          unfold endO
          simp only []
          rw [if_pos (by trivial), if_neg (by decide)]
        have bX : Below wr.heap.size wr (wr.alloc (.cells #[.int .i64 pc, .int .i64 ln, .slice (some ⟨go, 0, none⟩) out.length co, .int .i64 1, .int .i64 x, .int .i64 y, .int .i64 k] 28)) := (Below.refl _ _).alloc (Nat.le_refl _) _
        have WE1 := hide (WE.out.below bX)
        have RZ1 := hide (RZ.out.below bX)
        have BW1 := hide (BW.out.trans (bX.mono BW.out.size))
        have G1 : Hid (w.heap.size + 1 + 1 ≤ go) := GB.out.1
        clear bX YES hX hY RA RZ BW WE RW GB
        go_wp2_with (refine lay7 rfl rfl _ _ rfl (w.heap.size + 1) _ _ _ _ _ _ _ RZ1.out rfl _ _ _ _ _ _ _ _ _ rfl ?_; intro p1 R1 TB; refine Hid.out ?_)
        replace BW1 := hide (BW1.out.trans (TB.out.below (by omega) BW1.out.size))
        replace WE1 := hide (WE1.out.turn TB.out (by have := G1.out; omega))
        clear TB RZ1 z0 z1 z2 z3 z4 z5 z6 za0 za1 za2 za3 za4 za5 za6
        refine hide ?_
        have y0 := R1.out.cell 0 _ rfl
        have y1 := R1.out.cell 1 _ rfl
        have y2 := R1.out.cell 2 _ rfl
        have y3 := R1.out.cell 3 _ rfl
        have y4 := R1.out.cell 4 _ rfl
        have y5 := R1.out.cell 5 _ rfl
        have y6 := R1.out.cell 6 _ rfl
        go_wp2
        exact bodyPost_ret (v := .agg #[.int .i64 pc, .int .i64 ln, .slice (some ⟨go, 0, none⟩) out.length co, .int .i64 1, .int .i64 x, .int .i64 y, .int .i64 k]) (by simp [results, Tryd.results26, go_sem, y0, y1, y2, y3, y4, y5, y6]) rfl ⟨_, rfl, by
          rw [YE.out]
          exact Ow.told (b := ⟨pc, ln, out, 1, x, y, k⟩) (n := out.length) WE1.out ⟨by have := G1.out; omega, WE1.out.lt⟩, BW1.out⟩
      · obtain ⟨mx, _, rfl, lx, _⟩ := val_get (hX (by decide))
        rw [← L1H.out] at lx
        obtain ⟨vx, hx⟩ : ∃ v, to[mx]? = some v := ⟨_, List.getElem?_eq_getElem lx⟩
        obtain ⟨off, e0, c1x, -, l1, l2⟩ := row_at RW.out.row rfl hx
        cases e0
        unfold maxLen at l2
        rw [Nat.zero_add] at c1x
        have lx2 : ((mx : Nat) : Int) < (to.length : Nat) := by omega
        have cxa := fun ob => cell_below ((Below.refl _ wr).alloc (Nat.le_refl _) ob) c1x
        have YE : Hid (R = ⟨pc, ln, out, 2, vx, y, k⟩) := show _ = _ by
          rw [YES.out]
          unfold endO
          simp only []
          rw [if_neg (by decide), if_neg (by decide), atL_get hx]
        have bX : Below wr.heap.size wr (wr.alloc (.cells #[.int .i64 pc, .int .i64 ln, .slice (some ⟨go, 0, none⟩) out.length co, .int .i64 2, .int .i64 vx, .int .i64 y, .int .i64 k] 28)) := (Below.refl _ _).alloc (Nat.le_refl _) _
        have WE1 := hide (WE.out.below bX)
        have RZ1 := hide (RZ.out.below bX)
        have BW1 := hide (BW.out.trans (bX.mono BW.out.size))
        have G1 : Hid (w.heap.size + 1 + 1 ≤ go) := GB.out.1
        clear bX YES hX hY RA RZ BW WE RW GB
        go_wp2_with (refine lay7 rfl rfl _ _ rfl (w.heap.size + 1) _ _ _ _ _ _ _ RZ1.out rfl _ _ _ _ _ _ _ _ _ rfl ?_; intro p1 R1 TB; refine Hid.out ?_)
        replace BW1 := hide (BW1.out.trans (TB.out.below (by omega) BW1.out.size))
        replace WE1 := hide (WE1.out.turn TB.out (by have := G1.out; omega))
        clear TB RZ1 z0 z1 z2 z3 z4 z5 z6 za0 za1 za2 za3 za4 za5 za6 c1x cxa
        refine hide ?_
        have y0 := R1.out.cell 0 _ rfl
        have y1 := R1.out.cell 1 _ rfl
        have y2 := R1.out.cell 2 _ rfl
        have y3 := R1.out.cell 3 _ rfl
        have y4 := R1.out.cell 4 _ rfl
        have y5 := R1.out.cell 5 _ rfl
        have y6 := R1.out.cell 6 _ rfl
        go_wp2
        exact bodyPost_ret (v := .agg #[.int .i64 pc, .int .i64 ln, .slice (some ⟨go, 0, none⟩) out.length co, .int .i64 2, .int .i64 vx, .int .i64 y, .int .i64 k]) (by simp [results, Tryd.results26, go_sem, y0, y1, y2, y3, y4, y5, y6]) rfl ⟨_, rfl, by
          rw [YE.out]
          exact Ow.told (b := ⟨pc, ln, out, 2, vx, y, k⟩) (n := out.length) WE1.out ⟨by have := G1.out; omega, WE1.out.lt⟩, BW1.out⟩
      · obtain ⟨mx, _, rfl, lx, _⟩ := val_get (hX (by decide))
        rw [← L1H.out] at lx
        obtain ⟨vx, hx⟩ : ∃ v, to[mx]? = some v := ⟨_, List.getElem?_eq_getElem lx⟩
        obtain ⟨off, e0, c1x, -, l1, l2⟩ := row_at RW.out.row rfl hx
        cases e0
        unfold maxLen at l2
        rw [Nat.zero_add] at c1x
        have lx2 : ((mx : Nat) : Int) < (to.length : Nat) := by omega
        have cxa := fun ob => cell_below ((Below.refl _ wr).alloc (Nat.le_refl _) ob) c1x
        obtain ⟨my, _, rfl, ly, _⟩ := val_get (hY (by decide))
        rw [← L1H.out] at ly
        obtain ⟨vy, hy⟩ : ∃ v, to[my]? = some v := ⟨_, List.getElem?_eq_getElem ly⟩
        obtain ⟨off, e0, c2x, -, -, -⟩ := row_at RW.out.row rfl hy
        cases e0
        rw [Nat.zero_add] at c2x
        have ly2 : ((my : Nat) : Int) < (to.length : Nat) := by omega
        have cya := fun ob => cell_below ((Below.refl _ wr).alloc (Nat.le_refl _) ob) c2x
        have YE : Hid (R = ⟨pc, ln, out, 3, vx, vy, k⟩) := show _ = _ by
          rw [YES.out]
          unfold endO
          simp only []
          rw [if_neg (by decide), if_pos (by decide), atL_get hx, atL_get hy]
        have bX : Below wr.heap.size wr (wr.alloc (.cells #[.int .i64 pc, .int .i64 ln, .slice (some ⟨go, 0, none⟩) out.length co, .int .i64 3, .int .i64 vx, .int .i64 vy, .int .i64 k] 28)) := (Below.refl _ _).alloc (Nat.le_refl _) _
        have WE1 := hide (WE.out.below bX)
        have RZ1 := hide (RZ.out.below bX)
        have BW1 := hide (BW.out.trans (bX.mono BW.out.size))
        have G1 : Hid (w.heap.size + 1 + 1 ≤ go) := GB.out.1
        clear bX YES hX hY RA RZ BW WE RW GB
        go_wp2_with (refine lay7 rfl rfl _ _ rfl (w.heap.size + 1) _ _ _ _ _ _ _ RZ1.out rfl _ _ _ _ _ _ _ _ _ rfl ?_; intro p1 R1 TB; refine Hid.out ?_)
        replace BW1 := hide (BW1.out.trans (TB.out.below (by omega) BW1.out.size))
        replace WE1 := hide (WE1.out.turn TB.out (by have := G1.out; omega))
        clear TB RZ1 z0 z1 z2 z3 z4 z5 z6 za0 za1 za2 za3 za4 za5 za6 c1x cxa c2x cya
        refine hide ?_
        have y0 := R1.out.cell 0 _ rfl
        have y1 := R1.out.cell 1 _ rfl
        have y2 := R1.out.cell 2 _ rfl
        have y3 := R1.out.cell 3 _ rfl
        have y4 := R1.out.cell 4 _ rfl
        have y5 := R1.out.cell 5 _ rfl
        have y6 := R1.out.cell 6 _ rfl
        go_wp2
        exact bodyPost_ret (v := .agg #[.int .i64 pc, .int .i64 ln, .slice (some ⟨go, 0, none⟩) out.length co, .int .i64 3, .int .i64 vx, .int .i64 vy, .int .i64 k]) (by simp [results, Tryd.results26, go_sem, y0, y1, y2, y3, y4, y5, y6]) rfl ⟨_, rfl, by
          rw [YE.out]
          exact Ow.told (b := ⟨pc, ln, out, 3, vx, vy, k⟩) (n := out.length) WE1.out ⟨by have := G1.out; omega, WE1.out.lt⟩, BW1.out⟩
      · obtain ⟨mx, _, rfl, lx, _⟩ := val_get (hX (by decide))
        rw [← L1H.out] at lx
        obtain ⟨vx, hx⟩ : ∃ v, to[mx]? = some v := ⟨_, List.getElem?_eq_getElem lx⟩
        obtain ⟨off, e0, c1x, -, l1, l2⟩ := row_at RW.out.row rfl hx
        cases e0
        unfold maxLen at l2
        rw [Nat.zero_add] at c1x
        have lx2 : ((mx : Nat) : Int) < (to.length : Nat) := by omega
        have cxa := fun ob => cell_below ((Below.refl _ wr).alloc (Nat.le_refl _) ob) c1x
        obtain ⟨my, _, rfl, ly, _⟩ := val_get (hY (by decide))
        rw [← L1H.out] at ly
        obtain ⟨vy, hy⟩ : ∃ v, to[my]? = some v := ⟨_, List.getElem?_eq_getElem ly⟩
        obtain ⟨off, e0, c2x, -, -, -⟩ := row_at RW.out.row rfl hy
        cases e0
        rw [Nat.zero_add] at c2x
        have ly2 : ((my : Nat) : Int) < (to.length : Nat) := by omega
        have cya := fun ob => cell_below ((Below.refl _ wr).alloc (Nat.le_refl _) ob) c2x
        have YE : Hid (R = ⟨pc, ln, out, 4, vx, vy, k⟩) := show _ = _ by
          rw [YES.out]
          unfold endO
          simp only []
          rw [if_neg (by decide), if_pos (by decide), atL_get hx, atL_get hy]
        have bX : Below wr.heap.size wr (wr.alloc (.cells #[.int .i64 pc, .int .i64 ln, .slice (some ⟨go, 0, none⟩) out.length co, .int .i64 4, .int .i64 vx, .int .i64 vy, .int .i64 k] 28)) := (Below.refl _ _).alloc (Nat.le_refl _) _
        have WE1 := hide (WE.out.below bX)
        have RZ1 := hide (RZ.out.below bX)
        have BW1 := hide (BW.out.trans (bX.mono BW.out.size))
        have G1 : Hid (w.heap.size + 1 + 1 ≤ go) := GB.out.1
        clear bX YES hX hY RA RZ BW WE RW GB
        go_wp2_with (refine lay7 rfl rfl _ _ rfl (w.heap.size + 1) _ _ _ _ _ _ _ RZ1.out rfl _ _ _ _ _ _ _ _ _ rfl ?_; intro p1 R1 TB; refine Hid.out ?_)
        replace BW1 := hide (BW1.out.trans (TB.out.below (by omega) BW1.out.size))
        replace WE1 := hide (WE1.out.turn TB.out (by have := G1.out; omega))
        clear TB RZ1 z0 z1 z2 z3 z4 z5 z6 za0 za1 za2 za3 za4 za5 za6 c1x cxa c2x cya
        refine hide ?_
        have y0 := R1.out.cell 0 _ rfl
        have y1 := R1.out.cell 1 _ rfl
        have y2 := R1.out.cell 2 _ rfl
        have y3 := R1.out.cell 3 _ rfl
        have y4 := R1.out.cell 4 _ rfl
        have y5 := R1.out.cell 5 _ rfl
        have y6 := R1.out.cell 6 _ rfl
        go_wp2
        exact bodyPost_ret (v := .agg #[.int .i64 pc, .int .i64 ln, .slice (some ⟨go, 0, none⟩) out.length co, .int .i64 4, .int .i64 vx, .int .i64 vy, .int .i64 k]) (by simp [results, Tryd.results26, go_sem, y0, y1, y2, y3, y4, y5, y6]) rfl ⟨_, rfl, by
          rw [YE.out]
          exact Ow.told (b := ⟨pc, ln, out, 4, vx, vy, k⟩) (n := out.length) WE1.out ⟨by have := G1.out; omega, WE1.out.lt⟩, BW1.out⟩


end Go.Proofs.YtflhehofgplcoaaDoor.Op
