/-
  The registers at the beginning: the program's atom of a register, and a shared sum that is told.
  The registers at the beginning: the program's SymNew.
-/
import Derived.Test.YtnlfcocejkaieaaJ12
import Derived.Test.YtnlfcocejkaieaaJ22
import Derived.Test.YtnlfcocejkaieaaJ21
namespace Go.Proofs.Ytnlfcocejkaieaa.Sym
set_option linter.unusedVariables false
set_option linter.unusedSimpArgs false
open Go.ChangeShapes Go.WideShapes Go.ChangeAt Go.RowKit IntS Pol Tab
theorem put_reg (k : Nat) (hk : k < 4) : putP (regsA k) (regA k) = regsA (k + 1) ∧ putK (regsA k) (regA k) = (k : Int) := by
  have : k = 0 ∨ k = 1 ∨ k = 2 ∨ k = 3 := by omega
  rcases this with rfl | rfl | rfl | rfl
  · exact ⟨by kernel_rfl, by kernel_rfl⟩
  · exact ⟨by kernel_rfl, by kernel_rfl⟩
  · exact ⟨by kernel_rfl, by kernel_rfl⟩
  · exact ⟨by kernel_rfl, by kernel_rfl⟩
theorem regsA_len (k : Nat) : (regsA k).length = k := by simp [regsA]
set_option maxRecDepth 8000 in
set_option maxHeartbeats 8000000 in
theorem atom (k : Nat) (hk : k < 4) (P B : Nat) (q : Option Addr) (cap : Nat) (x1 x2 x3 x4 x5 : Value) (u : World) (hP : Rec P [.slice q k cap, x1, x2, x3, x4, x5] u) (ht : TRow u B (.slice q k cap) (regsA k)) :
    Calls Try.prog 22 #[.pointer (some ⟨P, 0, none⟩), .int .i64 1, .int .i64 (k : Int)] u fun e w' => e = .returned (.iface 63 (.int .i64 (k : Int))) ∧ ∃ q' cap' hi, Rec P [.slice q' (k + 1) cap', x1, x2, x3, x4, x5] w' ∧ WTab w' u.heap.size hi (.slice q' (k + 1) cap') (regsA (k + 1)) ∧ hi ≤ w'.heap.size ∧ Turn P u w' := by
  have p0 := hP.cell 0 _ rfl
  have HT : Hid (TRow u B (.slice q (regsA k).length cap) (regsA k)) := by rw [regsA_len]; exact ht
  have NX : Hid (PRow u 0 (.slice none 0 0) []) := ⟨none, 0, 0, rfl, Nat.le_refl _, by unfold maxLen; omega, fun _ => rfl, Or.inl rfl⟩
  have HP := hide hP
  have PK := hide (put_reg k hk)
  have LP : Hid (P < u.heap.size) := hP.lt
  clear hP ht
  go_enter Try.func22, Try.ntmps22
  go_wp2_with fail
  have CP := implPut (regsA k) (regA k) B (.slice q (regsA k).length cap) none 0 none 0 0 0 u HT.out NX.out NX.out
  rw [PK.out.1, PK.out.2, regsA_len, regsA_len] at CP
  refine CP.mono ?_
  rintro e u1 ⟨q', cap', cs', l', m', h', rfl, OT, hb⟩
  have bo := alloc_below u1 (.cells #[.slice q' (k + 1) cap'] 24)
  have WT0 := OT.whole
  rw [regsA_len] at WT0
  have WT1 := hide (WT0.below bo)
  have HP1 := hide ((HP.out.below hb).below bo)
  have BX := hide ((hb.trans (bo.mono hb.size)))
  have S1 : Hid (u1.heap.size ≤ (u1.alloc (.cells #[.slice q' (k + 1) cap'] 24)).heap.size) := bo.size
  have RB := hide (Rec.new u1 [.slice q' (k + 1) cap'] 24)
  clear OT hb bo WT0 CP HP HT NX PK
  have c0 := HP1.out.cell 0 _ rfl
  have s0 := HP1.out.soft 0
  have r0 := RB.out.cell 0 _ rfl
  have tn : Turn P (u1.alloc (.cells #[.slice q' (k + 1) cap'] 24)) ((u1.alloc (.cells #[.slice q' (k + 1) cap'] 24)).setCell ⟨P, 0, none⟩ (.slice q' (k + 1) cap')) := (Turn.refl P (u1.alloc (.cells #[.slice q' (k + 1) cap'] 24))).setCell (p := ⟨P, 0, none⟩) rfl _
  have FW := hide (WT1.out.keep (Keep.of_turn tn) (fun b h1 h2 (h3 : b = _) => by have := LP.out; omega))
  have FP := hide (HP1.out.set 0 (.slice q' (k + 1) cap') (by simp) rfl)
  have FT : Hid (Turn P u ((u1.alloc (.cells #[.slice q' (k + 1) cap'] 24)).setCell ⟨P, 0, none⟩ (.slice q' (k + 1) cap'))) := (Turn.of_below (B := P) BX.out).trans tn
  have FH : Hid (u1.heap.size ≤ ((u1.alloc (.cells #[.slice q' (k + 1) cap'] 24)).setCell ⟨P, 0, none⟩ (.slice q' (k + 1) cap')).heap.size) := Nat.le_trans S1.out tn.size
  clear tn WT1 HP1 BX S1 RB
  go_wp2
  go_ret
  exact ⟨rfl, q', cap', u1.heap.size, FP.out, FW.out, FH.out, FT.out⟩
end Go.Proofs.Ytnlfcocejkaieaa.Sym
namespace Go.Proofs.Ytnlfcocejkaieaa.Sym
set_option linter.unusedVariables false
set_option linter.unusedSimpArgs false
open Go.ChangeShapes Go.WideShapes Go.ChangeAt Go.RowKit IntS Pol Tab
theorem infoIf : ∃ i, Try.prog.info? 55 = some i ∧ i.zero = some .nilIface ∧ i.size = 1 ∧ i.bytes = 16 := by
  have hinfo : (Try.prog.info? 55).map (fun i => (i.zero, i.size, i.bytes)) = some (some .nilIface, 1, 16) := by kernel_rfl
  obtain ⟨i, hi, h⟩ := Option.map_eq_some_iff.1 hinfo
  simp only [Prod.mk.injEq] at h
  exact ⟨i, hi, h.1, h.2.1, h.2.2⟩
def ifs (k : Nat) : List Value := (List.range k).map fun i : Nat => .iface 63 (.int .i64 (i : Int))
theorem ifs_len (k : Nat) : (ifs k).length = k := by simp [ifs]
theorem ifs_next (k : Nat) : ifs k ++ [.iface 63 (.int .i64 (k : Int))] = ifs (k + 1) := by simp [ifs, List.range_succ]
theorem ifs_at {k i : Nat} (h : i < k) : (ifs k)[i]? = some (.iface 63 (.int .i64 (i : Int))) := by simp [ifs, h]
/-- Shared sums, one a register, in a slice that the call made. -/
def OwnI (w : World) (lo : Nat) (v : Value) (k : Nat) : Prop := w.ownsRow lo 55 1 v k (ifs k)
theorem OwnI.form {w : World} {lo cap k : Nat} {q : Option Addr} (h : OwnI w lo (.slice q k cap) k) : q = none ∨ ∃ G, q = some ⟨G, 0, none⟩ ∧ lo ≤ G ∧ G < w.heap.size := by
  obtain ⟨_, h0 | ⟨g, cap', cur, hv, hb, hh, _⟩⟩ := h
  · injection h0.1 with e1
    exact Or.inl e1
  · injection hv with e1
    refine Or.inr ⟨g, e1, hb, ?_⟩
    rcases Nat.lt_or_ge g w.heap.size with hl | hl
    · exact hl
    · rw [Array.getElem?_eq_none hl] at hh
      cases hh
theorem OwnI.cells {w : World} {lo cap k : Nat} {q : Option Addr} (h : OwnI w lo (.slice q k cap) k) {i : Nat} (hi : i < k) : ∃ G, q = some ⟨G, 0, none⟩ ∧ k ≤ cap ∧ cap ≤ maxLen ∧ w.cell? ⟨G, i, none⟩ = some (.iface 63 (.int .i64 (i : Int))) := by
  obtain ⟨hl, h0 | ⟨g', cap', cur, hv, hb, hh, hle, hm, hc, ht⟩⟩ := h
  · omega
  · injection hv with e1 e2 e3
    subst e3
    refine ⟨g', e1, hle, hm, ?_⟩
    have hu := ifs_at hi
    rw [← ht, List.getElem?_take, if_pos (by omega)] at hu
    unfold World.cell?
    simp only [hh]
    simpa using hu
theorem OwnI.turn {w w' : World} {lo cap k T : Nat} {q : Option Addr} (h : OwnI w lo (.slice q k cap) k) (ht : Turn T w w') (hT : T < lo ∨ w.heap.size ≤ T) : OwnI w' lo (.slice q k cap) k := Push.owns_turn h ht hT
theorem OwnI.below {w w' : World} {lo cap k : Nat} {q : Option Addr} (h : OwnI w lo (.slice q k cap) k) (hb : Below w.heap.size w w') : OwnI w' lo (.slice q k cap) k := h.turn (T := w.heap.size) (Turn.of_below hb) (Or.inr (Nat.le_refl _))
theorem run_pushIf {w : World} {ty : TypeId} {lo cap k : Nat} {q : Option Addr} (hown : OwnI w lo (.slice q k cap) k) (hl : k ≤ 1000000) (hlo : lo ≤ w.heap.size) (ad : Addr) (c0 : w.cell? (ad.add 0) = some (.iface 63 (.int .i64 (k : Int)))) :
    ∃ g' cap' w', (Builtin.append_ #[41, 41] ty #[.slice q k cap, .slice (some ad) 1 1]).run Try.prog w = .ok (.slice (some ⟨g', 0, none⟩) (k + 1) cap') w' ∧ OwnI w' lo (.slice (some ⟨g', 0, none⟩) (k + 1) cap') (k + 1) ∧ ((Value.slice q k cap).ownBlock = some g' ∨ w.heap.size ≤ g') ∧ g' < w'.heap.size ∧ w.grownBy w' (Value.slice q k cap).ownBlock := by
  obtain ⟨i, hi, hz, hsz, hby⟩ := infoIf
  obtain ⟨g', cap', w', h1, h2, h3, h4, h5⟩ := Push.run_push (P := Try.prog) (w := w) lo 41 ty 55 i _ 1 16 Try.underlying41 hi hz hsz hby rfl (by decide) _ k (ifs k) hown ad [.iface 63 (.int .i64 (k : Int))] rfl (fun j u hu => by
    match j, hu with
    | 0, hu => cases hu; exact c0
    | j + 1, hu => simp at hu) (fun u hu => by simp at hu; subst hu; rfl) (by unfold maxLen; omega) (by omega) hlo
  refine ⟨g', cap', w', h1, ?_, h3, h4, h5⟩
  unfold OwnI
  rw [← ifs_next]
  exact h2
theorem told_m (i : Int) (w : World) : (method 256 63 (.int .i64 i) "loop.example/latimer/impl.told").run Try.prog w = .ok (96, .int .i64 i) w := by kernel_rfl
set_option maxRecDepth 8000 in
set_option maxHeartbeats 4000000 in
theorem toldAtom (i : Int) (w : World) :
    Calls Try.prog 96 #[.int .i64 i] w fun e w' => ∃ a l c, e = .returned (.agg #[.slice a l c]) ∧ WPoly w' w.heap.size w'.heap.size (.slice a l c) (atomP i) ∧ Below w.heap.size w w' := by
  have bo := alloc_below w (.cells #[.slice none 0 0] 35)
  have RB := hide (Rec.new w [.slice none 0 0] 35)
  have BB := hide bo
  go_enter Try.func96, Try.ntmps96
  go_wp2_with fail
  refine (implAtom i _).mono ?_
  rintro e u ⟨a, l, c, rfl, WP, hb⟩
  have r0 := (RB.out.below hb).cell 0 _ rfl
  have s0 := (RB.out.below hb).soft 0
  have RU := RB.out.below hb
  have tn : Turn w.heap.size u (u.setCell ⟨w.heap.size, 0, none⟩ (.slice a l c)) := (Turn.refl w.heap.size u).setCell (p := ⟨w.heap.size, 0, none⟩) rfl _
  have W1 : w.heap.size + 1 ≤ (w.alloc (.cells #[.slice none 0 0] 35)).heap.size := by simp
  have FW := hide ((WP.keep (Keep.of_turn tn) (fun b h1 h2 (h3 : b = _) => by omega)).wide (lo' := w.heap.size) (hi' := (u.setCell ⟨w.heap.size, 0, none⟩ (.slice a l c)).heap.size) (by omega) tn.size)
  have FB := hide ((BB.out.trans (hb.mono BB.out.size)).trans (tn.below (Nat.le_refl _) (Nat.le_trans BB.out.size hb.size)))
  have z0 := (RU.set 0 (.slice a l c) (by simp) rfl).cell 0 _ rfl
  clear tn W1 RU hb WP RB BB bo
  go_wp2
  exact bodyPost_ret (v := .agg #[.slice a l c]) (by simp [results, Try.results96, go_sem, z0]) rfl ⟨a, l, c, rfl, FW.out, FB.out⟩

set_option maxRecDepth 8000 in
set_option maxHeartbeats 8000000 in
theorem toldSums (lo cap : Nat) (q : Option Addr) (w : World) (hI : OwnI w lo (.slice q 4 cap) 4) :
    Calls Try.prog 14 #[.slice q 4 cap] w fun e w' => ∃ q2 cap2 ss l h, e = .returned (.slice q2 4 cap2) ∧ OSums w' w.heap.size q2 cap2 ss l h (regsS 4) ∧ Below w.heap.size w w' := by
  obtain ⟨G, rfl, hc1, hc2, _⟩ := hI.cells (i := 0) (by omega)
  have HC : Hid (∀ i : Nat, i < 4 → w.cell? ⟨G, i, none⟩ = some (.iface 63 (.int .i64 (i : Int)))) := fun i hi => by
    obtain ⟨G', e, _, _, h⟩ := hI.cells hi
    injection e with e1
    injection e1 with e2
    rw [e2]
    exact h
  unfold maxLen at hc2
  clear hI
  go_enter Try.func14, Try.ntmps14
  go_wp2
  go_loopw [3, 8] (fun rs i wr => ∃ (k cap2 : Nat) (q2 : Option Addr) (ss : List Value) (l h : Nat → Nat), k ≤ 4 ∧ i = .int .i64 k ∧ rs = .slice q2 k cap2 ∧ Hid (OSums wr w.heap.size q2 cap2 ss l h (regsS k)) ∧ Hid (Below w.heap.size w wr)) (fun _ i _ => 4 - (intOf i).toNat)
  case atStart => exact ⟨0, 0, none, [], fun _ => 0, fun _ => 0, by omega, rfl, rfl, OSums.nil _ _, Below.refl _ _⟩
  case round =>
    obtain ⟨k, cap2, q2, ss, l, h, hk, rfl, rfl, OS, BW⟩ := hrel
    by_cases hlt : k < 4
    case neg =>
      obtain rfl : k = 4 := by omega
      go_wp2
      go_ret
      exact ⟨q2, cap2, ss, l, h, rfl, OS.out, BW.out⟩
    have lk : ((k : Nat) : Int) < 4 := by omega
    have c0 := cell_below BW.out (HC.out k hlt)
    have mm := told_m (k : Int)
    go_wp2_with fail
    refine (toldAtom (k : Int) wr).mono ?_
    rintro e u ⟨a, la, ca, rfl, WP, hb⟩
    have bo := alloc_below u (.cells #[.slice a la ca] 35)
    have el := regsS_len k
    have H2 := (OS.out.below hb).below bo
    have CN : (u.alloc (.cells #[.slice a la ca] 35)).cell? ((⟨u.heap.size, 0, none⟩ : Addr).add 0) = some (.slice a la ca) := by
      rw [Go.WideShapes.add_plain]
      exact World.cell?_alloc_new u #[.slice a la ca] 35 0
    have OW := H2.own
    rw [el] at OW
    obtain ⟨g2, c2, u2, hrun, ho2, hor2, hlt2, gr⟩ := run_pushS (ty := 25) OW (by rw [H2.len, el]) (by omega) (Nat.le_trans (Nat.le_trans BW.out.size hb.size) bo.size) ⟨u.heap.size, 0, none⟩ a la ca CN
    have BG := grown_below (lo := w.heap.size) (H2.q_form.imp (fun e => e.1) (fun ⟨G, e⟩ => ⟨G, e, (H2.q_lt e).1⟩)) (Nat.le_trans (Nat.le_trans BW.out.size hb.size) bo.size) gr
    have NX := H2.next (WP.below bo) BW.out.size hb.size bo.size (fun i hi => by
      obtain ⟨p, hp⟩ : ∃ p, (regsS k)[i]? = some p := ⟨_, List.getElem?_eq_getElem hi⟩
      obtain ⟨_, _, _, _, _, k7, _⟩ := OS.out.rows i p hp
      exact k7) (fun G e => (OS.out.q_lt e).2) (by rw [el]; exact ho2) (by rw [el]; exact hor2) (by rw [el]; exact gr)
    rw [regsS_next] at NX
    have OS2 := hide NX
    have BW2 := hide (((BW.out.trans (hb.mono BW.out.size)).trans (bo.mono (Nat.le_trans BW.out.size hb.size))).trans BG)
    clear NX H2 CN OW ho2 hor2 hlt2 gr BG WP hb bo el OS BW c0 mm
    go_wp2_with (at_builtin; refine Flat.push_list rfl _ _ rfl rfl rfl hrun ?_)
    exact ⟨⟨k + 1, c2, some ⟨g2, 0, none⟩, _, _, _, by omega, by go_num, rfl, OS2, BW2⟩, by simp [intOf]; omega⟩

end Go.Proofs.Ytnlfcocejkaieaa.Sym
