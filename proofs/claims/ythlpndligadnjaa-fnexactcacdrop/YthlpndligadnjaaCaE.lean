/-
  What is kept: the specification's CacPut.
-/
import Derived.Test.YthlpndligadnjaaCaB
import Derived.Test.YthlpndligadnjaaCaM
namespace Go.Proofs.Ythlpndligadnjaa.Dt
set_option linter.unusedVariables false
set_option linter.unusedSimpArgs false
open Go.ChangeShapes Go.WideShapes Go.ChangeAt Go.RowKit IntS Pol Push Flat Irk
open Ir (Opn Bk bv ORow WORow RBk WBk OpAt SoftAt)
theorem rec_low9 {Z n : Nat} {cs : List Value} {w w' : World} (h : Rec Z cs w) (hb : Below n w w') (hZ : Z < n) : Rec Z cs w' := by
  have e := hb.block Z hZ
  exact ⟨Nat.lt_of_lt_of_le h.lt hb.size, fun j v hv => (World.cell?_of_block (w := w) (a := ⟨Z, j, none⟩) e).trans (h.cell j v hv), fun j => (World.frozen?_of_block (w := w) (a := ⟨Z, j, none⟩) e).trans (h.soft j)⟩
set_option maxRecDepth 8000 in
set_option maxHeartbeats 16000000 in
theorem specCacPut (xs : List (List Int × Int × Int × List Opn × Int × Int × Int × Int)) (y0 : List Int) (b1 : Int) (b2 : Int) (y3 : List Opn) (b4 : Int) (b5 : Int) (b6 : Int) (b7 : Int) (p0 : Option Addr) (r0 : Nat) (p3 : Option Addr) (r3 : Nat) (v : Value) (w : World) (h : cacK.rd w v xs) (hs : cacK.sz xs ≤ 1048576) (hy0 : intsK.rd w (.slice p0 y0.length r0) y0) (s0 : y0.length ≤ 2097152) (hy3 : opsK.rd w (.slice p3 y3.length r3) y3) (s3 : y3.length ≤ 2097152) :
    Calls Try.prog 14 #[v, .agg #[.slice p0 y0.length r0, .int .i64 b1, .int .i64 b2, .slice p3 y3.length r3, .int .i64 b4, .int .i64 b5, .int .i64 b6, .int .i64 b7]] w fun e w' => ∃ q c, e = .returned (.slice q (putC xs (y0, b1, b2, y3, b4, b5, b6, b7)).length c) ∧ cacK.ow w' (New w w') (.slice q (putC xs (y0, b1, b2, y3, b4, b5, b6, b7)).length c) (putC xs (y0, b1, b2, y3, b4, b5, b6, b7)) ∧ Below w.heap.size w w' := by
  have SM : Hid (∀ (i : Nat) x, xs[i]? = some x → cacR.sz x ≤ 1048576) := fun i x hx => by have h1 := sum_one (f := cacR.sz) hx; have h2 : cacK.sz xs = xs.length + sum cacR.sz xs := rfl; omega
  have LN0 : xs.length ≤ 1048576 := by have h2 : cacK.sz xs = xs.length + sum cacR.sz xs := rfl; omega
  obtain ⟨a, cap0, B, off, rfl, h2, h3, hz, h4⟩ := h
  unfold maxLen at h3
  clear hz hs
  obtain ⟨n, en⟩ : ∃ n, xs.length = n := ⟨_, rfl⟩
  have EN := hide en
  rw [en] at h2 LN0
  have H4 := hide h4
  clear h4
  obtain ⟨M, eM⟩ : ∃ M, putC xs (y0, b1, b2, y3, b4, b5, b6, b7) = M := ⟨_, rfl⟩
  rw [eM]
  replace eM : lastN 4 ((xs.filter fun x => x.2.1 != b1) ++ [(y0, b1, b2, y3, b4, b5, b6, b7)]) = M := eM
  have EM := hide eM
  have bx0 := boxC w (.cells #[.slice p0 y0.length r0, .int .i64 b1, .int .i64 b2, .slice p3 y3.length r3, .int .i64 b4, .int .i64 b5, .int .i64 b6, .int .i64 b7] 41)
  have b1x := boxC (w.alloc (.cells #[.slice p0 y0.length r0, .int .i64 b1, .int .i64 b2, .slice p3 y3.length r3, .int .i64 b4, .int .i64 b5, .int .i64 b6, .int .i64 b7] 41)) (.cells #[] 41)
  have RB0 := hide ((Rec.new w [.slice p0 y0.length r0, .int .i64 b1, .int .i64 b2, .slice p3 y3.length r3, .int .i64 b4, .int .i64 b5, .int .i64 b6, .int .i64 b7] 41).alloc (.cells #[] 41))
  have BW0 := hide (bx0.trans (b1x.mono bx0.size))
  have e1 : (w.alloc (.cells #[.slice p0 y0.length r0, .int .i64 b1, .int .i64 b2, .slice p3 y3.length r3, .int .i64 b4, .int .i64 b5, .int .i64 b6, .int .i64 b7] 41)).heap.size = w.heap.size + 1 := by simp
  have O1 := OF.empty cacR 41 (w.alloc (.cells #[.slice p0 y0.length r0, .int .i64 b1, .int .i64 b2, .slice p3 y3.length r3, .int .i64 b4, .int .i64 b5, .int .i64 b6, .int .i64 b7] 41)) (lo := w.heap.size + 1) (by omega)
  rw [e1] at O1
  have OF0 := hide O1
  have HY0 := hide hy0
  have SY0 : Hid (y0.length ≤ 2097152) := s0
  have HY3 := hide hy3
  have SY3 : Hid (y3.length ≤ 2097152) := s3
  clear eM bx0 b1x e1 O1 en hy0 s0 hy3 s3
  go_enter Try.func14, Try.ntmps14
  go_wp2
  rw [EN.out]
  generalize (w.alloc (.cells #[.slice p0 y0.length r0, .int .i64 b1, .int .i64 b2, .slice p3 y3.length r3, .int .i64 b4, .int .i64 b5, .int .i64 b6, .int .i64 b7] 41)).alloc (.cells #[] 41) = W0 at RB0 BW0 OF0 ⊢
  go_loopw [5, 6] (fun rs i wr => ∃ (k m cap2 : Nat) (q2 : Option Addr), k ≤ n ∧ m ≤ k ∧ i = .int .i64 k ∧ rs = .slice q2 m cap2 ∧ Hid (((xs.take k).filter fun x => x.2.1 != b1).length = m) ∧ Hid (OF cacR 41 wr (w.heap.size + 1) q2 cap2 ((xs.take k).filter fun x => x.2.1 != b1)) ∧ Hid (Rec w.heap.size [.slice p0 y0.length r0, .int .i64 b1, .int .i64 b2, .slice p3 y3.length r3, .int .i64 b4, .int .i64 b5, .int .i64 b6, .int .i64 b7] wr) ∧ Hid (Below w.heap.size w wr)) (fun _ i _ => n - (intOf i).toNat)
  case atStart => exact ⟨0, 0, 0, some ⟨w.heap.size + 1, 0, none⟩, by omega, by omega, rfl, rfl, rfl, OF0, RB0, BW0⟩
  case round =>
    clear OF0 RB0 BW0
    obtain ⟨k, m, cap2, q2, hk, hm, rfl, rfl, ML, OS, RB, BW⟩ := hrel
    by_cases hlt : k < n
    case pos =>
      obtain ⟨x, et⟩ : ∃ x, xs[k]? = some x := ⟨_, List.getElem?_eq_getElem (by rw [EN.out]; exact hlt)⟩
      obtain ⟨rfl, hc⟩ := H4.out.resolve_left (fun e => by rw [e] at et; simp at et)
      obtain ⟨ds, cc, hx⟩ := hc k x et
      have SX := SM.out k x et
      have ET := hide et
      replace cc := cc.below BW.out
      have HX0 := hide hx
      replace hx := cacR.rb hx BW.out
      obtain ⟨x0, a1, a2, x3, a4, a5, a6, a7⟩ := x
      obtain ⟨q0, c0, q3, c3, rfl, k0, k3⟩ := cacR_rd hx
      rw [cacR_sz] at SX
      rw [ints_sz] at SX
      rw [show opsK.sz x3 = x3.length from rfl] at SX
      have S0 : Hid (x0.length ≤ 2097152) := show _ ≤ _ by omega
      have S3 : Hid (x3.length ≤ 2097152) := show _ ≤ _ by omega
      have lk : ((k : Nat) : Int) < (n : Nat) := by omega
      have CC : CellsAt wr B (off + k * 8) [.slice q0 x0.length c0, .int .i64 a1, .int .i64 a2, .slice q3 x3.length c3, .int .i64 a4, .int .i64 a5, .int .i64 a6, .int .i64 a7] := cc
      clear et hc hx SX cc

      have z1 : wr.drew.cell? ⟨B, off + k * 8 + 1, none⟩ = some _ := CC 1 _ rfl
      have y1 : wr.drew.cell? ⟨w.heap.size, 1, none⟩ = some _ := RB.out.cell 1 _ rfl
      have bA : Below wr.heap.size wr wr.drew := (Below.refl _ _).drew
      by_cases hp : a1 = b1
      · subst hp
        have bb : (a1 != a1) = false := by simp
        have FY : Hid (((xs.take k).filter fun x => x.2.1 != a1) = ((xs.take (k + 1)).filter fun x => x.2.1 != a1)) := filter_no ET.out (by simp)
        rw [FY.out] at ML OS
        have O3 := hide (OS.out.below bA)
        have RB3 := hide (RB.out.below bA)
        have BD3 := hide (BW.out.trans (bA.mono BW.out.size))
        clear FY OS RB BW bA CC
        go_wp2_with fail
        refine region_all (by kernel_rfl) (by kernel_rfl) ?_
        refine Pol.head_yes (by kernel_rfl) (fun K hK => ?_)
        go_simp
        refine hK _ ?_
        clear hK K
        refine Pol.head_yes (by kernel_rfl) (fun K hK => ?_)
        go_simp
        refine hK _ ?_
        clear hK K
        refine Pol.head_yes (by kernel_rfl) (fun K hK => ?_)
        go_simp
        refine hK _ ?_
        clear hK K
        refine Pol.head_yes (by kernel_rfl) (fun K hK => ?_)
        go_simp
        refine hK _ ?_
        clear hK K
        refine Pol.head_yes (by kernel_rfl) (fun K hK => ?_)
        go_simp
        refine hK _ ?_
        clear hK K
        refine Pol.head_yes (by kernel_rfl) (fun K hK => ?_)
        go_simp
        refine hK _ ?_
        clear hK K
        refine Pol.head_yes (by kernel_rfl) (fun K hK => ?_)
        go_simp
        refine hK _ ?_
        clear hK K
        refine Pol.head_yes (by kernel_rfl) (fun K hK => ?_)
        go_simp
        refine hK _ ?_
        clear hK K
        refine Pol.head_yes (by kernel_rfl) (fun K hK => ?_)
        go_simp
        refine hK _ ?_
        clear hK K
        refine Pol.head_yes (by kernel_rfl) (fun K hK => ?_)
        go_simp
        refine hK _ ?_
        clear hK K
        refine Pol.head_nil ?_
        clear z1 y1
        go_wp2
        exact ⟨⟨k + 1, m, cap2, q2, by omega, by omega, by go_num, rfl, ML, O3, RB3, BD3⟩, by simp [intOf]; omega⟩
      have bb : (a1 != b1) = true := by simpa using hp
      have FY : Hid (((xs.take k).filter fun x => x.2.1 != b1) ++ [(x0, a1, a2, x3, a4, a5, a6, a7)] = ((xs.take (k + 1)).filter fun x => x.2.1 != b1)) := filter_yes ET.out bb
      go_wp2_with fail
      refine region_all (by kernel_rfl) (by kernel_rfl) ?_
      refine Pol.head_yes (by kernel_rfl) (fun K hK => ?_)
      go_simp
      refine hK _ ?_
      clear hK K
      refine Pol.head_yes (by kernel_rfl) (fun K hK => ?_)
      go_simp
      refine hK _ ?_
      clear hK K
      refine Pol.head_yes (by kernel_rfl) (fun K hK => ?_)
      go_simp
      refine hK _ ?_
      clear hK K
      refine Pol.head_yes (by kernel_rfl) (fun K hK => ?_)
      go_simp
      refine hK _ ?_
      clear hK K
      refine Pol.head_yes (by kernel_rfl) (fun K hK => ?_)
      go_simp
      refine hK _ ?_
      clear hK K
      refine Pol.head_yes (by kernel_rfl) (fun K hK => ?_)
      go_simp
      refine hK _ ?_
      clear hK K
      refine Pol.head_yes (by kernel_rfl) (fun K hK => ?_)
      go_simp
      refine hK _ ?_
      clear hK K
      refine Pol.head_yes (by kernel_rfl) (fun K hK => ?_)
      go_simp
      refine hK _ ?_
      clear hK K
      refine Pol.head_yes (by kernel_rfl) (fun K hK => ?_)
      go_simp
      refine hK _ ?_
      clear hK K
      refine Pol.head_yes (by kernel_rfl) (fun K hK => ?_)
      go_simp
      refine hK _ ?_
      clear hK K
      refine Pol.head_nil ?_
      clear z1 y1
      replace OS := hide (OS.out.below bA)
      replace RB := hide (RB.out.below bA)
      replace BW := hide (BW.out.trans (bA.mono BW.out.size))
      replace CC : CellsAt wr.drew B (off + k * 8) [.slice q0 x0.length c0, .int .i64 a1, .int .i64 a2, .slice q3 x3.length c3, .int .i64 a4, .int .i64 a5, .int .i64 a6, .int .i64 a7] := CC
      have K0 := hide (intsK.rb k0 bA)
      have K3 := hide (opsK.rb k3 bA)
      clear bA k0 k3
      generalize wr.drew = wr at OS RB BW CC K0 K3 ⊢
      have z0 : wr.cell? ⟨B, off + k * 8, none⟩ = some _ := CC 0 _ rfl
      have z1 : wr.cell? ⟨B, off + k * 8 + 1, none⟩ = some _ := CC 1 _ rfl
      have z2 : wr.cell? ⟨B, off + k * 8 + 2, none⟩ = some _ := CC 2 _ rfl
      have z3 : wr.cell? ⟨B, off + k * 8 + 3, none⟩ = some _ := CC 3 _ rfl
      have z4 : wr.cell? ⟨B, off + k * 8 + 4, none⟩ = some _ := CC 4 _ rfl
      have z5 : wr.cell? ⟨B, off + k * 8 + 5, none⟩ = some _ := CC 5 _ rfl
      have z6 : wr.cell? ⟨B, off + k * 8 + 6, none⟩ = some _ := CC 6 _ rfl
      have z7 : wr.cell? ⟨B, off + k * 8 + 7, none⟩ = some _ := CC 7 _ rfl
      clear CC
      have BV : Below w.heap.size w wr := BW.out
      go_wp2_with fail
      refine (l12Entry x0 a1 a2 x3 a4 a5 a6 a7 _ _ _ _ _ K0.out S0.out K3.out S3.out).mono ?_
      rintro e u ⟨g0, d0, g3, d3, rfl, OW, hb⟩
      have bo : Below u.heap.size u (u.alloc (.cells #[.slice g0 x0.length d0, .int .i64 a1, .int .i64 a2, .slice g3 x3.length d3, .int .i64 a4, .int .i64 a5, .int .i64 a6, .int .i64 a7] 41)) := boxC _ _
      have NR := Rec.new u [.slice g0 x0.length d0, .int .i64 a1, .int .i64 a2, .slice g3 x3.length d3, .int .i64 a4, .int .i64 a5, .int .i64 a6, .int .i64 a7] 41
      have hs1 := hb.size
      have ball : Below wr.heap.size wr (u.alloc (.cells #[.slice g0 x0.length d0, .int .i64 a1, .int .i64 a2, .slice g3 x3.length d3, .int .i64 a4, .int .i64 a5, .int .i64 a6, .int .i64 a7] 41)) := hb.trans (bo.mono hs1)
      have EVO : cacR.ow (u.alloc (.cells #[.slice g0 x0.length d0, .int .i64 a1, .int .i64 a2, .slice g3 x3.length d3, .int .i64 a4, .int .i64 a5, .int .i64 a6, .int .i64 a7] 41)) (New wr (u.alloc (.cells #[.slice g0 x0.length d0, .int .i64 a1, .int .i64 a2, .slice g3 x3.length d3, .int .i64 a4, .int .i64 a5, .int .i64 a6, .int .i64 a7] 41))) [.slice g0 x0.length d0, .int .i64 a1, .int .i64 a2, .slice g3 x3.length d3, .int .i64 a4, .int .i64 a5, .int .i64 a6, .int .i64 a7] (x0, a1, a2, x3, a4, a5, a6, a7) := cacR.ov (cacR.ob OW bo) (fun b h => ⟨h.1, Nat.lt_of_lt_of_le h.2 bo.size⟩)
      obtain ⟨ti, hi, hz, hsz, hby⟩ := infoCacEntry
      obtain ⟨g2, cp9, u6, hrun, O2, BL, -, -⟩ := OS.out.push (P := Try.prog) ball EVO 25 25 Try.underlying25 hi hz hsz hby rfl (by decide) (by decide) ⟨u.heap.size, 0, none⟩ (fun j v hv => by
        rw [Addr.add_lit, Nat.zero_add]
        exact NR.cell j v hv) (fun v hv => by simp at hv; rcases hv with rfl | rfl | rfl | rfl | rfl | rfl | rfl | rfl <;> rfl) (by rw [ML.out]; omega) (by have := RB.out.lt; omega)
      rw [ML.out] at hrun
      rw [FY.out] at O2
      have O3 := hide O2
      have RB3 := hide (rec_low9 (RB.out.below ball) BL (by omega))
      have BD3 := hide ((BW.out.trans (ball.mono BW.out.size)).trans (BL.mono (by omega)))
      have ML3 : Hid (((xs.take (k + 1)).filter fun x => x.2.1 != b1).length = m + 1) := show _ = m + 1 by rw [← FY.out, List.length_append, ML.out]; rfl
      clear bo NR hs1 ball EVO hi hz hsz hby O2 BL OW hb K0 K3 OS RB BW BV FY ML
      go_wp2_with (at_builtin; refine Flat.push_list rfl _ _ rfl rfl rfl hrun ?_)
      exact ⟨⟨k + 1, m + 1, cp9, some ⟨g2, 0, none⟩, by omega, by omega, by go_num, rfl, ML3, O3, RB3, BD3⟩, by simp [intOf]; omega⟩
    obtain rfl : k = n := by omega
    have FE : Hid (((xs.take k).filter fun x => x.2.1 != b1) = (xs.filter fun x => x.2.1 != b1)) := show _ = _ by rw [List.take_of_length_le (by rw [EN.out]; exact Nat.le_refl _)]
    rw [FE.out] at ML OS
    clear FE SM H4
    have y0c := RB.out.cell 0 _ rfl
    have y1c := RB.out.cell 1 _ rfl
    have y2c := RB.out.cell 2 _ rfl
    have y3c := RB.out.cell 3 _ rfl
    have y4c := RB.out.cell 4 _ rfl
    have y5c := RB.out.cell 5 _ rfl
    have y6c := RB.out.cell 6 _ rfl
    have y7c := RB.out.cell 7 _ rfl
    go_wp2_with fail
    refine (l12Entry y0 b1 b2 y3 b4 b5 b6 b7 _ _ _ _ _ (intsK.rb HY0.out BW.out) SY0.out (opsK.rb HY3.out BW.out) SY3.out).mono ?_
    rintro e u ⟨g0, d0, g3, d3, rfl, OW, hb⟩
    have bo : Below u.heap.size u (u.alloc (.cells #[.slice g0 y0.length d0, .int .i64 b1, .int .i64 b2, .slice g3 y3.length d3, .int .i64 b4, .int .i64 b5, .int .i64 b6, .int .i64 b7] 41)) := boxC _ _
    have NR := Rec.new u [.slice g0 y0.length d0, .int .i64 b1, .int .i64 b2, .slice g3 y3.length d3, .int .i64 b4, .int .i64 b5, .int .i64 b6, .int .i64 b7] 41
    have hs1 := hb.size
    have ball : Below wr.heap.size wr (u.alloc (.cells #[.slice g0 y0.length d0, .int .i64 b1, .int .i64 b2, .slice g3 y3.length d3, .int .i64 b4, .int .i64 b5, .int .i64 b6, .int .i64 b7] 41)) := hb.trans (bo.mono hs1)
    have EVO : cacR.ow (u.alloc (.cells #[.slice g0 y0.length d0, .int .i64 b1, .int .i64 b2, .slice g3 y3.length d3, .int .i64 b4, .int .i64 b5, .int .i64 b6, .int .i64 b7] 41)) (New wr (u.alloc (.cells #[.slice g0 y0.length d0, .int .i64 b1, .int .i64 b2, .slice g3 y3.length d3, .int .i64 b4, .int .i64 b5, .int .i64 b6, .int .i64 b7] 41))) [.slice g0 y0.length d0, .int .i64 b1, .int .i64 b2, .slice g3 y3.length d3, .int .i64 b4, .int .i64 b5, .int .i64 b6, .int .i64 b7] (y0, b1, b2, y3, b4, b5, b6, b7) := cacR.ov (cacR.ob OW bo) (fun b h => ⟨h.1, Nat.lt_of_lt_of_le h.2 bo.size⟩)
    obtain ⟨ti, hi, hz, hsz, hby⟩ := infoCacEntry
    obtain ⟨g2, cp9, u6, hrun, O2, BL, -, -⟩ := OS.out.push (P := Try.prog) ball EVO 25 25 Try.underlying25 hi hz hsz hby rfl (by decide) (by decide) ⟨u.heap.size, 0, none⟩ (fun j v hv => by
      rw [Addr.add_lit, Nat.zero_add]
      exact NR.cell j v hv) (fun v hv => by simp at hv; rcases hv with rfl | rfl | rfl | rfl | rfl | rfl | rfl | rfl <;> rfl) (by rw [ML.out]; omega) (by have := RB.out.lt; omega)
    rw [ML.out] at hrun
    have WH := O2.whole
    have lz : ((xs.filter fun x => x.2.1 != b1) ++ [(y0, b1, b2, y3, b4, b5, b6, b7)]).length = m + 1 := by rw [List.length_append, ML.out]; rfl
    rw [lz] at WH
    have g1 : w.heap.size + 1 ≤ u6.heap.size := by have := BW.out.size; have := RB.out.lt; have := ball.size; have := BL.size; omega
    have BF := hide ((BW.out.trans (ball.mono BW.out.size)).trans (BL.mono (by omega)))
    have WF : Hid (cacK.ow u6 (New w u6) (.slice (some ⟨g2, 0, none⟩) (m + 1) cp9) ((xs.filter fun x => x.2.1 != b1) ++ [(y0, b1, b2, y3, b4, b5, b6, b7)])) := (cacK.ov (A' := New w u6) WH (fun b h => ⟨by have := h.1; omega, h.2⟩))
    have cpl : m + 1 ≤ cp9 ∧ cp9 ≤ maxLen := by
      obtain ⟨_, _, _, _, _, e, q⟩ := WH
      injection e with e1 e2 e3
      have := q.le; have := q.mx; omega
    unfold maxLen at cpl
    obtain ⟨cl1, cl2⟩ := cpl
    have LZ := hide lz
    clear bo NR hs1 ball EVO hi hz hsz hby O2 BL OW hb OS RB BW ML WH lz y0c y1c y2c y3c y4c y5c y6c y7c HY0 SY0 HY3 SY3
    by_cases h4 : 4 < m + 1
    · have FIN : Hid (cacK.ow u6 (New w u6) (.slice (some ⟨g2, (m + 1 - 4) * 8, none⟩) M.length (cp9 - (m + 1 - 4))) M ∧ M.length = 4) := by
        have h := LOw.drop (d := m + 1 - 4) WF.out (by rw [LZ.out]; omega)
        rw [show ((xs.filter fun x => x.2.1 != b1) ++ [(y0, b1, b2, y3, b4, b5, b6, b7)]).drop (m + 1 - 4) = M by rw [← EM.out, lastN, LZ.out], show m + 1 - (m + 1 - 4) = 4 by omega] at h
        have e : M.length = 4 := by rw [← EM.out, lastN, List.length_drop, LZ.out]; omega
        rw [e]
        exact ⟨h, rfl⟩
      have f4 : (4 : Int) < ((m : Nat) : Int) + 1 := by omega
      obtain ⟨t, et⟩ : ∃ t, m + 1 - 4 = t := ⟨_, rfl⟩
      rw [et] at FIN
      obtain rfl : m = t + 3 := by omega
      clear WF LZ EM et h4
      go_wp2_with (at_builtin; refine Flat.push_list rfl _ _ rfl rfl rfl hrun ?_)
      go_ret
      have e9 : t + 3 + 1 - 4 = t := by omega
      have e8 : t + 3 + 1 - t = 4 := by omega
      refine ⟨some ⟨g2, t * 8, none⟩, cp9 - t, ?_, FIN.out.1, BF.out⟩
      rw [FIN.out.2]
      show Ending.returned (Value.slice (some ⟨g2, (t + 3 + 1 - 4) * 8, none⟩) (t + 3 + 1 - (t + 3 + 1 - 4)) (cp9 - (t + 3 + 1 - 4))) = _
      rw [e9, e8]
    · have FIN : Hid (cacK.ow u6 (New w u6) (.slice (some ⟨g2, 0, none⟩) M.length cp9) M ∧ M.length = m + 1) := by
        have e : M = (xs.filter fun x => x.2.1 != b1) ++ [(y0, b1, b2, y3, b4, b5, b6, b7)] := by rw [← EM.out]; exact lastN_of_le (by rw [LZ.out]; omega)
        rw [e, LZ.out]
        exact ⟨WF.out, rfl⟩
      have f4 : ¬ (4 : Int) < ((m : Nat) : Int) + 1 := by omega
      clear WF LZ EM h4
      go_wp2_with (at_builtin; refine Flat.push_list rfl _ _ rfl rfl rfl hrun ?_)
      go_ret
      exact ⟨some ⟨g2, 0, none⟩, cp9, (by rw [FIN.out.2]; rfl), FIN.out.1, BF.out⟩
end Go.Proofs.Ythlpndligadnjaa.Dt
