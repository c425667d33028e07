/-
  Contracts of the specification's l2Words (a text parted at its spaces), l2At, l2RegOf, l2Op.
-/
import Derived.Test.YthpajjlhjfhdpaaGreatDoorInsT
import Derived.Laws.AppendOwn
import Derived.OwnWalk
namespace Go.Proofs.YthpajjlhjfhdpaaGreatDoor.Ins
open Go.ChangeShapes Go.WideShapes Go.ChangeAt Go.RowKit

/-- A text parted at its spaces. -/
def splitGo (acc : List UInt8) : List UInt8 → List (List UInt8)
  | [] => [acc]
  | b :: r => if b = 32 then acc :: splitGo [] r else splitGo (acc ++ [b]) r
def vals (l : List (List UInt8)) : List Value := l.map fun x => .string ⟨x.toArray⟩
theorem info9 : (Tryz.prog.info? 9).map (fun i => (i.zero, i.size, i.bytes)) = some (some (.string ByteArray.empty), 1, 16) := by kernel_rfl
theorem byte_at (s : ByteArray) (k : Nat) (h : k < s.size) : s.data.toList.drop k = s[k] :: s.data.toList.drop (k + 1) := by
  rw [List.drop_eq_getElem_cons (by simpa using h)]; rfl
theorem own_new (w : World) : (w.alloc (.cells #[] 9)).ownsRow w.heap.size 9 1 (.slice (some ⟨w.heap.size, 0, none⟩) 0 0) 0 (vals []) := by
  refine ⟨rfl, Or.inr ⟨w.heap.size, 0, #[], rfl, Nat.le_refl _, ?_, Nat.le_refl _, by unfold maxLen; omega, rfl, rfl⟩⟩
  exact (MapKept.heap_alloc w _).1
theorem vals_snoc (xs : List (List UInt8)) (acc : List UInt8) : vals (xs ++ [acc]) = vals xs ++ [.string ⟨acc.toArray⟩] := by simp [vals]
theorem own_slice {w : World} {base e size n : Nat} {v : Value} {xs : List Value} (h : w.ownsRow base e size v (n + 1) xs) : ∃ ao cv, v = .slice ao (n + 1) cv := by
  rcases h.2 with ⟨_, h0⟩ | ⟨g, cap, _, hv, _⟩
  · omega
  · exact ⟨_, _, hv⟩
theorem ext1 (s : ByteArray) (acc : List UInt8) (k : Nat) (h : k < s.size) : ({ data := acc.toArray } : ByteArray) ++ s.extract k (k + 1) = ⟨(acc ++ [s[k]]).toArray⟩ := by
  apply ByteArray.ext
  have h' : k < s.data.size := h
  apply Array.ext'
  simp only [ByteArray.data_append, ByteArray.data_extract, Array.toList_append, Array.toList_extract, List.append_cancel_left_eq]
  rw [List.extract_eq_take_drop, show k + 1 - k = 1 from by omega, List.drop_eq_getElem_cons (by simpa using h')]
  rfl
theorem byte32 {b : UInt8} (h : (b.toNat : Int) = 32) : b = 32 := by
  apply UInt8.toNat_inj.1
  show b.toNat = 32
  omega
set_option maxHeartbeats 1000000 in
theorem l2Words (s : ByteArray) (hs : s.size ≤ 1000) (w : World) :
    Calls Tryz.prog 20 #[.string s] w fun e w' => ∃ v, e = .returned v ∧ w'.ownsRow w.heap.size 9 1 v (splitGo [] s.data.toList).length (vals (splitGo [] s.data.toList)) ∧ Below w.heap.size w w' := by
  obtain ⟨i0, hi, hz0, hz1, hz2⟩ := info_parts info9
  go_enter Tryz.func20, Tryz.ntmps20
  go_wp2
  go_loopw [3, 4, 5] (fun v t i wr => ∃ (k : Nat) (xs : List (List UInt8)) (acc : List UInt8) (ao : Option Addr) (cv : Nat), k ≤ s.size ∧ i = .int .i64 k ∧ t = .string ⟨acc.toArray⟩ ∧ v = .slice ao xs.length cv ∧ wr.ownsRow w.heap.size 9 1 v xs.length (vals xs) ∧ acc.length + xs.length ≤ k ∧ Hid (splitGo [] s.data.toList = xs ++ splitGo acc (s.data.toList.drop k)) ∧ Below w.heap.size w wr) (fun _ _ i _ => s.size - (intOf i).toNat)
  case atStart => exact ⟨0, [], [], _, _, Nat.zero_le _, rfl, rfl, rfl, own_new w, by simp, show _ = _ by simp, (Below.refl _ _).alloc (Nat.le_refl _) _⟩
  case round =>
    obtain ⟨k, xs, acc, ao, cv, hk, rfl, rfl, rfl, hown, hal, HS, hnx⟩ := hrel
    have hsize := hnx.size
    by_cases hlt : k < s.size
    · by_cases hb : (s[k].toNat : Int) = 32
      · have h32 : ((s[k].toNat : Int) == 32) = true := by rw [hb]; rfl
        have HB := Words.hide hb
        clear hb
        go_wp2_with (at_builtin; refine wpList_append_own _ rfl _ _ 38 rfl w.heap.size 9 i0 (.string ByteArray.empty) 1 16 Tryz.underlying38 hi hz0 hz1 hz2 rfl (by decide) _ _ _ rfl (hown.alloc _) ⟨wr.heap.size, 0, none⟩ 1 1 [.string ⟨acc.toArray⟩] rfl rfl (cell_one_new _ _ _) (fun x hx => by simp at hx; subst hx; rfl) (by unfold maxLen; omega) (by omega) (by simp; omega) ?_; intro v' w3 hown' hgrow3 hnil3)
        obtain ⟨ao3, cv3, hv3⟩ := own_slice hown'
        have hB : Below w.heap.size w w3 := (hnx.alloc hsize _).grown hgrow3 (by simp; omega) (fun q hq => (hown.lt q hq).1)
        refine ⟨⟨k + 1, xs ++ [acc], [], ao3, cv3, by omega, by go_num, rfl, by rw [hv3]; simp, by rw [vals_snoc, List.length_append]; exact hown', by simp; omega, ?_, hB⟩, by simp [intOf]; omega⟩
        show _ = _
        rw [HS.out, byte_at s k hlt, byte32 HB.out]
        simp [splitGo]
      · have h32 : ((s[k].toNat : Int) == 32) = false := beq_eq_false_iff_ne.2 hb
        have hne : ¬ s[k] = 32 := by intro e; apply hb; rw [e]; rfl
        have HNE := Words.hide hne
        clear hb hne
        go_wp2
        refine ⟨⟨k + 1, xs, acc ++ [s[k]], ao, cv, by omega, by go_num, by rw [ext1 s acc k hlt], rfl, hown, by simp; omega, ?_, hnx⟩, by simp [intOf]; omega⟩
        show _ = _
        rw [HS.out, byte_at s k hlt]
        simp [splitGo, HNE.out]
    · go_wp2_with (at_builtin; refine wpList_append_own _ rfl _ _ 38 rfl w.heap.size 9 i0 (.string ByteArray.empty) 1 16 Tryz.underlying38 hi hz0 hz1 hz2 rfl (by decide) _ _ _ rfl (hown.alloc _) ⟨wr.heap.size, 0, none⟩ 1 1 [.string ⟨acc.toArray⟩] rfl rfl (cell_one_new _ _ _) (fun x hx => by simp at hx; subst hx; rfl) (by unfold maxLen; omega) (by omega) (by simp; omega) ?_; intro v' w3 hown' hgrow3 hnil3)
      have hB : Below w.heap.size w w3 := (hnx.alloc hsize _).grown hgrow3 (by simp; omega) (fun q hq => (hown.lt q hq).1)
      have e1 : splitGo [] s.data.toList = xs ++ [acc] := by
        rw [HS.out, List.drop_eq_nil_of_le (by have : s.data.toList.length = s.size := Array.length_toList; omega)]; rfl
      go_ret
      refine ⟨v', rfl, ?_, hB⟩
      rw [e1, vals_snoc, List.length_append]
      exact hown'

theorem own_cell {w : World} {base e : Nat} {v : Value} {xs : List (List UInt8)} {n : Nat} (h : w.ownsRow base e 1 v n (vals xs)) (k : Nat) (hk : k < n) : ∃ g cap, v = .slice (some ⟨g, 0, none⟩) n cap ∧ w.cell? ⟨g, k, none⟩ = some (.string ⟨(xs.getD k []).toArray⟩) := by
  obtain ⟨hl, h0 | ⟨g, cap, cur, hv, _, hg, hn, _, hc, ht⟩⟩ := h
  · omega
  · refine ⟨g, cap, hv, ?_⟩
    have hx : k < xs.length := by simp [vals] at hl; omega
    have h1 : cur.toList[k]? = some (.string ⟨(xs.getD k []).toArray⟩) := by
      have e1 : (cur.toList.take (n * 1))[k]? = cur.toList[k]? := by rw [List.getElem?_take_of_lt (by omega)]
      rw [← e1, ht]
      simp [vals, List.getElem?_map, List.getElem?_eq_getElem hx, List.getD_eq_getElem?_getD]
    have h2 : cur[k]? = some (.string ⟨(xs.getD k []).toArray⟩) := by rw [← Array.getElem?_toList]; exact h1
    unfold World.cell?
    simp [hg, h2]
theorem l2At (xs : List (List UInt8)) (v : Value) (base : Nat) (k : Int) (w : World) (hk : 0 ≤ k) (h : w.ownsRow base 9 1 v xs.length (vals xs)) (hl : xs.length ≤ 1001) :
    Calls Tryz.prog 22 #[v, .int .i64 k] w fun e w' => e = .returned (.string ⟨(xs.getD k.toNat []).toArray⟩) ∧ w' = w := by
  obtain ⟨ao, cap, rfl⟩ : ∃ ao cap, v = .slice ao xs.length cap := by
    rcases h.2 with ⟨hv, h0⟩ | ⟨g, cap, _, hv, _⟩
    · exact ⟨_, _, by rw [hv, h0]⟩
    · exact ⟨_, _, hv⟩
  by_cases hlt : k < xs.length
  · obtain ⟨g, cap', hv, hc⟩ := own_cell h k.toNat (by omega)
    cases hv
    generalize xs.getD k.toNat [] = t at hc ⊢
    clear h
    go_enter Tryz.func22, Tryz.ntmps22
    go_wp2
    go_ret
    exact ⟨rfl, rfl⟩
  · have e : xs.getD k.toNat [] = [] := by rw [List.getD_eq_getElem?_getD, List.getElem?_eq_none (by omega)]; rfl
    rw [e]
    clear h e
    go_enter Tryz.func22, Tryz.ntmps22
    go_wp2
    go_ret
    exact ⟨rfl, rfl⟩
/-- The register that a text says; -1, if it is none. -/
def regOf (l : List UInt8) : Int := match l with
  | [b] => if 97 ≤ b.toNat ∧ b.toNat ≤ 100 then (b.toNat : Int) - 97 else -1
  | _ => -1
theorem one_list (s : ByteArray) (h : s.size = 1) : s.data.toList = [s[0]] := by
  have hl : s.data.toList.length = 1 := by have : s.data.toList.length = s.size := Array.length_toList; omega
  match hd : s.data.toList, hl with
  | [b], _ =>
    have : s.data.toList[0]? = some s[0] := by rw [List.getElem?_eq_getElem (by omega)]; rfl
    rw [hd] at this
    simp at this
    rw [this]
theorem regOf_long {l : List UInt8} (h : ¬ l.length = 1) : regOf l = -1 := by
  match l, h with
  | [], _ => rfl
  | [b], h => simp at h
  | a :: b :: r, _ => rfl
theorem l2RegOf (s : ByteArray) (w : World) (_hl : s.size ≤ 1001) :
    Calls Tryz.prog 23 #[.string s] w fun e w' => e = .returned (.int .i64 (regOf s.data.toList)) ∧ w' = w := by
  by_cases h1 : s.size = 1
  · have el := one_list s h1
    have er : regOf s.data.toList = if 97 ≤ s[0].toNat ∧ s[0].toNat ≤ 100 then (s[0].toNat : Int) - 97 else -1 := by rw [el]; rfl
    obtain ⟨r, e2⟩ : ∃ r, regOf s.data.toList = r := ⟨_, rfl⟩
    rw [e2] at er ⊢
    have ER := Words.hide er
    clear er e2 el
    have hs1 : ((s.size : Int) != 1) = false := by rw [h1]; rfl
    have hi : 0 < s.size := by omega
    go_enter Tryz.func23, Tryz.ntmps23
    go_wp2
    all_goals
      go_ret
      refine ⟨ret_int ?_, rfl⟩
      rw [ER.out]
      have hb : (s[0].toNat : Int) < 256 := by have := s[0].toNat_lt; omega
      have hw : wrap64 (s[0].toNat : Int) = s[0].toNat := IntWalk.wrap64_in _ ⟨by omega, by omega⟩
      simp only [hw] at *
      split <;> omega
  · rw [regOf_long (by intro h; apply h1; have : s.data.toList.length = s.size := Array.length_toList; omega)]
    have hs1 : ((s.size : Int) != 1) = true := by rw [bne_iff_ne]; omega
    go_enter Tryz.func23, Tryz.ntmps23
    go_wp2
    go_ret
    exact ⟨rfl, rfl⟩

def stops : Array Value := #[.string ⟨#[115, 116, 111, 112]⟩, .string ⟨#[114, 101, 116, 117, 114, 110]⟩, .string ⟨#[108, 101, 116]⟩, .string ⟨#[107, 101, 101, 112]⟩]
theorem stops_at (k : Nat) (h : k < 4) : stops[k]? = some (.string (stopS k)) := by
  have : k = 0 ∨ k = 1 ∨ k = 2 ∨ k = 3 := by omega
  rcases this with rfl | rfl | rfl | rfl <;> rfl
theorem names_at' (k : Nat) (h : k < 16) : names[k]? = some (.string (nameS k)) := by
  have := (names_at (k : Int) (by omega) (by omega)).1
  rwa [Int.toNat_natCast] at this
theorem ne_bytes {a b : ByteArray} (h : ¬ a = b) : (a.toList == b.toList) = false := by
  rw [ByteArray.toList_eq, ByteArray.toList_eq, beq_eq_false_iff_ne]
  intro e
  apply h
  exact WideShapes.bytes_inj e
/-- What l2Op tells of a word. -/
def OpOf (s : ByteArray) (o t : Int) : Prop :=
  (∃ k : Nat, k < 4 ∧ o = 0 ∧ t = k ∧ stopS k = s) ∨
  ((∀ k : Nat, k < 4 → ¬ stopS k = s) ∧ ((∃ k : Nat, 1 ≤ k ∧ k < 16 ∧ o = k ∧ t = 0 ∧ nameS k = s) ∨ (o = -1 ∧ t = 0 ∧ ∀ k : Nat, 1 ≤ k → k < 16 → ¬ nameS k = s)))
set_option maxHeartbeats 1000000 in
theorem l2Op (s : ByteArray) (w : World) :
    Calls Tryz.prog 21 #[.string s] w fun e w' => ∃ o t, e = .returned (.tuple #[.int .i64 o, .int .i64 t]) ∧ OpOf s o t ∧ Below w.heap.size w w' := by
  have B1 : Below w.heap.size w (w.alloc (.cells stops 9)) := (Below.refl _ _).alloc (Nat.le_refl _) _
  have hst : ∀ k : Nat, k < 4 → (w.alloc (.cells stops 9)).cell? ⟨w.heap.size, k, none⟩ = some (.string (stopS k)) := fun k hk => by rw [World.cell?_alloc_new]; exact stops_at k hk
  have HST := Words.hide hst
  clear hst
  go_enter Tryz.func21, Tryz.ntmps21
  go_wp2
  go_loopw [5] (fun i wr => ∃ k : Nat, k ≤ 4 ∧ i = .int .i64 k ∧ Hid (∀ j : Nat, j < k → ¬ stopS j = s) ∧ Hid (∀ k : Nat, k < 4 → wr.cell? ⟨w.heap.size, k, none⟩ = some (.string (stopS k))) ∧ Below w.heap.size w wr) (fun i _ => 4 - (intOf i).toNat)
  case atStart => exact ⟨0, by omega, rfl, fun j hj => by omega, HST, B1⟩
  case round =>
    obtain ⟨k, hk, rfl, HN, HW, B2⟩ := hrel
    clear HST B1
    by_cases hlt : k < 4
    · have hc := HW.out k hlt
      by_cases e : stopS k = s
      · rw [e] at hc
        have HE := Words.hide e
        clear e
        go_wp2
        go_ret2
        exact ⟨0, k, rfl, Or.inl ⟨k, hlt, rfl, rfl, HE.out⟩, B2⟩
      · have hne := ne_bytes e
        have HE := Words.hide e
        clear e
        generalize stopS k = t at hc hne
        go_wp2
        refine ⟨⟨k + 1, by omega, by go_num, fun j hj => ?_, HW, B2⟩, by simp [intOf]; omega⟩
        by_cases ej : j = k
        · subst ej; exact HE.out
        · exact HN.out j (by omega)
    · have HA : Hid (∀ j : Nat, j < 4 → ¬ stopS j = s) := fun j hj => HN.out j (by omega)
      clear HN HW
      go_wp2_with fail
      refine (l2Names _).mono ?_
      rintro e w2 ⟨rfl, rfl⟩
      have hnm : ∀ k : Nat, k < 16 → (wr.alloc (.cells names 9)).cell? ⟨wr.heap.size, k, none⟩ = some (.string (nameS k)) := fun k hk => by rw [World.cell?_alloc_new]; exact names_at' k hk
      have HNM := Words.hide hnm
      have B3 : Below w.heap.size w (wr.alloc (.cells names 9)) := B2.alloc B2.size _
      obtain ⟨wo, rfl⟩ : ∃ wo : World, wo = wr := ⟨_, rfl⟩
      go_wp2
      go_loopw [7] (fun i wr2 => ∃ k : Nat, 1 ≤ k ∧ k ≤ 16 ∧ i = .int .i64 k ∧ Hid (∀ j : Nat, 1 ≤ j → j < k → ¬ nameS j = s) ∧ Hid (∀ k : Nat, k < 16 → wr2.cell? ⟨wo.heap.size, k, none⟩ = some (.string (nameS k))) ∧ Below w.heap.size w wr2) (fun i _ => 16 - (intOf i).toNat)
      case atStart => exact ⟨1, by omega, by omega, rfl, fun j hj hj2 => by omega, HNM, B3⟩
      case round =>
        obtain ⟨k2, hk1, hk2, rfl, HN2, HW2, B4⟩ := hrel
        clear HNM B3 B2
        by_cases hlt2 : k2 < 16
        · have hc := HW2.out k2 hlt2
          by_cases e : nameS k2 = s
          · rw [e] at hc
            have HE := Words.hide e
            clear e
            go_wp2
            go_ret2
            exact ⟨k2, 0, rfl, Or.inr ⟨HA.out, Or.inl ⟨k2, hk1, hlt2, rfl, rfl, HE.out⟩⟩, B4⟩
          · have hne := ne_bytes e
            have HE := Words.hide e
            clear e
            generalize nameS k2 = t at hc hne
            go_wp2
            refine ⟨⟨k2 + 1, by omega, by omega, by go_num, fun j hj hj2 => ?_, HW2, B4⟩, by simp [intOf]; omega⟩
            by_cases ej : j = k2
            · subst ej; exact HE.out
            · exact HN2.out j hj (by omega)
        · go_wp2
          go_ret2
          exact ⟨-1, 0, rfl, Or.inr ⟨HA.out, Or.inr ⟨rfl, rfl, fun j hj hj2 => HN2.out j hj (by omega)⟩⟩, B4⟩

theorem splitGo_len : ∀ (l acc : List UInt8), 1 ≤ (splitGo acc l).length ∧ (splitGo acc l).length ≤ l.length + 1
  | [], acc => by simp [splitGo]
  | b :: r, acc => by
    unfold splitGo
    split
    · have := splitGo_len r []
      simp; omega
    · have := splitGo_len r (acc ++ [b])
      simp; omega
theorem split_len (l : List UInt8) : 1 ≤ (splitGo [] l).length ∧ (splitGo [] l).length ≤ l.length + 1 := splitGo_len l []
end Go.Proofs.YthpajjlhjfhdpaaGreatDoor.Ins
