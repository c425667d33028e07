/-
  Some elements appended to a slice that the call made (one at least), over any program and any type of elements: where the new row lies is told.
-/
import Derived.Test.YtnhpmbhphbphaaaGreatJnC
import Derived.Test.YtnhpmbhphbphaaaGreatJnG
import Derived.Test.YtnhpmbhphbphaaaGreatInsS
import Derived.Test.YtnhpmbhphbphaaaGreatJnD
namespace Go.Proofs.YtnhpmbhphbphaaaGreat.PushM
set_option linter.unusedVariables false
set_option linter.unusedSimpArgs false
open Go Go.ChangeShapes Go.WideShapes Go.ChangeAt Go.RowKit IntS Flat InsS Push
open Blk (OwnN)
open Mch (Rec)
theorem run_pushM {P : Program} {w : World} (lo : Nat) (t ty e : TypeId) (i : TypeInfo) (z : Value) (size bytes : Nat) (ht : P.underlying t = some (.slice e)) (hi : P.info? e = some i) (hz : i.zero = some z) (hsize : i.size = size) (hby : i.bytes = bytes) (hzs : z.cells.size = size) (hsz : 0 < size)
    (v : Value) (n : Nat) (xs : List Value) (hown : w.ownsRow lo e size v n xs) (a : Addr) (m k : Nat) (hm1 : 1 ≤ m) (news : List Value) (hl1 : news.length = m * size) (hnews : ∀ j u, news[j]? = some u → w.cell? (a.add j) = some u) (h1 : ∀ u ∈ news, u.oneCell' = true)
    (h63 : n + m ≤ maxLen) (hbytes : (n + m) * bytes ≤ 140737488355328) (hlo : lo ≤ w.heap.size) :
    ∃ g' cap' w', (Builtin.append_ #[t, t] ty #[v, .slice (some a) m k]).run P w = .ok (.slice (some ⟨g', 0, none⟩) (n + m) cap') w' ∧ w'.ownsRow lo e size (.slice (some ⟨g', 0, none⟩) (n + m) cap') (n + m) (xs ++ news) ∧ (v.ownBlock = some g' ∨ w.heap.size ≤ g') ∧ g' < w'.heap.size ∧ w.grownBy w' v.ownBlock := by
  have form {lo' : Nat} {v' : Value} {w' : World} (h : w'.ownsRow lo' e size v' (n + m) (xs ++ news)) : ∃ g' cap', v' = .slice (some ⟨g', 0, none⟩) (n + m) cap' ∧ lo' ≤ g' ∧ g' < w'.heap.size := by
    obtain ⟨_, h0 | ⟨g', cap', cur, hv, hb, hh, _⟩⟩ := h
    · exact absurd h0.2 (by omega)
    · exact ⟨g', cap', hv, hb, by rcases Nat.lt_or_ge g' w'.heap.size with h' | h'; exact h'; rw [Array.getElem?_eq_none h'] at hh; cases hh⟩
  have hown' := hown
  obtain ⟨hx, ⟨rfl, rfl⟩ | ⟨g, cap, cur, rfl, hb, hh, hle, hm, hc, htk⟩⟩ := hown
  · obtain ⟨v', w', hr, g1, g2, _⟩ := run_append_own (P := P) w w.heap.size t ty e i z size bytes ht hi hz hsize hby hzs hsz (.slice none 0 0) 0 xs ⟨hx, Or.inl ⟨rfl, rfl⟩⟩ a m k news hl1 hnews h1 h63 hbytes (Nat.le_refl _)
    obtain ⟨g', cap', rfl, q1, q2⟩ := form g1
    exact ⟨g', cap', w', hr, owns_mono g1 hlo, Or.inr q1, q2, g2⟩
  · by_cases hr : n + m ≤ cap
    · have cells (j : Nat) (hj : j < cap * size) : (w.cell? ⟨g, j, none⟩).isSome = true ∧ w.frozen? ⟨g, j, none⟩ = false := by
        refine ⟨?_, ?_⟩
        · unfold World.cell?
          simp [hh, hc, hj]
        · unfold World.frozen?
          simp [hh]
      have bnd : n * size + m * size ≤ cap * size := by
        have := Nat.mul_le_mul_right size hr
        rw [Nat.add_mul] at this
        omega
      have hrun := run_append_room_cells (P := P) w t ty e i ht hi g 0 n cap a m k news (by rw [hsize]; exact hl1) hnews h1 hr (fun j hj => by
        rw [hsize, Nat.zero_add]
        exact (cells _ (by omega)).1) (fun j hj => by
        rw [hsize, Nat.zero_add]
        exact (cells _ (by omega)).2)
      obtain ⟨v', w', hr2, g1, g2, _⟩ := run_append_own (P := P) w lo t ty e i z size bytes ht hi hz hsize hby hzs hsz _ n xs hown' a m k news hl1 hnews h1 h63 hbytes hlo
      rw [hrun] at hr2
      obtain ⟨rfl, rfl⟩ : .slice (some ⟨g, 0, none⟩) (n + m) cap = v' ∧ w.setCells g (0 + n * i.size) news = w' := by cases hr2; exact ⟨rfl, rfl⟩
      obtain ⟨_, _, e, _, q2⟩ := form g1
      cases e
      exact ⟨g, cap, _, hrun, g1, Or.inl rfl, q2, g2⟩
    · have hcells (j : Nat) (u : Value) (hu : xs[j]? = some u) : w.cell? ((⟨g, 0, none⟩ : Addr).add j) = some u := by
        rw [Addr.add_lit, Nat.zero_add]
        have hj : j < n * size := by rw [← hx]; exact (List.getElem?_eq_some_iff.1 hu).1
        rw [← htk, List.getElem?_take, if_pos hj] at hu
        unfold World.cell?
        simp only [hh]
        simpa using hu
      obtain ⟨v', w', hrun, g1, g2⟩ := run_append_arg_grows (P := P) w t ty e i z size bytes ht hi hz hsize hby hzs hsz ⟨g, 0, none⟩ n cap xs hx hcells a m k news hl1 hnews (by omega) h63 hbytes
      obtain ⟨g', cap', rfl, q1, q2⟩ := form g1
      exact ⟨g', cap', w', hrun, owns_mono g1 hlo, Or.inr q1, q2, ⟨g2.os, g2.tape, g2.output, g2.size, fun k hk _ => g2.block k hk (by simp)⟩⟩
/-- Structs of ints. -/
theorem run_flatM {P : Program} {w : World} {lo cap : Nat} {q : Option Addr} {n : Nat} {fs : List Int} (t ty e : TypeId) (i : TypeInfo) (z : Value) (c bytes : Nat) (ht : P.underlying t = some (.slice e)) (hi : P.info? e = some i) (hz : i.zero = some z) (hsize : i.size = c) (hby : i.bytes = bytes) (hzs : z.cells.size = c) (hc : 0 < c) (hbm : bytes ≤ 40)
    (hown : OwnF e c w lo (.slice q n cap) n fs) (hn : n ≤ 1000000) (hlo : lo ≤ w.heap.size) (Z m k : Nat) (hm1 : 1 ≤ m) (hm2 : m ≤ 1000000) (ys : List Int) (hl : ys.length = m * c) (hys : ∀ (j : Nat) x, ys[j]? = some x → w.cell? ⟨Z, j, none⟩ = some (.int .i64 x)) :
    ∃ g' cap' w' T, (Builtin.append_ #[t, t] ty #[.slice q n cap, .slice (some ⟨Z, 0, none⟩) m k]).run P w = .ok (.slice (some ⟨g', 0, none⟩) (n + m) cap') w' ∧ OwnF e c w' lo (.slice (some ⟨g', 0, none⟩) (n + m) cap') (n + m) (fs ++ ys) ∧ Turn T w w' ∧ lo ≤ T := by
  obtain ⟨g', cap', w', h1, h2, h3, h4, h5⟩ := run_pushM (P := P) (w := w) lo t ty e i z c bytes ht hi hz hsize hby hzs hc _ n (vals fs) hown ⟨Z, 0, none⟩ m k hm1 (vals ys) (by rw [vals_len, hl]) (fun j u hu => by
    simp only [vals, List.getElem?_map, Option.map_eq_some_iff] at hu
    obtain ⟨y, hy, rfl⟩ := hu
    rw [Addr.add_lit, Nat.zero_add]
    exact hys j y hy) (fun u hu => by
    obtain ⟨y, _, rfl⟩ := List.mem_map.1 hu
    rfl) (by unfold maxLen; omega) (by
    have := Nat.mul_le_mul_left (n + m) hbm
    omega) hlo
  obtain ⟨T, t1, t2⟩ := grown_turn h5 (hown.q_form.imp (fun e => e.1) id)
  refine ⟨g', cap', w', T, h1, ?_, t1, ?_⟩
  · unfold OwnF
    rw [show vals (fs ++ ys) = vals fs ++ vals ys by simp [vals]]
    exact h2
  · rcases t2 with t2 | t2
    · exact (hown.q_lt t2).1
    · omega
/-- Instructions. -/
theorem pushI {w : World} {ty : TypeId} {lo cap n : Nat} {q : Option Addr} {is : List In4} (hown : OwnI w lo (.slice q n cap) is) (hl : is.length = n) (hn : n ≤ 1000000) (hlo : lo ≤ w.heap.size) (Z m k : Nat) (js : List In4) (hm : js.length = m) (hm1 : 1 ≤ m) (hm2 : m ≤ 1000000)
    (hys : ∀ (j : Nat) x, (flatI js)[j]? = some x → w.cell? ⟨Z, j, none⟩ = some (.int .i64 x)) :
    ∃ g' cap' w' T, (Builtin.append_ #[107, 107] ty #[.slice q n cap, .slice (some ⟨Z, 0, none⟩) m k]).run Tryz.prog w = .ok (.slice (some ⟨g', 0, none⟩) (n + m) cap') w' ∧ OwnI w' lo (.slice (some ⟨g', 0, none⟩) (n + m) cap') (is ++ js) ∧ Turn T w w' ∧ lo ≤ T := by
  subst hl hm
  obtain ⟨j, hi, hz, hsz, hby⟩ := infoIns
  obtain ⟨g', cap', w', T, h1, h2, h3⟩ := run_flatM (P := Tryz.prog) 107 ty 38 j _ 4 32 Tryz.underlying107 hi hz hsz hby rfl (by decide) (by decide) hown hn hlo Z js.length k hm1 hm2 (flatI js) (flatI_len js) hys
  refine ⟨g', cap', w', T, h1, ?_, h3⟩
  unfold OwnI
  rw [List.length_append, flatI_app]
  exact h2
/-- Ints. -/
theorem pushN {w : World} {ty : TypeId} {lo cap n : Nat} {q : Option Addr} {xs : List Int} (hown : OwnN w lo (.slice q n cap) xs) (hl : xs.length = n) (hn : n ≤ 1000000) (hlo : lo ≤ w.heap.size) (Z m k : Nat) (ys : List Int) (hm : ys.length = m) (hm1 : 1 ≤ m) (hm2 : m ≤ 1000000)
    (hys : ∀ (j : Nat) x, ys[j]? = some x → w.cell? ⟨Z, j, none⟩ = some (.int .i64 x)) :
    ∃ g' cap' w' T, (Builtin.append_ #[23, 23] ty #[.slice q n cap, .slice (some ⟨Z, 0, none⟩) m k]).run Tryz.prog w = .ok (.slice (some ⟨g', 0, none⟩) (n + m) cap') w' ∧ OwnN w' lo (.slice (some ⟨g', 0, none⟩) (n + m) cap') (xs ++ ys) ∧ Turn T w w' ∧ lo ≤ T := by
  subst hl hm
  obtain ⟨j, hi, hz, hsz, hby⟩ := IntS.info_int
  obtain ⟨g', cap', w', T, h1, h2, h3⟩ := run_flatM (P := Tryz.prog) 23 ty 3 j _ 1 8 Tryz.underlying23 hi hz hsz hby rfl (by decide) (by decide) hown hn hlo Z ys.length k hm1 hm2 ys (by omega) hys
  refine ⟨g', cap', w', T, h1, ?_, h3⟩
  unfold OwnN
  rw [List.length_append]
  exact h2
/-- A slice that was just built, of a block's cells. -/
theorem own_built {w : World} {lo n c : Nat} {t : TypeId} {fs : List Int} (hlo : lo ≤ w.heap.size) (hl : fs.length = n * c) (hn : n ≤ 1000000) : OwnF t c (w.alloc (.cells (fs.map fun v => Value.int .i64 v).toArray t)) lo (.slice (some ⟨w.heap.size, 0, none⟩) n n) n fs :=
  ⟨by simp [vals, hl], Or.inr ⟨w.heap.size, n, (fs.map fun v => Value.int .i64 v).toArray, rfl, hlo, (MapKept.heap_alloc w _).1, Nat.le_refl _, by unfold maxLen; omega, by simp [hl], by simp only [List.toList_toArray]; rw [← hl]; exact List.take_of_length_le (by simp)⟩⟩
end Go.Proofs.YtnhpmbhphbphaaaGreat.PushM
