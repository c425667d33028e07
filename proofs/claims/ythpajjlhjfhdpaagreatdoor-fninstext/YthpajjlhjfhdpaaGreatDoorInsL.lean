/-
  What the listed package-level variables hold when the call begins, read off the card's own condition: the tables of names, the table of powers, the error variables.
-/
import Derived.Test.YthpajjlhjfhdpaaGreatDoorInsX
import Derived.Test.YthpajjlhjfhdpaaGreatDoorRows
import Derived.LaidMore
import Derived.Stop.Joined
import Derived.Stop.LaidErr
import Derived.Lib.LaidTab
import Derived.OpenShut
namespace Go.Proofs.YthpajjlhjfhdpaaGreatDoor.InsI
open Go.ChangeShapes Go.WideShapes Go.ChangeAt Go.RowKit Ins
theorem laidVars_mem {P : Program} {w : World} : ∀ {laid : List (String × DataW Unit)} {ps : List MemPlace}, DataW.LaidVars P w laid ps → ∀ {n : String} {d : DataW Unit}, (n, d) ∈ laid →
    ∃ g t cs fuel p, P.globalNamed n = some g ∧ (P.globals[g]?).map (·.type) = some t ∧ w.var? P n = some cs ∧ DataW.trod (fun _ => ()) P w 0 (fun _ => true) false fuel t cs.toList = some (d, p)
  | [], _, _, _, _, hm => by cases hm
  | (n', d') :: r, ps, h, n, d, hm => by
    obtain ⟨g, t, cs, fuel, p, q, h1, h2, h3, h4, h5, _⟩ := h
    rcases List.mem_cons.1 hm with e | hm
    · obtain ⟨rfl, rfl⟩ := Prod.mk.inj e
      exact ⟨g, t, cs, fuel, p, h1, h2, h3, h4⟩
    · exact laidVars_mem h5 hm
theorem laid_mem {P : Program} {w : World} {laid : List (String × DataW Unit)} (h : laidMet P laid w) {n : String} {d : DataW Unit} (hm : (n, d) ∈ laid) :
    ∃ g t cs fuel p, P.globalNamed n = some g ∧ (P.globals[g]?).map (·.type) = some t ∧ w.var? P n = some cs ∧ DataW.trod (fun _ => ()) P w 0 (fun _ => true) false fuel t cs.toList = some (d, p) := by
  obtain ⟨ps, h, _⟩ := h
  exact laidVars_mem h hm
theorem pow_of {w : World} {laid : List (String × DataW Unit)} (h : laidMet Tryz.prog laid w) (hm : ("internal/strconv.uint64pow10", Lib.tabData .u64 Lib.pow10Tab) ∈ laid) : Lib.TabIs Tryz.prog w "internal/strconv.uint64pow10" .u64 Lib.pow10Tab := by
  obtain ⟨g, t, cs, fuel, p, hg, ht, hvar, hd⟩ := laid_mem h hm
  obtain rfl := Option.some.inj ((show Tryz.prog.globalNamed "internal/strconv.uint64pow10" = some 5 by kernel_rfl).symm.trans hg)
  obtain rfl := Option.some.inj ((show (Tryz.prog.globals[(5 : Nat)]?).map (·.type) = some 127 by kernel_rfl).symm.trans ht)
  unfold Lib.TabIs
  rw [hvar, ← Lib.cells_of_tab Tryz.underlying127 Tryz.underlying108 (by kernel_rfl) (by kernel_rfl) hd]
theorem strs_of {w : World} {fuel : Nat} {cs : List Value} {p : List MemPlace} (L : List (List UInt8)) (hne : 0 < L.length) (h : DataW.trod (fun _ => ()) Tryz.prog w 0 (fun _ => true) false fuel 38 cs = some (.slice (L.map fun s => .lit (.string s)) [], p)) :
    ∃ b o c, L.length ≤ c ∧ c ≤ maxLen ∧ cs = [.slice (some ⟨b, o, none⟩) L.length c] ∧ ∀ (k : Nat) s, L[k]? = some s → w.cell? ⟨b, o + k, none⟩ = some (.string ⟨s.toArray⟩) := by
  rcases Go.Deep.open_strs Tryz.underlying38 Tryz.underlying9 (by kernel_rfl) h with ⟨_, h0⟩ | ⟨a, len, cap, m, Sx, rfl, _, hl, hm, hmm, hx, hc⟩
  · simp at h0
  · simp only [Prod.mk.injEq, DataW.slice.injEq] at hx
    obtain ⟨⟨h1, h2⟩, _⟩ := hx
    have hlen : L.length = len := by have := congrArg List.length h1; simpa using this
    have hm2 : len ≤ m := by
      rw [hmm]; split <;> omega
    obtain ⟨b, o, spot⟩ := a
    have hspot : spot = none := by simpa [Addr.add] using World.cell?_spot (hc 0 (by omega)).1
    subst hspot
    refine ⟨b, o, cap, by omega, hm, by rw [hlen], fun k s hk => ?_⟩
    have hkl : k < len := by rw [← hlen]; exact (List.getElem?_eq_some_iff.1 hk).1
    have h3 := congrArg (·[k]?) h1
    simp [hk, hkl] at h3
    rw [← Go.WideShapes.add_plain, (hc k (by omega)).1, h3]
theorem var_cell {w : World} {n : String} {g : Nat} {cs : Array Value} {v : Value} (hg : Tryz.prog.globalNamed n = some g) (h : w.var? Tryz.prog n = some cs) (hc : cs.toList = [v]) : w.cell? ⟨g, 0, none⟩ = some v := by
  rw [World.var?_cell hg h 0]
  have : cs = #[v] := by apply Array.ext'; simpa using hc
  subst this
  rfl
def insL : List (List UInt8) := [[115, 116, 111, 112], [115, 101, 116], [109, 111, 118, 101], [97, 100, 100], [115, 117, 98], [109, 117, 108], [97, 110, 100], [120, 111, 114], [115, 104, 105, 102, 116], [108, 111, 97, 100], [115, 116, 111, 114, 101], [115, 97, 109, 101], [108, 101, 115, 115], [103, 111], [111, 117, 116], [105, 110]]
def stopL' : List (List UInt8) := [[115, 116, 111, 112], [114, 101, 116, 117, 114, 110], [108, 101, 116], [107, 101, 101, 112]]
theorem insL_at (k : Nat) (h : k < 16) : insL[k]? = some (nameS k).data.toList := by
  have : k = 0 ∨ k = 1 ∨ k = 2 ∨ k = 3 ∨ k = 4 ∨ k = 5 ∨ k = 6 ∨ k = 7 ∨ k = 8 ∨ k = 9 ∨ k = 10 ∨ k = 11 ∨ k = 12 ∨ k = 13 ∨ k = 14 ∨ k = 15 := by omega
  rcases this with rfl | rfl | rfl | rfl | rfl | rfl | rfl | rfl | rfl | rfl | rfl | rfl | rfl | rfl | rfl | rfl <;> rfl
theorem stopL_at (k : Nat) (h : k < 4) : stopL'[k]? = some (stopS k).data.toList := by
  have : k = 0 ∨ k = 1 ∨ k = 2 ∨ k = 3 := by omega
  rcases this with rfl | rfl | rfl | rfl <;> rfl
theorem back (s : ByteArray) : (⟨s.data.toList.toArray⟩ : ByteArray) = s := by
  apply ByteArray.ext; simp
theorem tabs_of {w : World} {laid : List (String × DataW Unit)} (h : laidMet Tryz.prog laid w) (hp : ("internal/strconv.uint64pow10", Lib.tabData .u64 Lib.pow10Tab) ∈ laid)
    (hn : ("loop.example/latimer/impl.insNames", .slice (insL.map fun s => .lit (.string s)) []) ∈ laid) (hs : ("loop.example/latimer/impl.stopNames", .slice (stopL'.map fun s => .lit (.string s)) []) ∈ laid) : Tabs w := by
  refine ⟨pow_of h hp, ?_, ?_⟩
  · obtain ⟨g, t, cs, fuel, p, hg, ht, hvar, hd⟩ := laid_mem h hn
    obtain rfl := Option.some.inj ((show Tryz.prog.globalNamed "loop.example/latimer/impl.insNames" = some 1 by kernel_rfl).symm.trans hg)
    obtain rfl := Option.some.inj ((show (Tryz.prog.globals[(1 : Nat)]?).map (·.type) = some 38 by kernel_rfl).symm.trans ht)
    obtain ⟨b, o, c, h1, h2, h3, h4⟩ := strs_of insL (by decide) hd
    exact ⟨b, o, c, h1, h2, var_cell hg hvar h3, fun k hk => by rw [h4 k _ (insL_at k hk), back]⟩
  · obtain ⟨g, t, cs, fuel, p, hg, ht, hvar, hd⟩ := laid_mem h hs
    obtain rfl := Option.some.inj ((show Tryz.prog.globalNamed "loop.example/latimer/impl.stopNames" = some 0 by kernel_rfl).symm.trans hg)
    obtain rfl := Option.some.inj ((show (Tryz.prog.globals[(0 : Nat)]?).map (·.type) = some 38 by kernel_rfl).symm.trans ht)
    obtain ⟨b, o, c, h1, h2, h3, h4⟩ := strs_of stopL' (by decide) hd
    exact ⟨b, o, c, h1, h2, var_cell hg hvar h3, fun k hk => by rw [h4 k _ (stopL_at k hk), back]⟩
end Go.Proofs.YthpajjlhjfhdpaaGreatDoor.InsI
