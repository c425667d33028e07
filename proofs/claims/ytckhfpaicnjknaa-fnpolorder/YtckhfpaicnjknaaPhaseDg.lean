/-
  A drawn region at which two operations that are free of all others (boxes that are made) may come up anywhere along a chain of calls: layer by layer, whatever the order.
-/
import Derived.Test.YtckhfpaicnjknaaPhaseTw
namespace Go.Proofs.Ytckhfpaicnjknaa.PhaseIn
open Go
section
variable {P : Program} {ops : Array Oper} {Q : Exit → Act → World → Prop} {md : Region.Mode} {S : World → Prop} {n : Nat}
theorem any_list {fuel : Nat} {listed : Array Bool} {a : Act} {w : World} (l : List Nat) (hr : Region.ready md ops listed = l) (hne : l ≠ [])
    (h : ∀ i ∈ l, ∃ o, ops[i]? = some o ∧ Region.wanted o (yielded ops a.tmps) = true ∧ ∀ K : Act → World → Prop, (∀ a' w', S w' → wpAnyW P md ops Q S n fuel (listed.setIfInBounds i true) a' w' → K a' w') → Oper.wpIn Fence.wide 0 P o a w K Q) : wpAnyW P md ops Q S n (fuel + 1) listed a w := by
  refine ⟨fun h0 => (hne (by rw [← hr]; exact h0)).elim, fun k hk => ?_⟩
  rw [hr] at hk
  obtain ⟨o, ho, hw, hh⟩ := h k hk
  unfold wpOpIn
  simp only [ho]
  rw [if_pos hw]
  exact hh _ (fun a' w' h1 h2 => ⟨fun _ => h1, h2⟩)
/-- How many of two are still to come. -/
def left2 (b1 b2 : Bool) : Nat := (if b1 then 0 else 1) + (if b2 then 0 else 1)
def free2 (za zb : Nat) (b1 b2 : Bool) : List Nat := (if b1 then [] else [za]) ++ (if b2 then [] else [zb])
theorem wanted_none {o : Oper} (h : o.guard = none) {y} : Region.wanted o y = true := by simp [Region.wanted, h]
theorem layer {F : Nat} (c za zb : Nat) (oc oa ob : Oper) (hc0 : ops[c]? = some oc) (ha0 : ops[za]? = some oa) (hb0 : ops[zb]? = some ob) (gc : oc.guard = none) (ga : oa.guard = none) (gb : ob.guard = none)
    (L : Bool → Bool → Array Bool) (I J : Bool → Bool → Act → World → Prop)
    (hr : ∀ b1 b2, Region.ready md ops (L b1 b2) = c :: free2 za zb b1 b2) (la : ∀ b2, (L false b2).setIfInBounds za true = L true b2) (lb : ∀ b1, (L b1 false).setIfInBounds zb true = L b1 true)
    (next : ∀ b1 b2 a w, J b1 b2 a w → wpAnyW P md ops Q S n (F + left2 b1 b2) ((L b1 b2).setIfInBounds c true) a w)
    (hc : ∀ b1 b2 a w (K : Act → World → Prop), I b1 b2 a w → (∀ a' w', S w' → J b1 b2 a' w' → K a' w') → Oper.wpIn Fence.wide 0 P oc a w K Q)
    (ha : ∀ b2 a w (K : Act → World → Prop), I false b2 a w → (∀ a' w', S w' → I true b2 a' w' → K a' w') → Oper.wpIn Fence.wide 0 P oa a w K Q)
    (hb : ∀ b1 a w (K : Act → World → Prop), I b1 false a w → (∀ a' w', S w' → I b1 true a' w' → K a' w') → Oper.wpIn Fence.wide 0 P ob a w K Q) :
    ∀ b1 b2 a w, I b1 b2 a w → wpAnyW P md ops Q S n (F + left2 b1 b2 + 1) (L b1 b2) a w := by
  have call (b1 b2 : Bool) (a : Act) (w : World) (h : I b1 b2 a w) : ∃ o, ops[c]? = some o ∧ Region.wanted o (yielded ops a.tmps) = true ∧ ∀ K : Act → World → Prop, (∀ a' w', S w' → wpAnyW P md ops Q S n (F + left2 b1 b2) ((L b1 b2).setIfInBounds c true) a' w' → K a' w') → Oper.wpIn Fence.wide 0 P o a w K Q :=
    ⟨oc, hc0, wanted_none gc, fun K hK => hc b1 b2 a w K h (fun a' w' h1 h2 => hK a' w' h1 (next b1 b2 a' w' h2))⟩
  have tt : ∀ a w, I true true a w → wpAnyW P md ops Q S n (F + left2 true true + 1) (L true true) a w := fun a w h =>
    any_list [c] (hr true true) (by simp) (fun i hi => by
      obtain rfl : i = c := by simpa using hi
      exact call true true a w h)
  have ft : ∀ a w, I false true a w → wpAnyW P md ops Q S n (F + left2 false true + 1) (L false true) a w := fun a w h =>
    any_list [c, za] (hr false true) (by simp) (fun i hi => by
      have hi2 : i = c ∨ i = za := by simpa using hi
      rcases hi2 with rfl | rfl
      · exact call false true a w h
      · exact ⟨oa, ha0, wanted_none ga, fun K hK => ha true a w K h (fun a' w' h1 h2 => hK a' w' h1 (by rw [la]; exact tt a' w' h2))⟩)
  have tf : ∀ a w, I true false a w → wpAnyW P md ops Q S n (F + left2 true false + 1) (L true false) a w := fun a w h =>
    any_list [c, zb] (hr true false) (by simp) (fun i hi => by
      have hi2 : i = c ∨ i = zb := by simpa using hi
      rcases hi2 with rfl | rfl
      · exact call true false a w h
      · exact ⟨ob, hb0, wanted_none gb, fun K hK => hb true a w K h (fun a' w' h1 h2 => hK a' w' h1 (by rw [lb]; exact tt a' w' h2))⟩)
  have ff : ∀ a w, I false false a w → wpAnyW P md ops Q S n (F + left2 false false + 1) (L false false) a w := fun a w h =>
    any_list [c, za, zb] (hr false false) (by simp) (fun i hi => by
      have hi2 : i = c ∨ i = za ∨ i = zb := by simpa using hi
      rcases hi2 with rfl | rfl | rfl
      · exact call false false a w h
      · exact ⟨oa, ha0, wanted_none ga, fun K hK => ha false a w K h (fun a' w' h1 h2 => hK a' w' h1 (by rw [la]; exact tf a' w' h2))⟩
      · exact ⟨ob, hb0, wanted_none gb, fun K hK => hb false a w K h (fun a' w' h1 h2 => hK a' w' h1 (by rw [lb]; exact ft a' w' h2))⟩)
  intro b1 b2 a w h
  cases b1 <;> cases b2
  · exact ff a w h
  · exact ft a w h
  · exact tf a w h
  · exact tt a w h
theorem last {F : Nat} (za zb : Nat) (oa ob : Oper) (ha0 : ops[za]? = some oa) (hb0 : ops[zb]? = some ob) (ga : oa.guard = none) (gb : ob.guard = none)
    (L : Bool → Bool → Array Bool) (I : Bool → Bool → Act → World → Prop)
    (hr : ∀ b1 b2, (b1 && b2) = false → Region.ready md ops (L b1 b2) = free2 za zb b1 b2) (la : ∀ b2, (L false b2).setIfInBounds za true = L true b2) (lb : ∀ b1, (L b1 false).setIfInBounds zb true = L b1 true)
    (ha : ∀ b2 a w (K : Act → World → Prop), I false b2 a w → (∀ a' w', S w' → I true b2 a' w' → K a' w') → Oper.wpIn Fence.wide 0 P oa a w K Q)
    (hb : ∀ b1 a w (K : Act → World → Prop), I b1 false a w → (∀ a' w', S w' → I b1 true a' w' → K a' w') → Oper.wpIn Fence.wide 0 P ob a w K Q)
    (fin : ∀ a w, I true true a w → wpAnyW P md ops Q S n F (L true true) a w) :
    ∀ b1 b2 a w, I b1 b2 a w → wpAnyW P md ops Q S n (F + left2 b1 b2) (L b1 b2) a w := by
  have ft : ∀ a w, I false true a w → wpAnyW P md ops Q S n (F + left2 false true) (L false true) a w := fun a w h =>
    any_list [za] (hr false true rfl) (by simp) (fun i hi => by
      obtain rfl : i = za := by simpa using hi
      exact ⟨oa, ha0, wanted_none ga, fun K hK => ha true a w K h (fun a' w' h1 h2 => hK a' w' h1 (by rw [la]; exact fin a' w' h2))⟩)
  have tf : ∀ a w, I true false a w → wpAnyW P md ops Q S n (F + left2 true false) (L true false) a w := fun a w h =>
    any_list [zb] (hr true false rfl) (by simp) (fun i hi => by
      obtain rfl : i = zb := by simpa using hi
      exact ⟨ob, hb0, wanted_none gb, fun K hK => hb true a w K h (fun a' w' h1 h2 => hK a' w' h1 (by rw [lb]; exact fin a' w' h2))⟩)
  have ff : ∀ a w, I false false a w → wpAnyW P md ops Q S n (F + left2 false false) (L false false) a w := fun a w h =>
    any_list [za, zb] (hr false false rfl) (by simp) (fun i hi => by
      have hi2 : i = za ∨ i = zb := by simpa using hi
      rcases hi2 with rfl | rfl
      · exact ⟨oa, ha0, wanted_none ga, fun K hK => ha false a w K h (fun a' w' h1 h2 => hK a' w' h1 (by rw [la]; exact tf a' w' h2))⟩
      · exact ⟨ob, hb0, wanted_none gb, fun K hK => hb false a w K h (fun a' w' h1 h2 => hK a' w' h1 (by rw [lb]; exact ft a' w' h2))⟩)
  intro b1 b2 a w h
  cases b1 <;> cases b2
  · exact ff a w h
  · exact ft a w h
  · exact tf a w h
  · exact fin a w h
theorem thru {F : Nat} (L L4 : Bool → Bool → Array Bool) (J' J : Bool → Bool → Act → World → Prop) (lst : ∀ b1 b2 a w, J b1 b2 a w → wpAnyW P md ops Q S n (F + left2 b1 b2) (L4 b1 b2) a w)
    (tk : ∀ b1 b2 a w, J' b1 b2 a w → (∀ a', J b1 b2 a' w → wpAnyW P md ops Q S n (F + left2 b1 b2) (L4 b1 b2) a' w) → wpAnyW P md ops Q S n (F + left2 b1 b2 + 3) (L b1 b2) a w) :
    ∀ b1 b2 a w, J' b1 b2 a w → wpAnyW P md ops Q S n (F + left2 b1 b2 + 3) (L b1 b2) a w := fun b1 b2 a w h => tk b1 b2 a w h (fun a' h' => lst b1 b2 a' w h')
end
end Go.Proofs.Ytckhfpaicnjknaa.PhaseIn
