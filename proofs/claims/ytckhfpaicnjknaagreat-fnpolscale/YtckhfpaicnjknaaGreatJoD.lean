/-
  A drawn region at which two operations may come up; a region cut off from what follows it.
-/
import Derived.Test.YtckhfpaicnjknaaGreatPhaseIn
namespace Go.Proofs.YtckhfpaicnjknaaGreat.PhaseIn
open Go
section
variable {P : Program} {ops : Array Oper} {Q : Exit → Act → World → Prop} {md : Region.Mode} {S : World → Prop} {n : Nat}
theorem two {i j : Nat} {oi oj : Oper} {fuel : Nat} {listed : Array Bool} {a : Act} {w : World} (hr : Region.ready md ops listed = [i, j]) (hi : ops[i]? = some oi) (hj : ops[j]? = some oj) (hwi : Region.wanted oi (yielded ops a.tmps) = true) (hwj : Region.wanted oj (yielded ops a.tmps) = true)
    (h1 : ∀ K : Act → World → Prop, (∀ a' w', (i < n → S w') → wpAnyW P md ops Q S n fuel (listed.setIfInBounds i true) a' w' → K a' w') → Oper.wpIn Fence.wide 0 P oi a w K Q)
    (h2 : ∀ K : Act → World → Prop, (∀ a' w', (j < n → S w') → wpAnyW P md ops Q S n fuel (listed.setIfInBounds j true) a' w' → K a' w') → Oper.wpIn Fence.wide 0 P oj a w K Q) : wpAnyW P md ops Q S n (fuel + 1) listed a w := by
  refine ⟨fun h0 => (by rw [hr] at h0; cases h0), fun k hk => ?_⟩
  rw [hr] at hk
  have hk2 : k = i ∨ k = j := by simpa using hk
  rcases hk2 with rfl | rfl
  · unfold wpOpIn
    simp only [hi]
    rw [if_pos hwi]
    exact h1 _ (fun a' w' h1 h2 => ⟨h1, h2⟩)
  · unfold wpOpIn
    simp only [hj]
    rw [if_pos hwj]
    exact h2 _ (fun a' w' h1 h2 => ⟨h1, h2⟩)
/-- Only what falls off its end, and then so. -/
def onlyN (R : Act → World → Prop) : Exit → Act → World → Prop
  | .normal, a, w => R a w
  | _, _, _ => False
theorem cut {c : Code} {a : Act} {w : World} (R : Act → World → Prop) (h : c.wpIn Fence.wide 0 P (onlyN R) a w) (hq : ∀ a' w', R a' w' → Q .normal a' w') : c.wp P Q a w := by
  refine (wpIn_wide (n := 0)).1 (wpIn_mono h fun e a' w' he => ?_)
  cases e <;> first | exact hq a' w' he | exact he.elim
end
end Go.Proofs.YtckhfpaicnjknaaGreat.PhaseIn
namespace Go.Proofs.YtckhfpaicnjknaaGreat.PhaseIn
open Go
section
variable {P : Program} {ops : Array Oper} {Q : Exit → Act → World → Prop} {md : Region.Mode} {S : World → Prop} {n : Nat}
theorem any_list {fuel : Nat} {listed : Array Bool} {a : Act} {w : World} (l : List Nat) (hr : Region.ready md ops listed = l) (hne : l ≠ [])
    (h : ∀ i ∈ l, ∃ o, ops[i]? = some o ∧ Region.wanted o (yielded ops a.tmps) = true ∧ ∀ K : Act → World → Prop, (∀ a' w', S w' → wpAnyW P md ops Q S n fuel (listed.setIfInBounds i true) a' w' → K a' w') → Oper.wpIn Fence.wide 0 P o a w K Q) : wpAnyW P md ops Q S n (fuel + 1) listed a w := by
  refine ⟨fun h0 => (hne (by rw [← hr]; exact h0)).elim, fun k hk => ?_⟩
  rw [hr] at hk
  obtain ⟨o, ho, hw, hh⟩ := h k hk
  unfold wpOpIn
  simp only [ho]
  rw [if_pos hw]
  exact hh _ (fun a' w' h1 h2 => ⟨fun _ => h1, h2⟩)
/-- How many of two are still to come. -/
def left2 (b1 b2 : Bool) : Nat := (if b1 then 0 else 1) + (if b2 then 0 else 1)
def free2 (za zb : Nat) (b1 b2 : Bool) : List Nat := (if b1 then [] else [za]) ++ (if b2 then [] else [zb])
theorem wanted_none {o : Oper} (h : o.guard = none) {y} : Region.wanted o y = true := by simp [Region.wanted, h]
theorem layer {F : Nat} (c za zb : Nat) (oc oa ob : Oper) (hc0 : ops[c]? = some oc) (ha0 : ops[za]? = some oa) (hb0 : ops[zb]? = some ob) (gc : oc.guard = none) (ga : oa.guard = none) (gb : ob.guard = none)
    (L : Bool → Bool → Array Bool) (I J : Bool → Bool → Act → World → Prop)
    (hr : ∀ b1 b2, Region.ready md ops (L b1 b2) = c :: free2 za zb b1 b2) (la : ∀ b2, (L false b2).setIfInBounds za true = L true b2) (lb : ∀ b1, (L b1 false).setIfInBounds zb true = L b1 true)
    (next : ∀ b1 b2 a w, J b1 b2 a w → wpAnyW P md ops Q S n (F + left2 b1 b2) ((L b1 b2).setIfInBounds c true) a w)
    (hc : ∀ b1 b2 a w (K : Act → World → Prop), I b1 b2 a w → (∀ a' w', S w' → J b1 b2 a' w' → K a' w') → Oper.wpIn Fence.wide 0 P oc a w K Q)
    (ha : ∀ b2 a w (K : Act → World → Prop), I false b2 a w → (∀ a' w', S w' → I true b2 a' w' → K a' w') → Oper.wpIn Fence.wide 0 P oa a w K Q)
    (hb : ∀ b1 a w (K : Act → World → Prop), I b1 false a w → (∀ a' w', S w' → I b1 true a' w' → K a' w') → Oper.wpIn Fence.wide 0 P ob a w K Q) :
    ∀ b1 b2 a w, I b1 b2 a w → wpAnyW P md ops Q S n (F + left2 b1 b2 + 1) (L b1 b2) a w := by
  have call (b1 b2 : Bool) (a : Act) (w : World) (h : I b1 b2 a w) : ∃ o, ops[c]? = some o ∧ Region.wanted o (yielded ops a.tmps) = true ∧ ∀ K : Act → World → Prop, (∀ a' w', S w' → wpAnyW P md ops Q S n (F + left2 b1 b2) ((L b1 b2).setIfInBounds c true) a' w' → K a' w') → Oper.wpIn Fence.wide 0 P o a w K Q :=
    ⟨oc, hc0, wanted_none gc, fun K hK => hc b1 b2 a w K h (fun a' w' h1 h2 => hK a' w' h1 (next b1 b2 a' w' h2))⟩
  have tt : ∀ a w, I true true a w → wpAnyW P md ops Q S n (F + left2 true true + 1) (L true true) a w := fun a w h =>
    any_list [c] (hr true true) (by simp) (fun i hi => by
      obtain rfl : i = c := by simpa using hi
      exact call true true a w h)
  have ft : ∀ a w, I false true a w → wpAnyW P md ops Q S n (F + left2 false true + 1) (L false true) a w := fun a w h =>
    any_list [c, za] (hr false true) (by simp) (fun i hi => by
      have hi2 : i = c ∨ i = za := by simpa using hi
      rcases hi2 with rfl | rfl
      · exact call false true a w h
      · exact ⟨oa, ha0, wanted_none ga, fun K hK => ha true a w K h (fun a' w' h1 h2 => hK a' w' h1 (by rw [la]; exact tt a' w' h2))⟩)
  have tf : ∀ a w, I true false a w → wpAnyW P md ops Q S n (F + left2 true false + 1) (L true false) a w := fun a w h =>
    any_list [c, zb] (hr true false) (by simp) (fun i hi => by
      have hi2 : i = c ∨ i = zb := by simpa using hi
      rcases hi2 with rfl | rfl
      · exact call true false a w h
      · exact ⟨ob, hb0, wanted_none gb, fun K hK => hb true a w K h (fun a' w' h1 h2 => hK a' w' h1 (by rw [lb]; exact tt a' w' h2))⟩)
  have ff : ∀ a w, I false false a w → wpAnyW P md ops Q S n (F + left2 false false + 1) (L false false) a w := fun a w h =>
    any_list [c, za, zb] (hr false false) (by simp) (fun i hi => by
      have hi2 : i = c ∨ i = za ∨ i = zb := by simpa using hi
      rcases hi2 with rfl | rfl | rfl
      · exact call false false a w h
      · exact ⟨oa, ha0, wanted_none ga, fun K hK => ha false a w K h (fun a' w' h1 h2 => hK a' w' h1 (by rw [la]; exact tf a' w' h2))⟩
      · exact ⟨ob, hb0, wanted_none gb, fun K hK => hb false a w K h (fun a' w' h1 h2 => hK a' w' h1 (by rw [lb]; exact ft a' w' h2))⟩)
  intro b1 b2 a w h
  cases b1 <;> cases b2
  · exact ff a w h
  · exact ft a w h
  · exact tf a w h
  · exact tt a w h
theorem last {F : Nat} (za zb : Nat) (oa ob : Oper) (ha0 : ops[za]? = some oa) (hb0 : ops[zb]? = some ob) (ga : oa.guard = none) (gb : ob.guard = none)
    (L : Bool → Bool → Array Bool) (I : Bool → Bool → Act → World → Prop)
    (hr : ∀ b1 b2, (b1 && b2) = false → Region.ready md ops (L b1 b2) = free2 za zb b1 b2) (la : ∀ b2, (L false b2).setIfInBounds za true = L true b2) (lb : ∀ b1, (L b1 false).setIfInBounds zb true = L b1 true)
    (ha : ∀ b2 a w (K : Act → World → Prop), I false b2 a w → (∀ a' w', S w' → I true b2 a' w' → K a' w') → Oper.wpIn Fence.wide 0 P oa a w K Q)
    (hb : ∀ b1 a w (K : Act → World → Prop), I b1 false a w → (∀ a' w', S w' → I b1 true a' w' → K a' w') → Oper.wpIn Fence.wide 0 P ob a w K Q)
    (fin : ∀ a w, I true true a w → wpAnyW P md ops Q S n F (L true true) a w) :
    ∀ b1 b2 a w, I b1 b2 a w → wpAnyW P md ops Q S n (F + left2 b1 b2) (L b1 b2) a w := by
  have ft : ∀ a w, I false true a w → wpAnyW P md ops Q S n (F + left2 false true) (L false true) a w := fun a w h =>
    any_list [za] (hr false true rfl) (by simp) (fun i hi => by
      obtain rfl : i = za := by simpa using hi
      exact ⟨oa, ha0, wanted_none ga, fun K hK => ha true a w K h (fun a' w' h1 h2 => hK a' w' h1 (by rw [la]; exact fin a' w' h2))⟩)
  have tf : ∀ a w, I true false a w → wpAnyW P md ops Q S n (F + left2 true false) (L true false) a w := fun a w h =>
    any_list [zb] (hr true false rfl) (by simp) (fun i hi => by
      obtain rfl : i = zb := by simpa using hi
      exact ⟨ob, hb0, wanted_none gb, fun K hK => hb true a w K h (fun a' w' h1 h2 => hK a' w' h1 (by rw [lb]; exact fin a' w' h2))⟩)
  have ff : ∀ a w, I false false a w → wpAnyW P md ops Q S n (F + left2 false false) (L false false) a w := fun a w h =>
    any_list [za, zb] (hr false false rfl) (by simp) (fun i hi => by
      have hi2 : i = za ∨ i = zb := by simpa using hi
      rcases hi2 with rfl | rfl
      · exact ⟨oa, ha0, wanted_none ga, fun K hK => ha false a w K h (fun a' w' h1 h2 => hK a' w' h1 (by rw [la]; exact tf a' w' h2))⟩
      · exact ⟨ob, hb0, wanted_none gb, fun K hK => hb false a w K h (fun a' w' h1 h2 => hK a' w' h1 (by rw [lb]; exact ft a' w' h2))⟩)
  intro b1 b2 a w h
  cases b1 <;> cases b2
  · exact ff a w h
  · exact ft a w h
  · exact tf a w h
  · exact fin a w h
theorem thru {F : Nat} (L L4 : Bool → Bool → Array Bool) (J' J : Bool → Bool → Act → World → Prop) (lst : ∀ b1 b2 a w, J b1 b2 a w → wpAnyW P md ops Q S n (F + left2 b1 b2) (L4 b1 b2) a w)
    (tk : ∀ b1 b2 a w, J' b1 b2 a w → (∀ a', J b1 b2 a' w → wpAnyW P md ops Q S n (F + left2 b1 b2) (L4 b1 b2) a' w) → wpAnyW P md ops Q S n (F + left2 b1 b2 + 3) (L b1 b2) a w) :
    ∀ b1 b2 a w, J' b1 b2 a w → wpAnyW P md ops Q S n (F + left2 b1 b2 + 3) (L b1 b2) a w := fun b1 b2 a w h => tk b1 b2 a w h (fun a' h' => lst b1 b2 a' w h')
end
end Go.Proofs.YtckhfpaicnjknaaGreat.PhaseIn
namespace Go.Proofs.YtckhfpaicnjknaaGreat.PhaseIn
open Go
section
variable {P : Program} {ops : Array Oper} {Q : Exit → Act → World → Prop} {md : Region.Mode} {S : World → Prop} {n : Nat}
def left1 (b : Bool) : Nat := if b then 0 else 1
def free1 (z : Nat) (b : Bool) : List Nat := if b then [] else [z]
theorem layer1 {F : Nat} (c z : Nat) (oc oz : Oper) (hc0 : ops[c]? = some oc) (hz0 : ops[z]? = some oz) (gc : oc.guard = none) (gz : oz.guard = none)
    (L : Bool → Array Bool) (I J : Bool → Act → World → Prop)
    (hr : ∀ b, Region.ready md ops (L b) = c :: free1 z b) (lz : (L false).setIfInBounds z true = L true)
    (next : ∀ b a w, J b a w → wpAnyW P md ops Q S n (F + left1 b) ((L b).setIfInBounds c true) a w)
    (hc : ∀ b a w (K : Act → World → Prop), I b a w → (∀ a' w', S w' → J b a' w' → K a' w') → Oper.wpIn Fence.wide 0 P oc a w K Q)
    (hz : ∀ a w (K : Act → World → Prop), I false a w → (∀ a' w', S w' → I true a' w' → K a' w') → Oper.wpIn Fence.wide 0 P oz a w K Q) :
    ∀ b a w, I b a w → wpAnyW P md ops Q S n (F + left1 b + 1) (L b) a w := by
  have call (b : Bool) (a : Act) (w : World) (h : I b a w) : ∃ o, ops[c]? = some o ∧ Region.wanted o (yielded ops a.tmps) = true ∧ ∀ K : Act → World → Prop, (∀ a' w', S w' → wpAnyW P md ops Q S n (F + left1 b) ((L b).setIfInBounds c true) a' w' → K a' w') → Oper.wpIn Fence.wide 0 P o a w K Q :=
    ⟨oc, hc0, wanted_none gc, fun K hK => hc b a w K h (fun a' w' h1 h2 => hK a' w' h1 (next b a' w' h2))⟩
  have t : ∀ a w, I true a w → wpAnyW P md ops Q S n (F + left1 true + 1) (L true) a w := fun a w h =>
    any_list [c] (hr true) (by simp) (fun i hi => by
      obtain rfl : i = c := by simpa using hi
      exact call true a w h)
  have f : ∀ a w, I false a w → wpAnyW P md ops Q S n (F + left1 false + 1) (L false) a w := fun a w h =>
    any_list [c, z] (hr false) (by simp) (fun i hi => by
      have hi2 : i = c ∨ i = z := by simpa using hi
      rcases hi2 with rfl | rfl
      · exact call false a w h
      · exact ⟨oz, hz0, wanted_none gz, fun K hK => hz a w K h (fun a' w' h1 h2 => hK a' w' h1 (by rw [lz]; exact t a' w' h2))⟩)
  intro b a w h
  cases b
  · exact f a w h
  · exact t a w h
theorem last1 {F : Nat} (z : Nat) (oz : Oper) (hz0 : ops[z]? = some oz) (gz : oz.guard = none)
    (L : Bool → Array Bool) (I : Bool → Act → World → Prop)
    (hr : Region.ready md ops (L false) = [z]) (lz : (L false).setIfInBounds z true = L true)
    (hz : ∀ a w (K : Act → World → Prop), I false a w → (∀ a' w', S w' → I true a' w' → K a' w') → Oper.wpIn Fence.wide 0 P oz a w K Q)
    (fin : ∀ a w, I true a w → wpAnyW P md ops Q S n F (L true) a w) :
    ∀ b a w, I b a w → wpAnyW P md ops Q S n (F + left1 b) (L b) a w := by
  have f : ∀ a w, I false a w → wpAnyW P md ops Q S n (F + left1 false) (L false) a w := fun a w h =>
    any_list [z] hr (by simp) (fun i hi => by
      obtain rfl : i = z := by simpa using hi
      exact ⟨oz, hz0, wanted_none gz, fun K hK => hz a w K h (fun a' w' h1 h2 => hK a' w' h1 (by rw [lz]; exact fin a' w' h2))⟩)
  intro b a w h
  cases b
  · exact f a w h
  · exact fin a w h
theorem thru1 {F : Nat} (L L4 : Bool → Array Bool) (J' J : Bool → Act → World → Prop) (lst : ∀ b a w, J b a w → wpAnyW P md ops Q S n (F + left1 b) (L4 b) a w)
    (tk : ∀ b a w, J' b a w → (∀ a', J b a' w → wpAnyW P md ops Q S n (F + left1 b) (L4 b) a' w) → wpAnyW P md ops Q S n (F + left1 b + 1) (L b) a w) :
    ∀ b a w, J' b a w → wpAnyW P md ops Q S n (F + left1 b + 1) (L b) a w := fun b a w h => tk b a w h (fun a' h' => lst b a' w h')
end
end Go.Proofs.YtckhfpaicnjknaaGreat.PhaseIn
