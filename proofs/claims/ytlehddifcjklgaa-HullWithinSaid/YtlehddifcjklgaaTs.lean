import Derived.Test.YtlehddifcjklgaaMB
import Derived.Maps.OwnIn
import Derived.Maps.OwnSet
import Derived.Maps.AppendAt
import Derived.RangeFuncNested
import Derived.RangeFuncBound
import Derived.RangeFuncCalls
import Derived.RangeFuncLeaves
import Derived.Shelf.Abstract
import Derived.Shelf.RegionOpen
import Derived.WalkKit
import Derived.OwnWalkIn
import Derived.TacticsInMore
import Derived.LoopNIn
import Derived.LoopIn
import Derived.WalkMore
import Derived.Sort.QuietThIn
import Derived.Sort.QuietTacIn
import Derived.Sort.BigQuietIn
import Derived.WalkSpells
import Derived.WalkLawsBesides
import Derived.BigQuiet
import Derived.Deep.QuietTactic
import Derived.Lib.Hide
import Derived.Deep.RegionHeld3
import Derived.StillTailTactics
import Derived.Deep.LoopGhost
import Derived.Lib.IndexAny
namespace Go.Proofs.Ytlehddifcjklgaa
open Go.RowKit Go.Shelf
attribute [local go_sem] Oper.semAt_some
section
variable {P : Program} {Q : Exit → Act → World → Prop}
/-- what has come up holds with what it waits for -/
def closedB (l : List Oper) (bs : List Bool) : Prop := ∀ (j : Nat) (o : Oper), l[j]? = some o → bs[j]? = some true → ∀ e ∈ o.after, Region.binds .any e = true → bs[e.on]? = some true
/-- each operation puts one value, and the world is told by what has come up -/
def stSteps (P : Program) (Q : Exit → Act → World → Prop) (l : List Oper) (a : Act) (slots : List Nat) (val : List Value) (wf : List Bool → World) (len : Nat) : List Oper → Nat → Prop
  | [], _ => True
  | o :: rest, i => (∀ (vs : List Value) (bs : List Bool) (K : Act → World → Prop), vs.length = len → bs.length = len → closedB l bs → bs[i]? = some false → (∀ e ∈ o.after, Region.binds .any e = true → bs[e.on]? = some true ∧ vs[e.on]? = val[e.on]?) →
      K (putAll a slots (vs.set i (val.getD i undef))) (wf (bs.set i true)) → wpList P l.toArray (Exit.then K Q) [o] (putAll a slots vs) (wf bs)) ∧ stSteps P Q l a slots val wf len rest (i + 1)
theorem stSteps_get {l0 : List Oper} {a : Act} {slots : List Nat} {val : List Value} {wf : List Bool → World} {len : Nat} : ∀ {l : List Oper} {k i : Nat} {o : Oper}, stSteps P Q l0 a slots val wf len l k → l[i]? = some o →
    ∀ (vs : List Value) (bs : List Bool) (K : Act → World → Prop), vs.length = len → bs.length = len → closedB l0 bs → bs[k + i]? = some false → (∀ e ∈ o.after, Region.binds .any e = true → bs[e.on]? = some true ∧ vs[e.on]? = val[e.on]?) →
      K (putAll a slots (vs.set (k + i) (val.getD (k + i) undef))) (wf (bs.set (k + i) true)) → wpList P l0.toArray (Exit.then K Q) [o] (putAll a slots vs) (wf bs)
  | [], _, _, _, _, h => by simp at h
  | o :: rest, k, 0, o', hd, h => by
    simp at h; subst h
    exact hd.1
  | o :: rest, k, i + 1, o', hd, h => by
    have := stSteps_get (l := rest) (k := k + 1) (i := i) hd.2 (by simpa using h)
    rw [show k + 1 + i = k + (i + 1) by omega] at this
    exact this
theorem wp_region_st {id : Nat} {a : Act} {w : World} {l : List Oper} (hm : P.follows .mixedOrders = true) (hd : waitsC l = true) (slots : List Nat) (val : List Value) (wf : List Bool → World) (len : Nat) (hlen : l.length = len) (hvl : val.length = len)
    (h0 : ∃ vs, a = putAll a slots vs ∧ vs.length = len) (hw0 : wf (List.replicate len false) = w.drew)
    (hsteps : stSteps P Q l a slots val wf len l 0)
    (hend : Q .normal (putAll a slots val) (wf (List.replicate len true))) : (Code.region id l.toArray true).wp P Q a w := by
  obtain ⟨vs0, e0, el0⟩ := h0
  refine wp_region_slots2 hm hd slots (fun (bs : List Bool) (vs : List Value) W => W = wf bs ∧ bs.length = len ∧ vs.length = len ∧ closedB l bs ∧ ∀ i : Nat, bs[i]? = some true → vs[i]? = val[i]?) ⟨vs0, e0, by rw [hlen]; exact hw0.symm, by rw [List.length_replicate]; exact hlen, el0, fun j o hj hb => ?_, fun i hi => ?_⟩ ?_ ?_
  · rw [List.getElem?_replicate] at hb
    split at hb <;> simp at hb
  · rw [List.getElem?_replicate] at hi
    split at hi <;> simp at hi
  · rintro i o bs vs W K ho ⟨rfl, hbl, hl, hcl, hv⟩ _ hb hw hK
    have hdep : ∀ e ∈ o.after, Region.binds .any e = true → bs[e.on]? = some true := fun e he hbe => by
      have h := hw e he hbe
      rw [List.getD_eq_getElem?_getD] at h
      cases h2 : bs[e.on]? with
      | none => rw [h2] at h; simp at h
      | some b => rw [h2] at h; simp at h; rw [h]
    have hi : i < len := by rw [← hlen]; exact (List.getElem?_eq_some_iff.1 ho).1
    refine wpOp_of_list (by simpa using ho) ?_
    refine stSteps_get hsteps ho vs bs K hl hbl hcl (by simpa using hb) (fun e he hbe => ⟨hdep e he hbe, hv _ (hdep e he hbe)⟩) ?_
    rw [Nat.zero_add]
    refine hK _ _ ⟨rfl, by rw [List.length_set]; exact hbl, by rw [List.length_set]; exact hl, fun j o' hj hbj e he hbe => ?_, fun j hj => ?_⟩
    · by_cases hij : i = j
      · subst hij
        rw [ho] at hj; cases hj
        have := hdep e he hbe
        by_cases hie : i = e.on
        · rw [← hie, List.getElem?_set_self (by omega)]
        · rw [List.getElem?_set_ne hie]; exact this
      · rw [List.getElem?_set_ne hij] at hbj
        have := hcl j o' hj hbj e he hbe
        by_cases hie : i = e.on
        · rw [← hie, List.getElem?_set_self (by omega)]
        · rw [List.getElem?_set_ne hie]; exact this
    · by_cases hij : i = j
      · subst hij
        rw [List.getElem?_set_self (by omega), List.getD_eq_getElem?_getD, List.getElem?_eq_getElem (by omega)]; rfl
      · rw [List.getElem?_set_ne hij] at hj ⊢
        exact hv j hj
  · rintro vs W ⟨rfl, hbl, hl, hcl, hv⟩
    have : vs = val := by
      refine List.ext_getElem? fun i => ?_
      by_cases hi : i < len
      · exact hv i (by rw [List.getElem?_replicate, if_pos (by omega)])
      · rw [List.getElem?_eq_none (by omega), List.getElem?_eq_none (by omega)]
    subst this
    rw [hlen]
    exact hend
end
theorem st_get {vs val : List Value} {n : Nat} (h : vs[n]? = val[n]?) {x y : Value} (hx : vs[n]? = some x) (hy : val[n]? = some y) : x = y := by
  rw [hx, hy] at h; cases h; rfl
/-- a world that changes with the operations 15 and 17 -/
def swapW (W0 W1 W2 : World) (bs : List Bool) : World := if bs[17]? = some true then W2 else if bs[15]? = some true then W1 else W0
theorem swapW_pure {W0 W1 W2 : World} {bs : List Bool} {i : Nat} (h1 : i ≠ 15) (h2 : i ≠ 17) : swapW W0 W1 W2 (bs.set i true) = swapW W0 W1 W2 bs := by
  unfold swapW; rw [List.getElem?_set_ne h1, List.getElem?_set_ne h2]
theorem swapW_0 {W0 W1 W2 : World} {bs : List Bool} (h1 : bs[15]? ≠ some true) (h2 : bs[17]? ≠ some true) : swapW W0 W1 W2 bs = W0 := by
  unfold swapW; rw [if_neg h2, if_neg h1]
theorem swapW_1 {W0 W1 W2 : World} {bs : List Bool} (h1 : bs[15]? = some true) (h2 : bs[17]? ≠ some true) : swapW W0 W1 W2 bs = W1 := by
  unfold swapW; rw [if_neg h2, if_pos h1]
theorem swapW_2 {W0 W1 W2 : World} {bs : List Bool} (h2 : bs[17]? = some true) : swapW W0 W1 W2 bs = W2 := by
  unfold swapW; rw [if_pos h2]
end Go.Proofs.Ytlehddifcjklgaa
