import Derived.Test.YtlehddifcjklgaaMB
import Derived.Maps.OwnIn
import Derived.Maps.OwnSet
import Derived.Maps.AppendAt
import Derived.RangeFuncNested
import Derived.RangeFuncBound
import Derived.RangeFuncCalls
import Derived.RangeFuncLeaves
import Derived.Shelf.Abstract
import Derived.Shelf.RegionOpen
import Derived.WalkKit
import Derived.OwnWalkIn
import Derived.TacticsInMore
import Derived.LoopNIn
import Derived.LoopIn
import Derived.WalkMore
import Derived.Sort.QuietThIn
import Derived.Sort.QuietTacIn
import Derived.Sort.BigQuietIn
import Derived.WalkSpells
import Derived.WalkLawsBesides
import Derived.BigQuiet
import Derived.Deep.QuietTactic
import Derived.Lib.Hide
import Derived.Deep.RegionHeld3
import Derived.StillTailTactics
import Derived.Deep.LoopGhost
import Derived.Lib.IndexAny
namespace Go.Proofs.Ytlehddifcjklgaa
open Go.RowKit Go.Shelf
attribute [local go_sem] Oper.semAt_some
section
variable {P : Program} {Q : Exit → Act → World → Prop}
/-- each operation of a region puts a value of its kind, whatever has come up besides what it waits for -/
def relSteps (P : Program) (Q : Exit → Act → World → Prop) (ops : Array Oper) (a : Act) (slots : List Nat) (R : List (Value → World → Prop)) (w₀ : World) (len : Nat) : List Oper → Nat → Prop
  | [], _ => True
  | o :: rest, i => (∀ (vs : List Value) (w : World) (K : Act → World → Prop), Below w₀.heap.size w₀ w → vs.length = len → (∀ e ∈ o.after, Region.binds .any e = true → ∃ v, vs[e.on]? = some v ∧ (R.getD e.on (fun _ _ => True)) v w) →
      (∀ v' w', Below w.heap.size w w' → (R.getD i (fun _ _ => True)) v' w' → K (putAll a slots (vs.set i v')) w') → wpList P ops (Exit.then K Q) [o] (putAll a slots vs) w) ∧ relSteps P Q ops a slots R w₀ len rest (i + 1)
theorem relSteps_get {ops : Array Oper} {a : Act} {slots : List Nat} {R : List (Value → World → Prop)} {w₀ : World} {len : Nat} : ∀ {l : List Oper} {k i : Nat} {o : Oper}, relSteps P Q ops a slots R w₀ len l k → l[i]? = some o →
    ∀ (vs : List Value) (w : World) (K : Act → World → Prop), Below w₀.heap.size w₀ w → vs.length = len → (∀ e ∈ o.after, Region.binds .any e = true → ∃ v, vs[e.on]? = some v ∧ (R.getD e.on (fun _ _ => True)) v w) →
      (∀ v' w', Below w.heap.size w w' → (R.getD (k + i) (fun _ _ => True)) v' w' → K (putAll a slots (vs.set (k + i) v')) w') → wpList P ops (Exit.then K Q) [o] (putAll a slots vs) w
  | [], _, _, _, _, h => by simp at h
  | o :: rest, k, 0, o', hd, h => by
    simp at h; subst h
    exact hd.1
  | o :: rest, k, i + 1, o', hd, h => by
    have := relSteps_get (l := rest) (k := k + 1) (i := i) hd.2 (by simpa using h)
    rw [show k + 1 + i = k + (i + 1) by omega] at this
    exact this
theorem wp_region_rel {id : Nat} {a : Act} {w : World} {l : List Oper} (hm : P.follows .mixedOrders = true) (hd : waitsB l = true) (slots : List Nat) (R : List (Value → World → Prop)) (len : Nat) (hlen : l.length = len)
    (hstab : ∀ r ∈ R, ∀ (v : Value) (W W' : World), r v W → Below W.heap.size W W' → r v W')
    (h0 : ∃ vs, a = putAll a slots vs ∧ vs.length = len)
    (hsteps : relSteps P Q l.toArray a slots R w len l 0)
    (hend : ∀ vs W, Below w.heap.size w W → vs.length = len → (∀ i, i < len → ∃ v, vs[i]? = some v ∧ (R.getD i (fun _ _ => True)) v W) → Q .normal (putAll a slots vs) W) : (Code.region id l.toArray true).wp P Q a w := by
  obtain ⟨vs0, e0, el0⟩ := h0
  have hst : ∀ i v W W', (R.getD i (fun _ _ => True)) v W → Below W.heap.size W W' → (R.getD i (fun _ _ => True)) v W' := fun i v W W' h hb => by
    by_cases hi : i < R.length
    · rw [List.getD_eq_getElem?_getD, List.getElem?_eq_getElem hi] at h ⊢
      exact hstab _ (List.getElem_mem hi) v W W' h hb
    · rw [List.getD_eq_getElem?_getD, List.getElem?_eq_none (by omega)] at h ⊢
      exact trivial
  refine wp_region_slots hm hd slots (fun (bs : List Bool) (vs : List Value) W => Below w.heap.size w W ∧ vs.length = len ∧ ∀ i : Nat, bs[i]? = some true → ∃ v, vs[i]? = some v ∧ (R.getD i (fun _ _ => True)) v W) ⟨vs0, e0, (Below.refl _ _).drew, el0, fun i hi => ?_⟩ ?_ ?_
  · rw [List.getElem?_replicate] at hi
    split at hi <;> simp at hi
  · rintro i o bs vs W K ho ⟨hc, hl, hv⟩ hbl hb hw hK
    refine wpOp_of_list (by simpa using ho) ?_
    refine relSteps_get hsteps ho vs W K hc hl (fun e he hbe => ?_) (fun v' W' hbb hr => hK _ _ ⟨Below.andThen hc hbb (Nat.le_refl _), by rw [List.length_set]; exact hl, fun j hj => ?_⟩)
    · have h := hw e he hbe
      rw [List.getD_eq_getElem?_getD] at h
      refine hv _ ?_
      cases h2 : bs[e.on]? with
      | none => rw [h2] at h; simp at h
      | some b => rw [h2] at h; simp at h; rw [h]
    · by_cases hij : i = j
      · subst hij
        have hlt : i < l.length := (List.getElem?_eq_some_iff.1 ho).1
        refine ⟨v', ?_, by simpa using hr⟩
        rw [Nat.zero_add, List.getElem?_set_self (by omega)]
      · rw [List.getElem?_set_ne hij] at hj
        obtain ⟨v, h1, h2⟩ := hv j hj
        exact ⟨v, by rw [Nat.zero_add, List.getElem?_set_ne hij]; exact h1, hst _ _ _ _ h2 hbb⟩
  · rintro vs W ⟨hc, hl, hv⟩
    exact hend vs W hc hl (fun i hi => hv i (by rw [List.getElem?_replicate, if_pos (by omega)]))
end
theorem len_cons {vs : List Value} {n : Nat} (h : vs.length = n + 1) : ∃ x r, vs = x :: r ∧ r.length = n := by
  cases vs with
  | nil => simp at h
  | cons x r => exact ⟨x, r, rfl, by simpa using h⟩
def LitR (x : Value) : Value → World → Prop := fun v _ => v = x
theorem LitR.stab (x : Value) : ∀ (v : Value) (W W' : World), LitR x v W → Below W.heap.size W W' → LitR x v W' := fun _ _ _ h _ => h
theorem rel_get {vs : List Value} {n : Nat} {R : Value → World → Prop} {W : World} (h : ∃ v, vs[n]? = some v ∧ R v W) {x : Value} (hx : vs[n]? = some x) : R x W := by
  obtain ⟨v, h1, h2⟩ := h
  rw [hx] at h1
  cases h1
  exact h2
end Go.Proofs.Ytlehddifcjklgaa
