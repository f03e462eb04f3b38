import Derived.Test.YtlehddifcjklgaaMB
import Derived.Maps.OwnIn
import Derived.Maps.OwnSet
import Derived.Maps.AppendAt
import Derived.RangeFuncNested
import Derived.RangeFuncBound
import Derived.RangeFuncCalls
import Derived.RangeFuncLeaves
import Derived.Shelf.Abstract
import Derived.Shelf.RegionOpen
import Derived.WalkKit
import Derived.OwnWalkIn
import Derived.TacticsInMore
import Derived.LoopNIn
import Derived.LoopIn
import Derived.Sort.QuietThIn
import Derived.Sort.QuietTacIn
import Derived.Sort.BigQuietIn
import Derived.WalkSpells
import Derived.WalkLawsBesides
import Derived.BigQuiet
import Derived.Deep.QuietTactic
import Derived.Lib.Hide
import Derived.Deep.RegionHeld3
import Derived.StillTailTactics
import Derived.Deep.LoopGhost
import Derived.Lib.IndexAny
namespace Go.Proofs.Ytlehddifcjklgaa
open Go.RowKit Go.Shelf
attribute [local go_sem] Oper.semAt_some
section
variable {F : Fence} {n : Nat} {P : Program} {Q : Exit → Act → World → Prop}
/-- a region whose order is open and whose operations each put one value, whatever has come up besides what they wait for -/
theorem wpIn_region_det {id : Nat} {a : Act} {w : World} {l : List Oper} (hm : P.follows .mixedOrders = true) (hd : waitsB l = true) (slots : List Nat) (val : List Value) (C : World → Prop) (hvl : val.length = l.length)
    (h0 : ∃ vs, a = putAll a slots vs ∧ vs.length = l.length) (hC : C w.drew)
    (hstep : ∀ (i : Nat) (o : Oper) (vs : List Value) (w : World) (K : Act → World → Prop), l[i]? = some o → C w → vs.length = l.length → (∀ e ∈ o.after, Region.binds .any e = true → vs[e.on]? = val[e.on]?) →
      (∀ w', C w' → K (putAll a slots (vs.set i (val.getD i undef))) w') → wpOpIn F n P l.toArray Q i K (putAll a slots vs) w)
    (hend : ∀ w, C w → Q .normal (putAll a slots val) w) : (Code.region id l.toArray true).wpIn F n P Q a w := by
  obtain ⟨vs0, e0, el0⟩ := h0
  refine wpIn_region_slots hm hd slots (fun (bs : List Bool) (vs : List Value) w => C w ∧ vs.length = l.length ∧ ∀ i : Nat, bs[i]? = some true → vs[i]? = val[i]?) ⟨vs0, e0, hC, el0, fun i hi => ?_⟩ ?_ ?_
  · rw [List.getElem?_replicate] at hi
    split at hi <;> simp at hi
  · rintro i o bs vs w K ho ⟨hc, hl, hv⟩ hbl hb hw hK
    refine hstep i o vs w K ho hc hl (fun e he hbe => ?_) (fun w' hc' => hK _ _ ⟨hc', by rw [List.length_set]; exact hl, fun j hj => ?_⟩)
    · have h := hw e he hbe
      rw [List.getD_eq_getElem?_getD] at h
      refine hv _ ?_
      cases h2 : bs[e.on]? with
      | none => rw [h2] at h; simp at h
      | some b => rw [h2] at h; simp at h; rw [h]
    · by_cases hij : i = j
      · subst hij
        have hlt : i < l.length := (List.getElem?_eq_some_iff.1 ho).1
        rw [List.getElem?_set_self (by omega), List.getD_eq_getElem?_getD, List.getElem?_eq_getElem (by omega)]; rfl
      · rw [List.getElem?_set_ne hij] at hj ⊢
        exact hv j hj
  · rintro vs w ⟨hc, hl, hv⟩
    have : vs = val := by
      refine List.ext_getElem? fun i => ?_
      by_cases hi : i < l.length
      · exact hv i (by rw [List.getElem?_replicate, if_pos hi])
      · rw [List.getElem?_eq_none (by omega), List.getElem?_eq_none (by omega)]
    subst this
    exact hend w hc
end
section
variable {F : Fence} {n : Nat} {P : Program} {Q : Exit → Act → World → Prop}
/-- each operation of a region puts its value, whatever has come up besides what it waits for -/
def detSteps (F : Fence) (n : Nat) (P : Program) (Q : Exit → Act → World → Prop) (ops : Array Oper) (a : Act) (slots : List Nat) (val : List Value) (C : World → Prop) (len : Nat) : List Oper → Nat → Prop
  | [], _ => True
  | o :: rest, i => (∀ (vs : List Value) (w : World) (K : Act → World → Prop), C w → vs.length = len → (∀ e ∈ o.after, Region.binds .any e = true → vs[e.on]? = val[e.on]?) →
      (∀ w', C w' → K (putAll a slots (vs.set i (val.getD i undef))) w') → wpListIn F n P ops (Exit.then K Q) [o] (putAll a slots vs) w) ∧ detSteps F n P Q ops a slots val C len rest (i + 1)
theorem detSteps_get {ops : Array Oper} {a : Act} {slots : List Nat} {val : List Value} {C : World → Prop} {len : Nat} : ∀ {l : List Oper} {k i : Nat} {o : Oper}, detSteps F n P Q ops a slots val C len l k → l[i]? = some o →
    ∀ (vs : List Value) (w : World) (K : Act → World → Prop), C w → vs.length = len → (∀ e ∈ o.after, Region.binds .any e = true → vs[e.on]? = val[e.on]?) →
      (∀ w', C w' → K (putAll a slots (vs.set (k + i) (val.getD (k + i) undef))) w') → wpListIn F n P ops (Exit.then K Q) [o] (putAll a slots vs) w
  | [], _, _, _, _, h => by simp at h
  | o :: rest, k, 0, o', hd, h => by
    simp at h; subst h
    exact hd.1
  | o :: rest, k, i + 1, o', hd, h => by
    have := detSteps_get (l := rest) (k := k + 1) (i := i) hd.2 (by simpa using h)
    rw [show k + 1 + i = k + (i + 1) by omega] at this
    exact this
theorem wpIn_region_det2 {id : Nat} {a : Act} {w : World} {l : List Oper} (hm : P.follows .mixedOrders = true) (hd : waitsB l = true) (slots : List Nat) (val : List Value) (C : World → Prop) (hvl : val.length = l.length)
    (h0 : ∃ vs, a = putAll a slots vs ∧ vs.length = l.length) (hC : C w.drew) (len : Nat) (hlen : l.length = len)
    (hsteps : detSteps F n P Q l.toArray a slots val C len l 0)
    (hend : ∀ w, C w → Q .normal (putAll a slots val) w) : (Code.region id l.toArray true).wpIn F n P Q a w := by
  refine wpIn_region_det hm hd slots val C hvl h0 hC ?_ hend
  intro i o vs w K ho hc hl hw hK
  refine wpOpIn_of_list (by simpa using ho) ?_
  have := detSteps_get hsteps ho vs w K hc (by omega) hw (by simpa using hK)
  exact this
end
end Go.Proofs.Ytlehddifcjklgaa
