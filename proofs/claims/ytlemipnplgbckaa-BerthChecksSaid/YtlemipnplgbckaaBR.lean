import Derived.Test.YtlemipnplgbckaaBQ
import Derived.Laws.AppendOwn
import Derived.ChangeKeysEq
import Derived.Maps.RangeWalk
import Derived.Maps.OwnIn
import Derived.Maps.AppendAt
import Derived.RangeFuncNested
import Derived.RangeFuncBound
import Derived.RangeFuncCalls
import Derived.RangeFuncLeaves
import Derived.Shelf.Abstract
import Derived.Shelf.RegionOpen
import Derived.WalkKit
import Derived.WalkMore
import Derived.OwnWalkIn
import Derived.TacticsInMore
import Derived.LoopNIn
import Derived.LoopIn
import Derived.WalkSpells
import Derived.WalkLawsBesides
import Derived.BigQuiet
import Derived.Deep.QuietTactic
import Derived.Lib.Hide
import Derived.Deep.RegionHeld3
import Derived.StillTailTactics
import Derived.Deep.LoopGhost
import Derived.Maps.OwnSet
import Derived.Lib.IndexAny
import Derived.Sort.QuietThIn
import Derived.Sort.QuietTacIn
import Derived.Sort.BigQuietIn
import Derived.Laws.OwnMore
import Derived.DeepKeys4
import Derived.Maps.Views
import Derived.Maps.OwnOps
import Derived.Laws.OwnMore
import Derived.Deep.DeepCutAuto
import Derived.ChangeKeysEq
namespace Go.Proofs.Ytlemipnplgbckaa
open Go.RowKit Go.Shelf
attribute [local go_sem] Oper.semAt_some
section
variable {F : Fence} {n : Nat} {P : Program} {Q : Exit → Act → World → Prop}
/-- what an invariant gives of a region whose order is open -/
theorem wpAnyIn_inv {l : List Oper} (hd : waitsB l = true) (I : List Bool → Act → World → Prop)
    (hstep : ∀ (i : Nat) (o : Oper) (bs : List Bool) (a : Act) (w : World), l[i]? = some o → I bs a w → bs.length = l.length → bs[i]? = some false → (∀ e ∈ o.after, Region.binds .any e = true → bs.getD e.on false = true) →
      wpOpIn F n P l.toArray Q i (fun a' w' => I (bs.set i true) a' w') a w)
    (hend : ∀ a w, I (List.replicate l.length true) a w → Q .normal a w) : ∀ (fuel : Nat) (bs : List Bool) (a : Act) (w : World), bs.length = l.length → (bs.filter (! ·)).length ≤ fuel → I bs a w → wpAnyIn F n P .any l.toArray Q fuel bs.toArray a w := by
  intro fuel
  induction fuel with
  | zero =>
    intro bs a w hl hf hI
    have hall : bs = List.replicate l.length true := by
      rw [List.eq_replicate_iff]
      refine ⟨hl, fun b hb => ?_⟩
      cases b with
      | true => rfl
      | false =>
        have : false ∈ bs.filter (! ·) := List.mem_filter.2 ⟨hb, rfl⟩
        have := List.length_pos_of_mem this; omega
    subst hall
    refine ⟨?_, hend a w hI⟩
    cases hr : Region.ready .any l.toArray (List.replicate l.length true).toArray with
    | nil => rfl
    | cons j js =>
      have hj : j ∈ Region.ready .any l.toArray (List.replicate l.length true).toArray := by rw [hr]; exact List.mem_cons_self
      obtain ⟨h1, o, h2, _⟩ := mem_ready.1 hj
      have hlt : j < l.length := by have := (List.getElem?_eq_some_iff.1 (by simpa using h2 : l[j]? = some o)).1; exact this
      simp [Array.getD, hlt] at h1
  | succ fuel ih =>
    intro bs a w hl hf hI
    have hset : ∀ (i : Nat), (bs.toArray.setIfInBounds i true) = (bs.set i true).toArray := fun i => by simp
    by_cases hall : bs = List.replicate l.length true
    · subst hall
      refine ⟨fun _ => hend a w hI, fun j hj => ?_⟩
      obtain ⟨h1, o, h2, _⟩ := mem_ready.1 hj
      have hlt : j < l.length := by have := (List.getElem?_eq_some_iff.1 (by simpa using h2 : l[j]? = some o)).1; exact this
      simp [Array.getD, hlt] at h1
    · refine ⟨fun hr => ?_, fun j hj => ?_⟩
      · exfalso
        have hex : ∃ b ∈ bs, (!b) = true := by
          false_or_by_contra
          rename_i hno
          refine hall (List.eq_replicate_iff.2 ⟨hl, fun b hb => ?_⟩)
          cases b with
          | true => rfl
          | false => exact absurd ⟨false, hb, rfl⟩ hno
        have hlt : bs.findIdx (! ·) < bs.length := List.findIdx_lt_length.2 hex
        have hf0 : bs[bs.findIdx (! ·)] = false := by have := List.findIdx_getElem (w := hlt); simpa using this
        have hlt2 : bs.findIdx (! ·) < l.length := by omega
        have hmem : bs.findIdx (! ·) ∈ Region.ready .any l.toArray bs.toArray := by
          refine mem_ready.2 ⟨by simp [Array.getD, hlt, hf0], l[bs.findIdx (! ·)], by simp [hlt2], fun e he _ => ?_⟩
          unfold waitsB at hd
          rw [List.all_eq_true] at hd
          have h1 := hd _ (List.mem_range.2 hlt2)
          rw [List.getElem?_eq_getElem hlt2] at h1
          simp only [Option.map_some, Option.getD_some] at h1
          have h2 := (Array.all_eq_true'.1 h1) e he
          have h3 := of_decide_eq_true h2
          have h4 : e.on < bs.length := by omega
          have h5 := List.not_of_lt_findIdx h3
          simp [Array.getD, h4]
          simpa using h5
        rw [hr] at hmem; cases hmem
      · obtain ⟨h1, o, h2, h3⟩ := mem_ready.1 hj
        have h2' : l[j]? = some o := by simpa using h2
        have hlt : j < l.length := (List.getElem?_eq_some_iff.1 h2').1
        have hb : bs[j]? = some false := by
          rw [List.getElem?_eq_getElem (by omega)]
          simp [Array.getD, show j < bs.length by omega] at h1
          rw [h1]
        refine wpOpIn_mono (fun a' w' h => ?_) (hstep j o bs a w h2' hI hl hb (fun e he hb => by have := h3 e he hb; rw [List.getD_eq_getElem?_getD]; simp only [Array.getD, List.size_toArray] at this; split at this <;> simp_all))
        rw [hset]
        have := filter_set bs j hb
        exact ih _ _ _ (by simpa using hl) (by omega) h
/-- each operation of a region puts a value of its kind -/
def relStepsIn (F : Fence) (n : Nat) (P : Program) (Q : Exit → Act → World → Prop) (ops : Array Oper) (a : Act) (slots : List Nat) (R : List (Value → World → Prop)) (w₀ : World) (len : Nat) : List Oper → Nat → Prop
  | [], _ => True
  | o :: rest, i => (∀ (vs : List Value) (w : World) (K : Act → World → Prop), Below w₀.heap.size w₀ w → vs.length = len → (∀ e ∈ o.after, Region.binds .any e = true → ∃ v, vs[e.on]? = some v ∧ (R.getD e.on (fun _ _ => True)) v w) →
      (∀ v' w', Below w.heap.size w w' → (R.getD i (fun _ _ => True)) v' w' → K (putAll a slots (vs.set i v')) w') → wpListIn F n P ops (Exit.then K Q) [o] (putAll a slots vs) w) ∧ relStepsIn F n P Q ops a slots R w₀ len rest (i + 1)
theorem relStepsIn_get {ops : Array Oper} {a : Act} {slots : List Nat} {R : List (Value → World → Prop)} {w₀ : World} {len : Nat} : ∀ {l : List Oper} {k i : Nat} {o : Oper}, relStepsIn F n P Q ops a slots R w₀ len l k → l[i]? = some o →
    ∀ (vs : List Value) (w : World) (K : Act → World → Prop), Below w₀.heap.size w₀ w → vs.length = len → (∀ e ∈ o.after, Region.binds .any e = true → ∃ v, vs[e.on]? = some v ∧ (R.getD e.on (fun _ _ => True)) v w) →
      (∀ v' w', Below w.heap.size w w' → (R.getD (k + i) (fun _ _ => True)) v' w' → K (putAll a slots (vs.set (k + i) v')) w') → wpListIn F n P ops (Exit.then K Q) [o] (putAll a slots vs) w
  | [], _, _, _, _, h => by simp at h
  | o :: rest, k, 0, o', hd, h => by
    simp at h; subst h
    exact hd.1
  | o :: rest, k, i + 1, o', hd, h => by
    have := relStepsIn_get (l := rest) (k := k + 1) (i := i) hd.2 (by simpa using h)
    rw [show k + 1 + i = k + (i + 1) by omega] at this
    exact this
/-- **a region whose first m operations put values of their kinds in any order, and the rest comes behind them, one after the other** -/
theorem wpIn_region_relcut {id : Nat} {a : Act} {w : World} {l : List Oper} (m : Nat) (hpm : P.follows .mixedOrders = true)
    (hck : (decide (m < l.length) && (noGuardB l && (waitsB l && (feedsB l m && (chainB l m && waitsB (l.take m)))))) = true) (slots : List Nat) (R : List (Value → World → Prop))
    (hstab : ∀ r ∈ R, ∀ (v : Value) (W W' : World), r v W → Below W.heap.size W W' → r v W')
    (h0 : ∃ vs, a = putAll a slots vs ∧ vs.length = m)
    (hsteps : ∀ Q', relStepsIn F n P Q' (l.take m).toArray a slots R w m (l.take m) 0)
    (hend : ∀ vs W, Below w.heap.size w W → vs.length = m → (∀ i, i < m → ∃ v, vs[i]? = some v ∧ (R.getD i (fun _ _ => True)) v W) → wpListIn F n P l.toArray Q (l.drop m) (putAll a slots vs) W) : (Code.region id l.toArray true).wpIn F n P Q a w := by
  simp only [Bool.and_eq_true, decide_eq_true_eq] at hck
  obtain ⟨hm, hg, hd, hf, hc, hd2⟩ := hck
  obtain ⟨vs0, e0, el0⟩ := h0
  have hlen : (l.take m).length = m := by rw [List.length_take]; omega
  have hst : ∀ i v W W', (R.getD i (fun _ _ => True)) v W → Below W.heap.size W W' → (R.getD i (fun _ _ => True)) v W' := fun i v W W' h hb => by
    by_cases hi : i < R.length
    · rw [List.getD_eq_getElem?_getD, List.getElem?_eq_getElem hi] at h ⊢
      exact hstab _ (List.getElem_mem hi) v W W' h hb
    · rw [List.getD_eq_getElem?_getD, List.getElem?_eq_none (by omega)] at h ⊢
      exact trivial
  refine wpIn_region_any hpm ?_
  have h2 := wpAnyIn_inv (F := F) (n := n) (P := P) (Q := Exit.then (wpOpsIn F n P l.toArray Q (List.range' m (l.length - m))) Q) hd2
    (fun bs a' W => ∃ vs, a' = putAll a slots vs ∧ Below w.heap.size w W ∧ vs.length = m ∧ ∀ i : Nat, bs[i]? = some true → ∃ v, vs[i]? = some v ∧ (R.getD i (fun _ _ => True)) v W) ?_ ?_ m (List.replicate m false) a w.drew (by simp [hlen]) (by simp) ⟨vs0, e0, (Below.refl _ _).drew, el0, fun i hi => ?_⟩
  · have h3 := wpAnyIn_cut m hm hg hd hf hc m (List.replicate m false) a w.drew (by simp) (by simp) (fun i o _ hi => by
      exfalso
      rw [List.getD_eq_getElem?_getD] at hi
      by_cases h : i < m <;> simp [h] at hi) h2
    have e3 : m + (l.length - m) = l.length := by omega
    have e4 : (List.replicate m false ++ List.replicate (l.length - m) false) = List.replicate l.length false := by rw [List.replicate_append_replicate, e3]
    rw [e3, e4] at h3
    simpa using h3
  · rintro i o bs a' W ho ⟨vs, rfl, hcb, hl, hv⟩ hbl hb hw
    refine wpOpIn_of_list (by simpa using ho) ?_
    refine relStepsIn_get (hsteps _) ho vs W _ hcb hl (fun e he hbe => ?_) (fun v' w' hbb hr => ⟨_, rfl, Below.andThen hcb hbb (Nat.le_refl _), by rw [List.length_set]; exact hl, fun j hj => ?_⟩)
    · have h := hw e he hbe
      rw [List.getD_eq_getElem?_getD] at h
      refine hv _ ?_
      cases h2 : bs[e.on]? with
      | none => rw [h2] at h; simp at h
      | some b => rw [h2] at h; simp at h; rw [h]
    · by_cases hij : i = j
      · subst hij
        have hlt : i < (l.take m).length := (List.getElem?_eq_some_iff.1 ho).1
        refine ⟨v', ?_, by simpa using hr⟩
        rw [Nat.zero_add, List.getElem?_set_self (by omega)]
      · rw [List.getElem?_set_ne hij] at hj
        obtain ⟨v, h1, h2⟩ := hv j hj
        exact ⟨v, by rw [Nat.zero_add, List.getElem?_set_ne hij]; exact h1, hst _ _ _ _ h2 hbb⟩
  · rintro a' W ⟨vs, rfl, hcb, hl, hv⟩
    show wpOpsIn F n P l.toArray Q (List.range' m (l.length - m)) (putAll a slots vs) W
    have e := wpOpsIn_eq_wpListIn (F := F) (n := n) (P := P) (Q := Q) (ops := l.toArray) (l.drop m) m (fun j => by simp)
    rw [List.length_drop] at e
    rw [e]
    exact hend vs W hcb hl (fun i hi => hv i (by rw [List.getElem?_replicate, if_pos (by omega)]))
  · rw [List.getElem?_replicate] at hi
    split at hi <;> simp at hi
end
end Go.Proofs.Ytlemipnplgbckaa
