import Derived.Test.YtlehddifcjklgaaI
import Derived.Maps.OwnIn
import Derived.Maps.OwnSet
import Derived.Maps.AppendAt
import Derived.RangeFuncNested
import Derived.RangeFuncBound
import Derived.RangeFuncCalls
import Derived.RangeFuncLeaves
import Derived.Shelf.Abstract
import Derived.Shelf.RegionOpen
import Derived.WalkKit
import Derived.OwnWalkIn
import Derived.TacticsInMore
import Derived.LoopNIn
import Derived.LoopIn
import Derived.Sort.QuietThIn
import Derived.Sort.QuietTacIn
import Derived.Sort.BigQuietIn
import Derived.WalkSpells
import Derived.WalkLawsBesides
import Derived.BigQuiet
import Derived.Deep.QuietTactic
import Derived.Lib.Hide
import Derived.Deep.RegionHeld3
import Derived.StillTailTactics
import Derived.Deep.LoopGhost
import Derived.Lib.IndexAny
namespace Go.Proofs.Ytlehddifcjklgaa
open Go.RowKit Go.Shelf
attribute [local go_sem] Oper.semAt_some
/-- slots that have been written -/
def putAll (a : Act) : List Nat → List Value → Act
  | s :: ss, v :: vs => putAll (a.put (some s) v) ss vs
  | _, _ => a

section
variable {P : Program} {Q : Exit → Act → World → Prop}
theorem wpOp_of_list {ops : Array Oper} {i : Nat} {o : Oper} {K : Act → World → Prop} {a : Act} {w : World} (ho : ops[i]? = some o) (h : wpList P ops (Exit.then K Q) [o] a w) : wpOp P ops Q i K a w := by
  unfold wpOp
  simp only [ho]
  unfold wpList at h
  split
  · rename_i hw
    rw [if_pos hw] at h
    exact h.imp (fun h => upon_then h) (fun h => h)
  · rename_i hw
    rw [if_neg hw] at h; exact h
/-- a region whose order is open, by an invariant over what has come up -/
theorem wp_region_inv {id : Nat} {a : Act} {w : World} {l : List Oper} (hm : P.follows .mixedOrders = true) (hd : waitsB l = true) (I : List Bool → Act → World → Prop) (h0 : I (List.replicate l.length false) a w.drew)
    (hstep : ∀ (i : Nat) (o : Oper) (bs : List Bool) (a : Act) (w : World), l[i]? = some o → I bs a w → bs.length = l.length → bs[i]? = some false → (∀ e ∈ o.after, Region.binds .any e = true → bs.getD e.on false = true) →
      wpOp P l.toArray Q i (fun a' w' => I (bs.set i true) a' w') a w)
    (hend : ∀ a w, I (List.replicate l.length true) a w → Q .normal a w) : (Code.region id l.toArray true).wp P Q a w := by
  refine wp_region_any hm ?_
  have key : ∀ (fuel : Nat) (bs : List Bool) (a : Act) (w : World), bs.length = l.length → (bs.filter (! ·)).length ≤ fuel → I bs a w → wpAny P .any l.toArray Q fuel bs.toArray a w := by
    intro fuel
    induction fuel with
    | zero =>
      intro bs a w hl hf hI
      have hall : bs = List.replicate l.length true := by
        rw [List.eq_replicate_iff]
        refine ⟨hl, fun b hb => ?_⟩
        cases b with
        | true => rfl
        | false =>
          have : false ∈ bs.filter (! ·) := List.mem_filter.2 ⟨hb, rfl⟩
          have := List.length_pos_of_mem this; omega
      subst hall
      refine ⟨?_, hend a w hI⟩
      cases hr : Region.ready .any l.toArray (List.replicate l.length true).toArray with
      | nil => rfl
      | cons j js =>
        have hj : j ∈ Region.ready .any l.toArray (List.replicate l.length true).toArray := by rw [hr]; exact List.mem_cons_self
        obtain ⟨h1, o, h2, _⟩ := mem_ready.1 hj
        have hlt : j < l.length := by have := (List.getElem?_eq_some_iff.1 (by simpa using h2 : l[j]? = some o)).1; exact this
        simp [Array.getD, hlt] at h1
    | succ fuel ih =>
      intro bs a w hl hf hI
      have hset : ∀ (i : Nat), (bs.toArray.setIfInBounds i true) = (bs.set i true).toArray := fun i => by simp
      by_cases hall : bs = List.replicate l.length true
      · subst hall
        refine ⟨fun _ => hend a w hI, fun j hj => ?_⟩
        obtain ⟨h1, o, h2, _⟩ := mem_ready.1 hj
        have hlt : j < l.length := by have := (List.getElem?_eq_some_iff.1 (by simpa using h2 : l[j]? = some o)).1; exact this
        simp [Array.getD, hlt] at h1
      · refine ⟨fun hr => ?_, fun j hj => ?_⟩
        · exfalso
          have hex : ∃ b ∈ bs, (!b) = true := by
            false_or_by_contra
            rename_i hno
            refine hall (List.eq_replicate_iff.2 ⟨hl, fun b hb => ?_⟩)
            cases b with
            | true => rfl
            | false => exact absurd ⟨false, hb, rfl⟩ hno
          have hlt : bs.findIdx (! ·) < bs.length := List.findIdx_lt_length.2 hex
          have hf0 : bs[bs.findIdx (! ·)] = false := by have := List.findIdx_getElem (w := hlt); simpa using this
          have hlt2 : bs.findIdx (! ·) < l.length := by omega
          have hmem : bs.findIdx (! ·) ∈ Region.ready .any l.toArray bs.toArray := by
            refine mem_ready.2 ⟨by simp [Array.getD, hlt, hf0], l[bs.findIdx (! ·)], by simp [hlt2], fun e he _ => ?_⟩
            unfold waitsB at hd
            rw [List.all_eq_true] at hd
            have h1 := hd _ (List.mem_range.2 hlt2)
            rw [List.getElem?_eq_getElem hlt2] at h1
            simp only [Option.map_some, Option.getD_some] at h1
            have h2 := (Array.all_eq_true'.1 h1) e he
            have h3 := of_decide_eq_true h2
            have h4 : e.on < bs.length := by omega
            have h5 := List.not_of_lt_findIdx h3
            simp [Array.getD, h4]
            simpa using h5
          rw [hr] at hmem; cases hmem
        · obtain ⟨h1, o, h2, h3⟩ := mem_ready.1 hj
          have h2' : l[j]? = some o := by simpa using h2
          have hlt : j < l.length := (List.getElem?_eq_some_iff.1 h2').1
          have hb : bs[j]? = some false := by
            rw [List.getElem?_eq_getElem (by omega)]
            simp [Array.getD, show j < bs.length by omega] at h1
            rw [h1]
          refine wpOp_mono (fun a' w' h => ?_) (hstep j o bs a w h2' hI hl hb (fun e he hb => by have := h3 e he hb; rw [List.getD_eq_getElem?_getD]; simp only [Array.getD, List.size_toArray] at this; split at this <;> simp_all))
          rw [hset]
          have := filter_set bs j hb
          exact ih _ _ _ (by simpa using hl) (by omega) h
  have := key l.length (List.replicate l.length false) a w.drew (by simp) (by simp) h0
  simpa using this
/-- the same, with the slots that the region writes told apart -/
theorem wp_region_slots {id : Nat} {a : Act} {w : World} {l : List Oper} (hm : P.follows .mixedOrders = true) (hd : waitsB l = true) (slots : List Nat) (J : List Bool → List Value → World → Prop)
    (h0 : ∃ vs, a = putAll a slots vs ∧ J (List.replicate l.length false) vs w.drew)
    (hstep : ∀ (i : Nat) (o : Oper) (bs : List Bool) (vs : List Value) (w : World) (K : Act → World → Prop), l[i]? = some o → J bs vs w → bs.length = l.length → bs[i]? = some false → (∀ e ∈ o.after, Region.binds .any e = true → bs.getD e.on false = true) →
      (∀ vs' w', J (bs.set i true) vs' w' → K (putAll a slots vs') w') → wpOp P l.toArray Q i K (putAll a slots vs) w)
    (hend : ∀ vs w, J (List.replicate l.length true) vs w → Q .normal (putAll a slots vs) w) : (Code.region id l.toArray true).wp P Q a w := by
  refine wp_region_inv hm hd (fun bs a' w' => ∃ vs, a' = putAll a slots vs ∧ J bs vs w') h0 ?_ ?_
  · rintro i o bs a' w' ho ⟨vs, rfl, hJ⟩ hl hb hw
    exact hstep i o bs vs w' _ ho hJ hl hb hw (fun vs' w'' h => ⟨vs', rfl, h⟩)
  · rintro a' w' ⟨vs, rfl, hJ⟩
    exact hend vs w' hJ
end
section
variable {F : Fence} {n : Nat} {P : Program} {Q : Exit → Act → World → Prop}
theorem wpOpIn_of_list {ops : Array Oper} {i : Nat} {o : Oper} {K : Act → World → Prop} {a : Act} {w : World} (ho : ops[i]? = some o) (h : wpListIn F n P ops (Exit.then K Q) [o] a w) : wpOpIn F n P ops Q i K a w := by
  unfold wpOpIn
  simp only [ho]
  unfold wpListIn at h
  split
  · rename_i hw
    rw [if_pos hw] at h
    exact uponIn_then h
  · rename_i hw
    rw [if_neg hw] at h; exact h
/-- a region whose order is open, by an invariant over what has come up -/
theorem wpIn_region_inv {id : Nat} {a : Act} {w : World} {l : List Oper} (hm : P.follows .mixedOrders = true) (hd : waitsB l = true) (I : List Bool → Act → World → Prop) (h0 : I (List.replicate l.length false) a w.drew)
    (hstep : ∀ (i : Nat) (o : Oper) (bs : List Bool) (a : Act) (w : World), l[i]? = some o → I bs a w → bs.length = l.length → bs[i]? = some false → (∀ e ∈ o.after, Region.binds .any e = true → bs.getD e.on false = true) →
      wpOpIn F n P l.toArray Q i (fun a' w' => I (bs.set i true) a' w') a w)
    (hend : ∀ a w, I (List.replicate l.length true) a w → Q .normal a w) : (Code.region id l.toArray true).wpIn F n P Q a w := by
  refine wpIn_region_any hm ?_
  have key : ∀ (fuel : Nat) (bs : List Bool) (a : Act) (w : World), bs.length = l.length → (bs.filter (! ·)).length ≤ fuel → I bs a w → wpAnyIn F n P .any l.toArray Q fuel bs.toArray a w := by
    intro fuel
    induction fuel with
    | zero =>
      intro bs a w hl hf hI
      have hall : bs = List.replicate l.length true := by
        rw [List.eq_replicate_iff]
        refine ⟨hl, fun b hb => ?_⟩
        cases b with
        | true => rfl
        | false =>
          have : false ∈ bs.filter (! ·) := List.mem_filter.2 ⟨hb, rfl⟩
          have := List.length_pos_of_mem this; omega
      subst hall
      refine ⟨?_, hend a w hI⟩
      cases hr : Region.ready .any l.toArray (List.replicate l.length true).toArray with
      | nil => rfl
      | cons j js =>
        have hj : j ∈ Region.ready .any l.toArray (List.replicate l.length true).toArray := by rw [hr]; exact List.mem_cons_self
        obtain ⟨h1, o, h2, _⟩ := mem_ready.1 hj
        have hlt : j < l.length := by have := (List.getElem?_eq_some_iff.1 (by simpa using h2 : l[j]? = some o)).1; exact this
        simp [Array.getD, hlt] at h1
    | succ fuel ih =>
      intro bs a w hl hf hI
      have hset : ∀ (i : Nat), (bs.toArray.setIfInBounds i true) = (bs.set i true).toArray := fun i => by simp
      by_cases hall : bs = List.replicate l.length true
      · subst hall
        refine ⟨fun _ => hend a w hI, fun j hj => ?_⟩
        obtain ⟨h1, o, h2, _⟩ := mem_ready.1 hj
        have hlt : j < l.length := by have := (List.getElem?_eq_some_iff.1 (by simpa using h2 : l[j]? = some o)).1; exact this
        simp [Array.getD, hlt] at h1
      · refine ⟨fun hr => ?_, fun j hj => ?_⟩
        · exfalso
          have hex : ∃ b ∈ bs, (!b) = true := by
            false_or_by_contra
            rename_i hno
            refine hall (List.eq_replicate_iff.2 ⟨hl, fun b hb => ?_⟩)
            cases b with
            | true => rfl
            | false => exact absurd ⟨false, hb, rfl⟩ hno
          have hlt : bs.findIdx (! ·) < bs.length := List.findIdx_lt_length.2 hex
          have hf0 : bs[bs.findIdx (! ·)] = false := by have := List.findIdx_getElem (w := hlt); simpa using this
          have hlt2 : bs.findIdx (! ·) < l.length := by omega
          have hmem : bs.findIdx (! ·) ∈ Region.ready .any l.toArray bs.toArray := by
            refine mem_ready.2 ⟨by simp [Array.getD, hlt, hf0], l[bs.findIdx (! ·)], by simp [hlt2], fun e he _ => ?_⟩
            unfold waitsB at hd
            rw [List.all_eq_true] at hd
            have h1 := hd _ (List.mem_range.2 hlt2)
            rw [List.getElem?_eq_getElem hlt2] at h1
            simp only [Option.map_some, Option.getD_some] at h1
            have h2 := (Array.all_eq_true'.1 h1) e he
            have h3 := of_decide_eq_true h2
            have h4 : e.on < bs.length := by omega
            have h5 := List.not_of_lt_findIdx h3
            simp [Array.getD, h4]
            simpa using h5
          rw [hr] at hmem; cases hmem
        · obtain ⟨h1, o, h2, h3⟩ := mem_ready.1 hj
          have h2' : l[j]? = some o := by simpa using h2
          have hlt : j < l.length := (List.getElem?_eq_some_iff.1 h2').1
          have hb : bs[j]? = some false := by
            rw [List.getElem?_eq_getElem (by omega)]
            simp [Array.getD, show j < bs.length by omega] at h1
            rw [h1]
          refine wpOpIn_mono (fun a' w' h => ?_) (hstep j o bs a w h2' hI hl hb (fun e he hb => by have := h3 e he hb; rw [List.getD_eq_getElem?_getD]; simp only [Array.getD, List.size_toArray] at this; split at this <;> simp_all))
          rw [hset]
          have := filter_set bs j hb
          exact ih _ _ _ (by simpa using hl) (by omega) h
  have := key l.length (List.replicate l.length false) a w.drew (by simp) (by simp) h0
  simpa using this
/-- the same, with the slots that the region writes told apart -/
theorem wpIn_region_slots {id : Nat} {a : Act} {w : World} {l : List Oper} (hm : P.follows .mixedOrders = true) (hd : waitsB l = true) (slots : List Nat) (J : List Bool → List Value → World → Prop)
    (h0 : ∃ vs, a = putAll a slots vs ∧ J (List.replicate l.length false) vs w.drew)
    (hstep : ∀ (i : Nat) (o : Oper) (bs : List Bool) (vs : List Value) (w : World) (K : Act → World → Prop), l[i]? = some o → J bs vs w → bs.length = l.length → bs[i]? = some false → (∀ e ∈ o.after, Region.binds .any e = true → bs.getD e.on false = true) →
      (∀ vs' w', J (bs.set i true) vs' w' → K (putAll a slots vs') w') → wpOpIn F n P l.toArray Q i K (putAll a slots vs) w)
    (hend : ∀ vs w, J (List.replicate l.length true) vs w → Q .normal (putAll a slots vs) w) : (Code.region id l.toArray true).wpIn F n P Q a w := by
  refine wpIn_region_inv hm hd (fun bs a' w' => ∃ vs, a' = putAll a slots vs ∧ J bs vs w') h0 ?_ ?_
  · rintro i o bs a' w' ho ⟨vs, rfl, hJ⟩ hl hb hw
    exact hstep i o bs vs w' _ ho hJ hl hb hw (fun vs' w'' h => ⟨vs', rfl, h⟩)
  · rintro a' w' ⟨vs, rfl, hJ⟩
    exact hend vs w' hJ
end
end Go.Proofs.Ytlehddifcjklgaa
