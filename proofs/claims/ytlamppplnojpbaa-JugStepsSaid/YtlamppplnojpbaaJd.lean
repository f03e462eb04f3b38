import Derived.Test.YtlamppplnojpbaaJc
import Derived.Maps.OwnIn
import Derived.Maps.AppendAt
import Derived.RangeFuncNested
import Derived.RangeFuncBound
import Derived.RangeFuncCalls
import Derived.RangeFuncLeaves
import Derived.Shelf.Abstract
import Derived.Shelf.RegionOpen
import Derived.WalkKit
import Derived.OwnWalkIn
import Derived.TacticsInMore
import Derived.LoopNIn
import Derived.LoopIn
import Derived.WalkSpells
import Derived.WalkLawsBesides
import Derived.BigQuiet
import Derived.Deep.QuietTactic
import Derived.Lib.Hide
import Derived.Deep.RegionHeld3
import Derived.StillTailTactics
import Derived.Deep.LoopGhost
import Derived.Maps.OwnSet
import Derived.Lib.IndexAny
import Derived.Sort.QuietThIn
import Derived.Sort.QuietTacIn
import Derived.Sort.BigQuietIn
namespace Go.Proofs.Ytlamppplnojpbaa
open Go.RowKit Go.Shelf
attribute [local go_sem] Oper.semAt_some
theorem filter_set : ∀ (bs : List Bool) (j : Nat), bs[j]? = some false → ((bs.set j true).filter (! ·)).length + 1 = (bs.filter (! ·)).length
  | [], j, h => by simp at h
  | b :: bs, 0, h => by simp at h; subst h; simp
  | b :: bs, j + 1, h => by
    have := filter_set bs j (by simpa using h)
    cases b <;> simp at this ⊢ <;> omega
section
variable {F : Fence} {n : Nat} {P : Program} {Q : Exit → Act → World → Prop}
theorem uponIn_then {o : Oper} {a : Act} {w : World} {next K : Act → World → Prop} (h : o.wpIn F n P a w next (Exit.then K Q)) : o.wpIn F n P a w next Q := by
  unfold Oper.wpIn at *
  refine ⟨h.1, ?_⟩
  have h := h.2
  generalize (o.semAt F.round a.eval).run P w = r at *
  cases r with
  | ok x w' => cases x <;> exact h
  | halt x w' => cases x <;> exact h
theorem getD_toArray (l : List Bool) (j : Nat) (d : Bool) : l.toArray.getD j d = l[j]?.getD d := by
  simp [Array.getD_eq_getD_getElem?]
/-- each operation waits for earlier ones alone -/
def waitsB (l : List Oper) : Bool := (List.range l.length).all fun i => ((l[i]?).map fun o => o.after.all fun e => decide (e.on < i)).getD true
def noGuardB (l : List Oper) : Bool := l.all fun o => o.guard.isNone
def onB (l : List Oper) (i j : Nat) : Bool := ((l[i]?).map fun o => o.after.any fun e => e.on == j && Region.binds .any e).getD false
/-- each of the first m operations is waited for by a later one, the m-th included -/
def feedsB (l : List Oper) (m : Nat) : Bool := (List.range m).all fun j => (List.range (m + 1)).any fun i => decide (j < i) && onB l i j
/-- behind the m-th each waits for the one ahead of it -/
def chainB (l : List Oper) (m : Nat) : Bool := (List.range l.length).all fun i => decide (i ≤ m) || onB l i (i - 1)
theorem onB_spec {l : List Oper} {i j : Nat} (h : onB l i j = true) {o : Oper} (ho : l[i]? = some o) : ∃ e ∈ o.after, Region.binds .any e = true ∧ e.on = j := by
  unfold onB at h
  rw [ho] at h
  simp only [Option.map_some, Option.getD_some, Array.any_eq_true'] at h
  obtain ⟨e, he, h2⟩ := h
  simp only [Bool.and_eq_true, beq_iff_eq] at h2
  exact ⟨e, he, h2.2, h2.1⟩
theorem wpOpIn_of_cut {l : List Oper} {m i : Nat} {K K' K2 : Act → World → Prop} {a : Act} {w : World} (hg : noGuardB l = true) (hi : i < m) (hm : m ≤ l.length) (hK : ∀ a w, K a w → K' a w)
    (h : wpOpIn F n P (l.take m).toArray (Exit.then K2 Q) i K a w) : wpOpIn F n P l.toArray Q i K' a w := by
  have ho : l[i]? = some l[i] := List.getElem?_eq_getElem (by omega)
  have h1 : (l.take m).toArray[i]? = some l[i] := by simp [hi]
  have h2 : l.toArray[i]? = some l[i] := by simp
  have hg1 : (l[i]'(by omega)).guard = none := by
    unfold noGuardB at hg
    rw [List.all_eq_true] at hg
    have := hg _ (List.getElem_mem (show i < l.length by omega))
    simpa using this
  unfold wpOpIn at *
  simp only [h1] at h
  simp only [h2]
  simp only [Region.wanted, hg1, if_true] at h ⊢
  exact Oper.wpIn_mono hK (uponIn_then h)
/-- the operations behind the m-th come one after the other -/
theorem wpAnyIn_tail {l : List Oper} (hd : waitsB l = true) (m : Nat) (hc : chainB l m = true) : ∀ (r k : Nat) (a : Act) (w : World), m ≤ k → k + r = l.length →
    wpOpsIn F n P l.toArray Q (List.range' k r) a w → wpAnyIn F n P .any l.toArray Q r (List.replicate k true ++ List.replicate r false).toArray a w
  | 0, k, a, w, hm, hk, h => by
    have h' : Q .normal a w := by simpa [wpOpsIn] using h
    refine ⟨?_, h'⟩
    cases hr : Region.ready .any l.toArray (List.replicate k true ++ List.replicate 0 false).toArray with
    | nil => rfl
    | cons j js =>
      have hj : j ∈ Region.ready .any l.toArray (List.replicate k true ++ List.replicate 0 false).toArray := by rw [hr]; exact List.mem_cons_self
      obtain ⟨h1, o, h2, _⟩ := mem_ready.1 hj
      have hlt : j < l.length := by have := (List.getElem?_eq_some_iff.1 (by simpa using h2 : l[j]? = some o)).1; exact this
      simp [Array.getD, show j < k by omega] at h1
  | r + 1, k, a, w, hm, hk, h => by
    have hget : ∀ j d, (List.replicate k true ++ List.replicate (r + 1) false).toArray.getD j d = if j < k then true else if j < l.length then false else d := fun j d => by
      rw [getD_toArray, List.getElem?_append, List.length_replicate, List.getElem?_replicate, List.getElem?_replicate]
      by_cases h1 : j < k
      · simp [h1]
      · by_cases h2 : j < l.length
        · simp [h1, h2, show j - k < r + 1 by omega]
        · simp [h1, h2, show ¬ j - k < r + 1 by omega]
    have hw := hd
    unfold waitsB at hw
    rw [List.all_eq_true] at hw
    have hready : ∀ j, j ∈ Region.ready .any l.toArray (List.replicate k true ++ List.replicate (r + 1) false).toArray ↔ j = k := fun j => by
      rw [mem_ready]
      constructor
      · rintro ⟨h1, o, h2, h3⟩
        have h2' : l[j]? = some o := by simpa using h2
        have hlt := (List.getElem?_eq_some_iff.1 h2').1
        rw [hget] at h1
        have hjk : ¬ j < k := fun h => by simp [h] at h1
        false_or_by_contra
        rename_i hne
        have hch := hc
        unfold chainB at hch
        rw [List.all_eq_true] at hch
        have := hch j (List.mem_range.2 hlt)
        simp only [Bool.or_eq_true, decide_eq_true_eq] at this
        rcases this with h | h
        · omega
        · obtain ⟨e, he, hb, hon⟩ := onB_spec h h2'
          have := h3 e he hb
          rw [hget, hon] at this
          have h5 : ¬ j - 1 < k := by omega
          simp [h5] at this
      · rintro rfl
        have hlt : j < l.length := by omega
        refine ⟨by rw [hget]; simp [hlt], l[j], by simp [hlt], fun e he hb => ?_⟩
        have h1 := hw j (List.mem_range.2 hlt)
        rw [List.getElem?_eq_getElem hlt] at h1
        simp only [Option.map_some, Option.getD_some] at h1
        have h2 := of_decide_eq_true ((Array.all_eq_true'.1 h1) e he)
        rw [hget]; simp [h2]
    refine ⟨fun hr => ?_, fun j hj => ?_⟩
    · have := (hready k).2 rfl
      rw [hr] at this; cases this
    · obtain rfl := (hready j).1 hj
      rw [List.range'_succ, wpOpsIn_cons] at h
      refine wpOpIn_mono (fun a' w' h' => ?_) h
      have := wpAnyIn_tail hd m hc r (j + 1) a' w' (by omega) (by omega) h'
      have e : (List.replicate j true ++ List.replicate (r + 1) false).toArray.setIfInBounds j true = (List.replicate (j + 1) true ++ List.replicate r false).toArray := by
        rw [List.setIfInBounds_toArray, List.set_append, if_neg (by simp), List.replicate_succ (n := r)]
        simp [List.replicate_succ']
      rw [e]; exact this
set_option maxHeartbeats 1600000 in
/-- **a region whose first m operations all come ahead of the rest, which come one after the other** -/
theorem wpAnyIn_cut {l : List Oper} (m : Nat) (hm : m < l.length) (hg : noGuardB l = true) (hd : waitsB l = true) (hf : feedsB l m = true) (hc : chainB l m = true) :
    ∀ (fuel : Nat) (bs : List Bool) (a : Act) (w : World), bs.length = m → (bs.filter (! ·)).length ≤ fuel →
      (∀ i o, l[i]? = some o → bs.getD i false = true → ∀ e ∈ o.after, Region.binds .any e = true → bs.getD e.on false = true) →
      wpAnyIn F n P .any (l.take m).toArray (Exit.then (wpOpsIn F n P l.toArray Q (List.range' m (l.length - m))) Q) fuel bs.toArray a w →
      wpAnyIn F n P .any l.toArray Q (fuel + (l.length - m)) (bs ++ List.replicate (l.length - m) false).toArray a w := by
  have hw := hd
  unfold waitsB at hw
  rw [List.all_eq_true] at hw
  -- what waits for what
  have hwait : ∀ i (hi : i < l.length), ∀ e ∈ l[i].after, e.on < i := fun i hi e he => by
    have h1 := hw i (List.mem_range.2 hi)
    rw [List.getElem?_eq_getElem hi] at h1
    simp only [Option.map_some, Option.getD_some] at h1
    exact of_decide_eq_true ((Array.all_eq_true'.1 h1) e he)
  have hfeed : ∀ j, j < m → ∃ i, j < i ∧ i ≤ m ∧ ∃ o, l[i]? = some o ∧ ∃ e ∈ o.after, Region.binds .any e = true ∧ e.on = j := fun j hj => by
    have h1 := hf
    unfold feedsB at h1
    rw [List.all_eq_true] at h1
    have h2 := h1 j (List.mem_range.2 hj)
    rw [List.any_eq_true] at h2
    obtain ⟨i, hi, h3⟩ := h2
    simp only [Bool.and_eq_true, decide_eq_true_eq] at h3
    have hi2 := List.mem_range.1 hi
    exact ⟨i, h3.1, by omega, l[i]'(by omega), List.getElem?_eq_getElem (by omega), onB_spec h3.2 (List.getElem?_eq_getElem (by omega))⟩
  have hgetD : ∀ (bs : List Bool), bs.length = m → ∀ j d, (bs ++ List.replicate (l.length - m) false).toArray.getD j d = if j < m then bs.getD j false else if j < l.length then false else d := fun bs hl j d => by
    have h0 : m + (l.length - m) = l.length := by omega
    rw [getD_toArray, List.getElem?_append, hl, List.getElem?_replicate, List.getD_eq_getElem?_getD]
    by_cases h1 : j < m
    · simp [h1, show j < bs.length by omega]
    · by_cases h2 : j < l.length
      · simp [h1, h2, show j - m < l.length - m by omega]
      · simp [h1, h2, show ¬ j - m < l.length - m by omega]
  have hgetP : ∀ (bs : List Bool), bs.length = m → ∀ j d, bs.toArray.getD j d = if j < m then bs.getD j false else d := fun bs hl j d => by
    rw [getD_toArray, List.getD_eq_getElem?_getD]
    by_cases h1 : j < m
    · simp [h1, show j < bs.length by omega]
    · simp [h1, show ¬ j < bs.length by omega]
  -- the m-th waits for all
  have hall : ∀ (bs : List Bool), bs.length = m → (∀ i o, l[i]? = some o → bs.getD i false = true → ∀ e ∈ o.after, Region.binds .any e = true → bs.getD e.on false = true) →
      (∀ e ∈ (l[m]'hm).after, Region.binds .any e = true → bs.getD e.on false = true) → bs = List.replicate m true := fun bs hl hcl hmm => by
    have key : ∀ d j, m - j ≤ d → j < m → bs.getD j false = true := by
      intro d
      induction d with
      | zero => intro j h1 h2; omega
      | succ d ih =>
        intro j h1 h2
        obtain ⟨i, h3, h4, o, ho, e, he, hb, rfl⟩ := hfeed j h2
        by_cases h5 : i = m
        · subst h5
          rw [List.getElem?_eq_getElem hm] at ho; cases ho
          exact hmm e he hb
        · exact hcl i o ho (ih i (by omega) (by omega)) e he hb
    rw [List.eq_replicate_iff]
    refine ⟨hl, fun b hb => ?_⟩
    obtain ⟨j, hj, rfl⟩ := List.getElem_of_mem hb
    have := key m j (by omega) (by omega)
    simpa [hj] using this
  -- what is ready here and there
  have hrd : ∀ (bs : List Bool), bs.length = m → ∀ j, j < m → (j ∈ Region.ready .any l.toArray (bs ++ List.replicate (l.length - m) false).toArray ↔ j ∈ Region.ready .any (l.take m).toArray bs.toArray) := fun bs hl j hj => by
    have hjl : j < l.length := by omega
    have e1 : l.toArray[j]? = some l[j] := by simp [hjl]
    have e2 : (l.take m).toArray[j]? = some l[j] := by simp [hj, hjl]
    rw [mem_ready, mem_ready, hgetD bs hl, hgetP bs hl, e1, e2]
    simp only [hj, if_true, Option.some.injEq, exists_eq_left']
    constructor
    · rintro ⟨h1, h2⟩
      refine ⟨h1, fun e he hb => ?_⟩
      have := h2 e he hb
      rw [hgetD bs hl] at this
      have h3 := hwait j hjl e he
      rw [hgetP bs hl]
      simpa [show e.on < m by omega] using this
    · rintro ⟨h1, h2⟩
      refine ⟨h1, fun e he hb => ?_⟩
      have := h2 e he hb
      rw [hgetP bs hl] at this
      have h3 := hwait j hjl e he
      rw [hgetD bs hl]
      simpa [show e.on < m by omega] using this
  have hdone : ∀ (bs : List Bool), bs.length = m → (∀ i o, l[i]? = some o → bs.getD i false = true → ∀ e ∈ o.after, Region.binds .any e = true → bs.getD e.on false = true) →
      bs ≠ List.replicate m true → ∃ j, j < m ∧ j ∈ Region.ready .any (l.take m).toArray bs.toArray := fun bs hl hcl hne => by
    have hex : ∃ b ∈ bs, (!b) = true := by
      false_or_by_contra
      rename_i hno
      refine hne (List.eq_replicate_iff.2 ⟨hl, fun b hb => ?_⟩)
      cases b with
      | true => rfl
      | false => exact absurd ⟨false, hb, rfl⟩ hno
    have hlt : bs.findIdx (! ·) < bs.length := List.findIdx_lt_length.2 hex
    have hf0 : bs[bs.findIdx (! ·)] = false := by have := List.findIdx_getElem (w := hlt); simpa using this
    have hlt2 : bs.findIdx (! ·) < l.length := by omega
    refine ⟨bs.findIdx (! ·), by omega, mem_ready.2 ⟨by rw [hgetP bs hl]; simp [show bs.findIdx (! ·) < m by omega, hlt, hf0], l[bs.findIdx (! ·)], by simp [show bs.findIdx (! ·) < m by omega, hlt2], fun e he _ => ?_⟩⟩
    have h3 := hwait _ hlt2 e he
    have h4 : e.on < bs.length := by omega
    have h5 := List.not_of_lt_findIdx h3
    rw [hgetP bs hl]
    simp [show e.on < m by omega, h4]
    simpa using h5
  -- at the end of the first part
  have hend : ∀ (fuel : Nat) (a : Act) (w : World), wpAnyIn F n P .any (l.take m).toArray (Exit.then (wpOpsIn F n P l.toArray Q (List.range' m (l.length - m))) Q) fuel (List.replicate m true).toArray a w →
      wpAnyIn F n P .any l.toArray Q (fuel + (l.length - m)) (List.replicate m true ++ List.replicate (l.length - m) false).toArray a w := fun fuel a w h => by
    have hnil : Region.ready .any (l.take m).toArray (List.replicate m true).toArray = [] := by
      cases hr : Region.ready .any (l.take m).toArray (List.replicate m true).toArray with
      | nil => rfl
      | cons j js =>
        have hj : j ∈ Region.ready .any (l.take m).toArray (List.replicate m true).toArray := by rw [hr]; exact List.mem_cons_self
        obtain ⟨h1, o, h2, _⟩ := mem_ready.1 hj
        have hlt : j < m := by
          have := (List.getElem?_eq_some_iff.1 (by simpa using h2 : (l.take m)[j]? = some o)).1
          rw [List.length_take] at this; omega
        rw [hgetP _ (by simp)] at h1
        simp [hlt] at h1
    have hQ : wpOpsIn F n P l.toArray Q (List.range' m (l.length - m)) a w := by
      cases fuel with
      | zero => exact h.2
      | succ f => exact h.1 hnil
    have := wpAnyIn_tail hd m hc (l.length - m) m a w (Nat.le_refl _) (by omega) hQ
    -- more fuel does no harm
    have more : ∀ (r d : Nat) (ls : Array Bool) (a : Act) (w : World), wpAnyIn F n P .any l.toArray Q r ls a w → wpAnyIn F n P .any l.toArray Q (d + r) ls a w := by
      intro r
      induction r with
      | zero =>
        intro d ls a w h
        cases d with
        | zero => exact h
        | succ d => exact ⟨fun _ => h.2, fun i hi => by rw [h.1] at hi; cases hi⟩
      | succ r ih =>
        intro d ls a w h
        exact ⟨h.1, fun i hi => wpOpIn_mono (fun a' w' h' => ih d _ a' w' h') (h.2 i hi)⟩
    exact more _ fuel _ _ _ this
  intro fuel
  induction fuel with
  | zero =>
    intro bs a w hl hc0 hcl h
    have hall2 : bs = List.replicate m true := by
      false_or_by_contra
      rename_i hne
      obtain ⟨j, _, hj⟩ := hdone bs hl hcl hne
      rw [h.1] at hj; cases hj
    subst hall2
    exact hend 0 a w h
  | succ fuel ih =>
    intro bs a w hl hc0 hcl h
    by_cases hall2 : bs = List.replicate m true
    · subst hall2; exact hend _ a w h
    · rw [Nat.succ_add]
      refine ⟨fun hr => ?_, fun j hj => ?_⟩
      · obtain ⟨j, hj, hj2⟩ := hdone bs hl hcl hall2
        rw [← hrd bs hl j hj, hr] at hj2; cases hj2
      · obtain ⟨h1, o, h2, h3⟩ := mem_ready.1 hj
        have h2' : l[j]? = some o := by simpa using h2
        have hjl := (List.getElem?_eq_some_iff.1 h2').1
        by_cases hjm : j < m
        · have hset : (bs ++ List.replicate (l.length - m) false).toArray.setIfInBounds j true = (bs.set j true ++ List.replicate (l.length - m) false).toArray := by
            rw [List.setIfInBounds_toArray, List.set_append, if_pos (by omega)]
          rw [hset]
          have hb : bs[j]? = some false := by
            rw [hgetD bs hl] at h1
            rw [List.getElem?_eq_getElem (by omega)]
            simp [hjm, hl] at h1
            rw [h1]
          refine wpOpIn_of_cut hg hjm (by omega) (fun a' w' h' => ?_) (h.2 j ((hrd bs hl j hjm).1 hj))
          refine ih (bs.set j true) a' w' (by simpa using hl) ?_ ?_ ?_
          · have := filter_set bs j hb; omega
          · intro i o' ho' hi e he hbe
            have hse : ∀ x, bs.getD x false = true → (bs.set j true).getD x false = true := fun x hx => by
              rw [List.getD_eq_getElem?_getD] at hx ⊢
              rw [List.getElem?_set]
              by_cases hjx : j = x
              · subst hjx
                rw [if_pos rfl, if_pos (by omega)]; rfl
              · rw [if_neg hjx]; exact hx
            by_cases hij : i = j
            · subst hij
              rw [h2'] at ho'; cases ho'
              have := h3 e he hbe
              rw [hgetD bs hl] at this
              have h5 := hwait i hjl
              rw [List.getElem?_eq_getElem hjl] at h2'; cases h2'
              have h6 := h5 e he
              exact hse _ (by simpa [show e.on < m by omega] using this)
            · refine hse _ (hcl i o' ho' ?_ e he hbe)
              rw [List.getD_eq_getElem?_getD, List.getElem?_set_ne (Ne.symm hij)] at hi
              rw [List.getD_eq_getElem?_getD]; exact hi
          · rw [List.setIfInBounds_toArray] at h'; exact h'
        · exfalso
          have hclm : ∀ e ∈ (l[m]'hm).after, Region.binds .any e = true → bs.getD e.on false = true := fun e he hb => by
            by_cases hjm2 : j = m
            · subst hjm2
              rw [List.getElem?_eq_getElem hjl] at h2'; cases h2'
              have := h3 e he hb
              rw [hgetD bs hl] at this
              have h6 := hwait j hjl e he
              simpa [h6] using this
            · have hch := hc
              unfold chainB at hch
              rw [List.all_eq_true] at hch
              have := hch j (List.mem_range.2 hjl)
              simp only [Bool.or_eq_true, decide_eq_true_eq] at this
              rcases this with h | h
              · omega
              · obtain ⟨e', he', hb', hon⟩ := onB_spec h h2'
                have := h3 e' he' hb'
                rw [hgetD bs hl, hon] at this
                simp [show ¬ j - 1 < m by omega] at this
          exact hall2 (hall bs hl hcl hclm)
/-- **A REGION THAT DRAWS ITS ORDER: its first m operations are quiet, the rest, behind all of them, comes one after the other.** -/
theorem wpIn_region_cut {id : Nat} {a : Act} {w : World} {l : List Oper} {C : World → Prop} (m : Nat) (hro : F.round = none) (hpm : P.follows .mixedOrders = true)
    (hck : (decide (m < l.length) && (noGuardB l && (waitsB l && (feedsB l m && (chainB l m && Region.lexB .any (l.take m).toArray))))) = true) (hC : C w.drew)
    (h : wpQuietIn F n P (l.take m).toArray C (fun a' => ∀ w', C w' → wpListIn F n P l.toArray Q (l.drop m) a' w') (l.take m) a) : (Code.region id l.toArray true).wpIn F n P Q a w := by
  simp only [Bool.and_eq_true, decide_eq_true_eq] at hck
  obtain ⟨hm, hg, hd, hf, hc, hB⟩ := hck
  simp only [Region.lexB, Bool.and_eq_true] at hB
  refine wpIn_region_any hpm ?_
  have hlen : (l.take m).length = m := by rw [List.length_take]; omega
  have h1 := wpAnyQIn_lex (F := F) (n := n) (C := C) (md := .any) hB.1 (l.take m) 0 (Array.replicate (l.take m).toArray.size false) a (by simp) (by simpa using hB.2) h
  have h2 := wpAnyIn_of_quiet (Q' := Exit.then (wpOpsIn F n P l.toArray Q (List.range' m (l.length - m))) Q) hro (fun a w' hw' hq => by
    show wpOpsIn F n P l.toArray Q (List.range' m (l.length - m)) a w'
    have e := wpOpsIn_eq_wpListIn (F := F) (n := n) (P := P) (Q := Q) (ops := l.toArray) (l.drop m) m (fun j => by simp)
    rw [List.length_drop] at e
    rw [e]; exact hq w' hw') _ _ _ w.drew hC h1
  have e1 : Array.replicate (l.take m).toArray.size false = (List.replicate m false).toArray := by simp [hlen]
  have e2 : (l.take m).length = m := hlen
  rw [e1, e2] at h2
  have h3 := wpAnyIn_cut m hm hg hd hf hc m (List.replicate m false) a w.drew (by simp) (by simp) (fun i o _ hi => by
    exfalso
    rw [List.getD_eq_getElem?_getD] at hi
    by_cases h : i < m <;> simp [h] at hi) h2
  have e3 : m + (l.length - m) = l.length := by omega
  have e4 : (List.replicate m false ++ List.replicate (l.length - m) false) = List.replicate l.length false := by rw [List.replicate_append_replicate, e3]
  rw [e3, e4] at h3
  simpa using h3
end
end Go.Proofs.Ytlamppplnojpbaa
namespace Go.Proofs.Ytlamppplnojpbaa
open Go.RowKit Go.Shelf
attribute [local go_sem] Oper.semAt_some
/-- the blocks b and Bs lie as they lay -/
def Keeps2 (b Bs : Nat) (W W' : World) : Prop := W.heap.size ≤ W'.heap.size ∧ W'.heap[b]? = W.heap[b]? ∧ W'.heap[Bs]? = W.heap[Bs]?
theorem Keeps2.refl (b Bs : Nat) (W : World) : Keeps2 b Bs W W := ⟨Nat.le_refl _, rfl, rfl⟩
theorem Keeps2.trans {b Bs : Nat} {A B C : World} (h : Keeps2 b Bs A B) (k : Keeps2 b Bs B C) : Keeps2 b Bs A C := ⟨Nat.le_trans h.1 k.1, k.2.1.trans h.2.1, k.2.2.trans h.2.2⟩
theorem Keeps2.of_below {b Bs B : Nat} {W W' : World} (h : Below B W W') (h1 : b < B) (h2 : Bs < B) : Keeps2 b Bs W W' := ⟨h.size, h.block b h1, h.block Bs h2⟩
theorem Keeps2.put {b Bs l : Nat} (h1 : b < l) (h2 : Bs < l) (W : World) (o : Obj) : Keeps2 b Bs W (W.putObj l o) :=
  ⟨by simp, World.putObj_heap_other (by omega), World.putObj_heap_other (by omega)⟩
theorem Keeps2.cell2 {b Bs o : Nat} {W W' : World} (h : Keeps2 b Bs W W') {v : Value} (hv : W.cell? ⟨Bs, o, none⟩ = some v) : W'.cell? ⟨Bs, o, none⟩ = some v :=
  (World.cell?_of_block (w := W) (a := ⟨Bs, o, none⟩) h.2.2).trans hv
theorem Keeps2.cell1 {b Bs o : Nat} {W W' : World} (h : Keeps2 b Bs W W') {v : Value} (hv : W.cell? ⟨b, o, none⟩ = some v) : W'.cell? ⟨b, o, none⟩ = some v :=
  (World.cell?_of_block (w := W) (a := ⟨b, o, none⟩) h.2.1).trans hv
theorem steps_start (w : World) (J L : List Value) : Below w.heap.size w ((w.alloc (.cells J.toArray 80)).alloc (.cells L.toArray 3)) ∧ Row ((w.alloc (.cells J.toArray 80)).alloc (.cells L.toArray 3)) w.heap.size 80 J ∧ Row ((w.alloc (.cells J.toArray 80)).alloc (.cells L.toArray 3)) (w.heap.size + 1) 3 L := by
  obtain ⟨w1, h1⟩ : ∃ w1, w.alloc (.cells J.toArray 80) = w1 := ⟨_, rfl⟩
  have s1 : w1.heap.size = w.heap.size + 1 := by rw [← h1, size_al]
  have b1 : Below w.heap.size w w1 := by rw [← h1]; exact Below.al (Below.refl _ _) (Nat.le_refl _) _
  have b2 : Below w1.heap.size w1 (w1.alloc (.cells L.toArray 3)) := Below.al (Below.refl _ _) (Nat.le_refl _) _
  have r1 : Row w1 w.heap.size 80 J := by rw [← h1]; exact Row.new _ _ _
  rw [h1, ← s1]
  exact ⟨Below.andThen b1 b2 (Nat.le_refl _), r1.below b2 r1.lt, Row.new _ _ _⟩
set_option maxHeartbeats 400000 in
theorem steps_any (n p0 p1 p2 p3 : Int) (cl : Bool) (w : World) :
    Calls Try.prog 53 #[.agg #[.int .i64 n, .int .i64 p0, .int .i64 p1, .int .i64 p2, .int .i64 p3], .bool cl] w fun e w' =>
      e = .returned (.func (.func 70) #[] #[.pointer (some ⟨w.heap.size + 1, 0, none⟩), .pointer (some ⟨w.heap.size, 0, none⟩)]) ∧ Below w.heap.size w w' ∧
      Row w' w.heap.size 80 [.int .i64 n, .int .i64 p0, .int .i64 p1, .int .i64 p2, .int .i64 p3] ∧ Row w' (w.heap.size + 1) 3 [.int .i64 (if cl = true then 0 else -1)] := by
  cases cl with
  | true =>
    have H := Lib.hid (steps_start w [.int .i64 n, .int .i64 p0, .int .i64 p1, .int .i64 p2, .int .i64 p3] [.int .i64 0])
    go_enter Try.func53, Try.ntmps53
    go_wp2_with fail
    go_ret
    exact ⟨rfl, H.out⟩
  | false =>
    have H := Lib.hid (steps_start w [.int .i64 n, .int .i64 p0, .int .i64 p1, .int .i64 p2, .int .i64 p3] [.int .i64 (-1)])
    go_enter Try.func53, Try.ntmps53
    go_wp2_with fail
    go_ret
    exact ⟨rfl, H.out⟩
/-- the steps from f to the first k ends from ls on -/
def rowL (ls f : Int) (k : Nat) : List (Int × Int) := ((List.range k).map (fun j : Nat => (f, ls + (j : Int)))).filter (fun p => decide (p.1 ≠ p.2))
/-- the steps before the one from the i-th end to the j-th one -/
def beforeL (ls : Int) (m i j : Nat) : List (Int × Int) := ((List.range i).flatMap (fun a : Nat => rowL ls (ls + (a : Int)) m)) ++ rowL ls (ls + (i : Int)) j
/-- all steps, rising -/
def stepsL (ls : Int) (m : Nat) : List (Int × Int) := (List.range m).flatMap (fun a : Nat => rowL ls (ls + (a : Int)) m)
theorem beforeL_0 (ls : Int) (m : Nat) : beforeL ls m 0 0 = [] := by simp [beforeL, rowL]
theorem beforeL_next (ls : Int) (m i : Nat) : beforeL ls m (i + 1) 0 = beforeL ls m i m := by
  unfold beforeL
  rw [List.range_succ, List.flatMap_append]
  simp [rowL]
theorem beforeL_end (ls : Int) (m : Nat) : beforeL ls m m 0 = stepsL ls m := by
  unfold beforeL stepsL
  simp [rowL]
theorem beforeL_ne (ls : Int) (m i j : Nat) (h : i ≠ j) : beforeL ls m i (j + 1) = beforeL ls m i j ++ [(ls + (i : Int), ls + (j : Int))] := by
  unfold beforeL rowL
  rw [List.range_succ, List.map_append, List.filter_append, List.append_assoc]
  congr 2
  simp; omega
theorem beforeL_eq (ls : Int) (m i : Nat) : beforeL ls m i (i + 1) = beforeL ls m i i := by
  unfold beforeL rowL
  rw [List.range_succ, List.map_append, List.filter_append]
  simp
set_option maxRecDepth 100000 in
set_option maxHeartbeats 1000000 in
/-- **the steps come one after the other** -/
theorem steps1_in (nf l bl bj n : Nat) (hn : n ≤ 4) (p0 p1 p2 p3 ls : Int) (m : Nat) (hls : ls = -1 ∨ ls = 0) (hm : (n : Int) = ls + (m : Int)) (J : List (Int × Int) → World → Prop) (Jx : World → Prop)
    (hY : ∀ (i j : Nat) W, i < m → j < m → i ≠ j → J (beforeL ls m i j) W → YieldAt Fence.wide (nf - 1) Try.prog l #[.agg #[.int .i64 (ls + (i : Int)), .int .i64 (ls + (j : Int))]] W fun e W' =>
      (e = .returned (.bool true) ∧ J (beforeL ls m i (j + 1)) W' ∧ Keeps2 bl bj W W') ∨ (e = .returned (.bool false) ∧ Jx W'))
    (W : World) (rl : Row W bl 3 [.int .i64 ls]) (rj : Row W bj 80 [.int .i64 (n : Int), .int .i64 p0, .int .i64 p1, .int .i64 p2, .int .i64 p3]) (h0 : J [] W) :
    CallsIn Fence.wide nf Try.prog 70 #[.func (.yield l) #[] #[], .pointer (some ⟨bl, 0, none⟩), .pointer (some ⟨bj, 0, none⟩)] W fun e W' => (∃ v, e = .returned v) ∧ (J (stepsL ls m) W' ∨ Jx W') := by
  refine callsIn_of_wp Try.func70 rfl trivial ?_ rfl
  simp only [Try.ntmps70, List.size_toArray, List.length_cons, List.length_nil, Nat.reduceAdd, Nat.reduceSub, Array.replicate_succ, Array.replicate_zero, List.push_toArray, List.append_toArray, List.nil_append, List.cons_append]
  have HY := Lib.hid hY
  have H0 := Lib.hid h0
  have c0 := rl.cell 0
  simp only [List.getElem?_cons_zero] at c0
  clear hY h0
  have jc := rj.cell 0
  simp only [List.getElem?_cons_zero] at jc
  have C0 := Lib.hid (And.intro c0 jc)
  gi_wp2_with fail
  clear c0 jc
  gi_loopw [4] (fun fv wr => ∃ i : Nat, i ≤ m ∧ fv = .int .i64 (ls + (i : Int)) ∧ Hid (J (beforeL ls m i 0) wr) ∧ Hid (Keeps2 bl bj W wr)) (fun fv _ => ((n : Int) - intOf fv).toNat)
  case atStart => exact ⟨0, Nat.zero_le _, by simp, Lib.hid (by rw [beforeL_0]; exact H0.out), Lib.hid (Keeps2.refl _ _ _)⟩
  case round =>
    clear H0
    obtain ⟨i, hi, rfl, HJ, HB⟩ := hrel
    have jc := HB.out.cell2 C0.out.2
    have c0 := HB.out.cell1 C0.out.1
    have iw : IntKind.i64.wrap (ls + (i : Int) + 1) = ls + ((i + 1 : Nat) : Int) := by rw [i64_of _ (by omega) (by omega)]; omega
    by_cases hlt : i < m
    · have hd : decide (ls + (i : Int) < (n : Int)) = true := decide_eq_true (by omega)
      gi_wp2_with fail
      clear jc c0
      gi_loopw [5] (fun tv wx => ∃ j : Nat, j ≤ m ∧ tv = .int .i64 (ls + (j : Int)) ∧ Hid (J (beforeL ls m i j) wx) ∧ Hid (Keeps2 bl bj W wx)) (fun tv _ => ((n : Int) - intOf tv).toNat)
      case atStart => exact ⟨0, Nat.zero_le _, by simp, HJ, HB⟩
      case round =>
        clear HJ HB
        obtain ⟨j, hj, rfl, HJ, HB⟩ := hrel
        have jc := HB.out.cell2 C0.out.2
        have jw : IntKind.i64.wrap (ls + (j : Int) + 1) = ls + ((j + 1 : Nat) : Int) := by rw [i64_of _ (by omega) (by omega)]; omega
        by_cases hlt2 : j < m
        · have hd2 : decide (ls + (j : Int) < (n : Int)) = true := decide_eq_true (by omega)
          by_cases hij : i = j
          · obtain rfl : j = i := hij.symm
            have HJ2 := Lib.hid (show J (beforeL ls m j (j + 1)) wr by rw [beforeL_eq]; exact HJ.out)
            clear HJ hij
            gi_wp2_with fail
            refine ⟨(fun _ h => by cases h), ?_⟩
            gi_wp2_with fail
            go_roundw
            case rel => exact ⟨j + 1, by omega, by simp, HJ2, HB⟩
            case measure => simp [intOf]; omega
          · have e1 : ((ls + (i : Int)) != (ls + (j : Int))) = true := by simp; omega
            have e2 : decide (ls + (i : Int) = ls + (j : Int)) = false := decide_eq_false (by omega)
            obtain ⟨fn, tmps, assign, body, hyy, hR⟩ := HY.out i j wr hlt hlt2 hij HJ.out
            have hR2 := hR.mono (R' := fun e W' => ∃ bb, e = .returned (.bool bb) ∧ Hid ((bb = true ∧ J (beforeL ls m i (j + 1)) W' ∧ Keeps2 bl bj wr W') ∨ (bb = false ∧ Jx W'))) (by
              rintro e W' (⟨rfl, h⟩ | ⟨rfl, h⟩)
              · exact ⟨true, rfl, Lib.hid (.inl ⟨rfl, h⟩)⟩
              · exact ⟨false, rfl, Lib.hid (.inr ⟨rfl, h⟩)⟩)
            have HR := Lib.hid hR2
            clear hR hR2 HJ
            gi_wp2_with fail
            refine ⟨(fun h => by cases h), ?_⟩
            refine HR.out.mono ?_
            rintro e W3 ⟨bb, rfl, hp⟩
            cases bb
            · have HX := Lib.hid (show Jx W3 by
                rcases hp.out with ⟨h, _⟩ | ⟨_, h⟩
                · cases h
                · exact h)
              clear hp hyy HR
              gi_wp2_with fail
              refine bodyPost_ret (results_none rfl _ _ _) rfl ?_
              exact ⟨⟨_, rfl⟩, .inr HX.out⟩
            · have HX := Lib.hid (show J (beforeL ls m i (j + 1)) W3 ∧ Keeps2 bl bj wr W3 by
                rcases hp.out with ⟨_, h⟩ | ⟨h, _⟩
                · exact h
                · cases h)
              clear hp hyy HR
              gi_wp2_with fail
              go_roundw
              case rel => exact ⟨j + 1, by omega, by simp, Lib.hid HX.out.1, Lib.hid (HB.out.trans HX.out.2)⟩
              case measure => simp [intOf]; omega
        · have hd2 : decide (ls + (j : Int) < (n : Int)) = false := decide_eq_false (by omega)
          have HJ2 := Lib.hid (show J (beforeL ls m (i + 1) 0) wr by
            have h := HJ.out
            rw [beforeL_next, show m = j by omega] ; rw [show m = j by omega] at h; exact h)
          clear HJ
          gi_wp2_with fail
          exact ⟨⟨i + 1, by omega, by simp, HJ2, HB⟩, by simp [intOf]; omega⟩
    · have hd : decide (ls + (i : Int) < (n : Int)) = false := decide_eq_false (by omega)
      have HJ2 := Lib.hid (show J (stepsL ls m) wr by
        have h := HJ.out
        rw [show i = m by omega, beforeL_end] at h; exact h)
      clear HJ
      gi_wp2_with fail
      go_end0
      exact ⟨⟨_, rfl⟩, .inl HJ2.out⟩
end Go.Proofs.Ytlamppplnojpbaa
