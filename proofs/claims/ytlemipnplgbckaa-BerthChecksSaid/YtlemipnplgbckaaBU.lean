import Derived.Test.YtlemipnplgbckaaBX
import Derived.Test.YtlemipnplgbckaaBA
import Derived.Laws.AppendOwn
import Derived.ChangeKeysEq
import Derived.Maps.RangeWalk
import Derived.Maps.OwnIn
import Derived.Maps.AppendAt
import Derived.RangeFuncNested
import Derived.RangeFuncBound
import Derived.RangeFuncCalls
import Derived.RangeFuncLeaves
import Derived.Shelf.Abstract
import Derived.Shelf.RegionOpen
import Derived.WalkKit
import Derived.WalkMore
import Derived.OwnWalkIn
import Derived.TacticsInMore
import Derived.LoopNIn
import Derived.LoopIn
import Derived.WalkSpells
import Derived.WalkLawsBesides
import Derived.BigQuiet
import Derived.Deep.QuietTactic
import Derived.Lib.Hide
import Derived.Deep.RegionHeld3
import Derived.StillTailTactics
import Derived.Deep.LoopGhost
import Derived.Maps.OwnSet
import Derived.Lib.IndexAny
import Derived.Sort.QuietThIn
import Derived.Sort.QuietTacIn
import Derived.Sort.BigQuietIn
import Derived.Laws.OwnMore
import Derived.DeepKeys4
import Derived.Maps.Views
import Derived.Maps.OwnOps
import Derived.Laws.OwnMore
import Derived.Deep.DeepCutAuto
import Derived.ChangeKeysEq
namespace Go.Proofs.Ytlemipnplgbckaa
open Go.RowKit Go.Shelf
attribute [local go_sem] Oper.semAt_some
section
variable {F : Fence} {n : Nat} {P : Program} {Q : Exit → Act → World → Prop}
theorem wpIn_region_inv2 {id : Nat} {a : Act} {w : World} {l : List Oper} (hm : P.follows .mixedOrders = true) (hd : waitsC l = true) (I : List Bool → Act → World → Prop) (h0 : I (List.replicate l.length false) a w.drew)
    (hstep : ∀ (i : Nat) (o : Oper) (bs : List Bool) (a : Act) (w : World), l[i]? = some o → I bs a w → bs.length = l.length → bs[i]? = some false → (∀ e ∈ o.after, Region.binds .any e = true → bs.getD e.on false = true) →
      wpOpIn F n P l.toArray Q i (fun a' w' => I (bs.set i true) a' w') a w)
    (hend : ∀ a w, I (List.replicate l.length true) a w → Q .normal a w) : (Code.region id l.toArray true).wpIn F n P Q a w := by
  refine wpIn_region_any hm ?_
  have key : ∀ (fuel : Nat) (bs : List Bool) (a : Act) (w : World), bs.length = l.length → (bs.filter (! ·)).length ≤ fuel → I bs a w → wpAnyIn F n P .any l.toArray Q fuel bs.toArray a w := by
    intro fuel
    induction fuel with
    | zero =>
      intro bs a w hl hf hI
      have hall : bs = List.replicate l.length true := by
        rw [List.eq_replicate_iff]
        refine ⟨hl, fun b hb => ?_⟩
        cases b with
        | true => rfl
        | false =>
          have : false ∈ bs.filter (! ·) := List.mem_filter.2 ⟨hb, rfl⟩
          have := List.length_pos_of_mem this; omega
      subst hall
      refine ⟨?_, hend a w hI⟩
      cases hr : Region.ready .any l.toArray (List.replicate l.length true).toArray with
      | nil => rfl
      | cons j js =>
        have hj : j ∈ Region.ready .any l.toArray (List.replicate l.length true).toArray := by rw [hr]; exact List.mem_cons_self
        obtain ⟨h1, o, h2, _⟩ := mem_ready.1 hj
        have hlt : j < l.length := by have := (List.getElem?_eq_some_iff.1 (by simpa using h2 : l[j]? = some o)).1; exact this
        simp [Array.getD, hlt] at h1
    | succ fuel ih =>
      intro bs a w hl hf hI
      have hset : ∀ (i : Nat), (bs.toArray.setIfInBounds i true) = (bs.set i true).toArray := fun i => by simp
      by_cases hall : bs = List.replicate l.length true
      · subst hall
        refine ⟨fun _ => hend a w hI, fun j hj => ?_⟩
        obtain ⟨h1, o, h2, _⟩ := mem_ready.1 hj
        have hlt : j < l.length := by have := (List.getElem?_eq_some_iff.1 (by simpa using h2 : l[j]? = some o)).1; exact this
        simp [Array.getD, hlt] at h1
      · refine ⟨fun hr => ?_, fun j hj => ?_⟩
        · exfalso
          have hex : ∃ b ∈ bs, (!b) = true := by
            false_or_by_contra
            rename_i hno
            refine hall (List.eq_replicate_iff.2 ⟨hl, fun b hb => ?_⟩)
            cases b with
            | true => rfl
            | false => exact absurd ⟨false, hb, rfl⟩ hno
          have hlt : bs.findIdx (! ·) < bs.length := List.findIdx_lt_length.2 hex
          have hf0 : bs[bs.findIdx (! ·)] = false := by have := List.findIdx_getElem (w := hlt); simpa using this
          have hlt2 : bs.findIdx (! ·) < l.length := by omega
          have hmem : bs.findIdx (! ·) ∈ Region.ready .any l.toArray bs.toArray := by
            refine mem_ready.2 ⟨by simp [Array.getD, hlt, hf0], l[bs.findIdx (! ·)], by simp [hlt2], fun e he hbd => ?_⟩
            unfold waitsC at hd
            rw [List.all_eq_true] at hd
            have h1 := hd _ (List.mem_range.2 hlt2)
            rw [List.getElem?_eq_getElem hlt2] at h1
            simp only [Option.map_some, Option.getD_some] at h1
            have h2 := (Array.all_eq_true'.1 h1) e he
            rw [hbd] at h2
            have h3 : e.on < bs.findIdx (! ·) := by simpa using h2
            have h4 : e.on < bs.length := by omega
            have h5 := List.not_of_lt_findIdx h3
            simp [Array.getD, h4]
            simpa using h5
          rw [hr] at hmem; cases hmem
        · obtain ⟨h1, o, h2, h3⟩ := mem_ready.1 hj
          have h2' : l[j]? = some o := by simpa using h2
          have hlt : j < l.length := (List.getElem?_eq_some_iff.1 h2').1
          have hb : bs[j]? = some false := by
            rw [List.getElem?_eq_getElem (by omega)]
            simp [Array.getD, show j < bs.length by omega] at h1
            rw [h1]
          refine wpOpIn_mono (fun a' w' h => ?_) (hstep j o bs a w h2' hI hl hb (fun e he hb => by have := h3 e he hb; rw [List.getD_eq_getElem?_getD]; simp only [Array.getD, List.size_toArray] at this; split at this <;> simp_all))
          rw [hset]
          have := filter_set bs j hb
          exact ih _ _ _ (by simpa using hl) (by omega) h
  have := key l.length (List.replicate l.length false) a w.drew (by simp) (by simp) h0
  simpa using this
theorem wpIn_region_slots2 {id : Nat} {a : Act} {w : World} {l : List Oper} (hm : P.follows .mixedOrders = true) (hd : waitsC l = true) (slots : List Nat) (J : List Bool → List Value → World → Prop)
    (h0 : ∃ vs, a = putAll a slots vs ∧ J (List.replicate l.length false) vs w.drew)
    (hstep : ∀ (i : Nat) (o : Oper) (bs : List Bool) (vs : List Value) (w : World) (K : Act → World → Prop), l[i]? = some o → J bs vs w → bs.length = l.length → bs[i]? = some false → (∀ e ∈ o.after, Region.binds .any e = true → bs.getD e.on false = true) →
      (∀ vs' w', J (bs.set i true) vs' w' → K (putAll a slots vs') w') → wpOpIn F n P l.toArray Q i K (putAll a slots vs) w)
    (hend : ∀ vs w, J (List.replicate l.length true) vs w → Q .normal (putAll a slots vs) w) : (Code.region id l.toArray true).wpIn F n P Q a w := by
  refine wpIn_region_inv2 hm hd (fun bs a' w' => ∃ vs, a' = putAll a slots vs ∧ J bs vs w') h0 ?_ ?_
  · rintro i o bs a' w' ho ⟨vs, rfl, hJ⟩ hl hb hw
    exact hstep i o bs vs w' _ ho hJ hl hb hw (fun vs' w'' h => ⟨vs', rfl, h⟩)
  · rintro a' w' ⟨vs, rfl, hJ⟩
    exact hend vs w' hJ
def boxStepsIn (F : Fence) (n : Nat) (P : Program) (Q : Exit → Act → World → Prop) (ops : Array Oper) (a : Act) (slots : List Nat) (R : List (Value → Prop)) (bx : Bxs) (pt : List (Option Nat)) (w₀ : World) (len : Nat) : List Oper → Nat → Prop
  | [], _ => True
  | o :: rest, i => (∀ (vs : List Value) (W : World) (K : Act → World → Prop), Below w₀.heap.size w₀ W → vs.length = len →
      (∀ e ∈ o.after, Region.binds .any e = true → ∃ v, vs[e.on]? = some v ∧ (R.getD e.on (fun _ => True)) v) →
      (match bx.getD i none, pt.getD i none with
       | some (E, z, _), _ => K (putAll a slots (vs.set i (.pointer (some ⟨W.heap.size, 0, none⟩)))) (W.alloc (.cells z.toArray E)) → wpListIn F n P ops (Exit.then K Q) [o] (putAll a slots vs) W
       | none, some ia => ∀ b E z f, bx.getD ia none = some (E, z, f) → vs[ia]? = some (.pointer (some ⟨b, 0, none⟩)) → w₀.heap.size ≤ b → Row W b E z → (∀ W', Row W' b E f → W.grownBy W' (some b) → K (putAll a slots (vs.set i undef)) W') → wpListIn F n P ops (Exit.then K Q) [o] (putAll a slots vs) W
       | none, none => (∀ v W', Below W.heap.size W W' → (R.getD i (fun _ => True)) v → K (putAll a slots (vs.set i v)) W') → wpListIn F n P ops (Exit.then K Q) [o] (putAll a slots vs) W)) ∧ boxStepsIn F n P Q ops a slots R bx pt w₀ len rest (i + 1)
theorem boxStepsIn_get {ops : Array Oper} {a : Act} {slots : List Nat} {R : List (Value → Prop)} {bx : Bxs} {pt : List (Option Nat)} {w₀ : World} {len : Nat} : ∀ {l : List Oper} {k i : Nat} {o : Oper}, boxStepsIn F n P Q ops a slots R bx pt w₀ len l k → l[i]? = some o →
    ∀ (vs : List Value) (W : World) (K : Act → World → Prop), Below w₀.heap.size w₀ W → vs.length = len →
      (∀ e ∈ o.after, Region.binds .any e = true → ∃ v, vs[e.on]? = some v ∧ (R.getD e.on (fun _ => True)) v) →
      (match bx.getD (k + i) none, pt.getD (k + i) none with
       | some (E, z, _), _ => K (putAll a slots (vs.set (k + i) (.pointer (some ⟨W.heap.size, 0, none⟩)))) (W.alloc (.cells z.toArray E)) → wpListIn F n P ops (Exit.then K Q) [o] (putAll a slots vs) W
       | none, some ia => ∀ b E z f, bx.getD ia none = some (E, z, f) → vs[ia]? = some (.pointer (some ⟨b, 0, none⟩)) → w₀.heap.size ≤ b → Row W b E z → (∀ W', Row W' b E f → W.grownBy W' (some b) → K (putAll a slots (vs.set (k + i) undef)) W') → wpListIn F n P ops (Exit.then K Q) [o] (putAll a slots vs) W
       | none, none => (∀ v W', Below W.heap.size W W' → (R.getD (k + i) (fun _ => True)) v → K (putAll a slots (vs.set (k + i) v)) W') → wpListIn F n P ops (Exit.then K Q) [o] (putAll a slots vs) W)
  | [], _, _, _, _, h => by simp at h
  | o :: rest, k, 0, o', hd, h => by
    simp at h; subst h
    exact hd.1
  | o :: rest, k, i + 1, o', hd, h => by
    have := boxStepsIn_get (l := rest) (k := k + 1) (i := i) hd.2 (by simpa using h)
    rw [show k + 1 + i = k + (i + 1) by omega] at this
    exact this
theorem wpIn_region_box {id : Nat} {a : Act} {w : World} {l : List Oper} (hm : P.follows .mixedOrders = true) (hd : waitsC l = true) (slots : List Nat) (R : List (Value → Prop)) (bx : Bxs) (pt : List (Option Nat)) (len : Nat) (hlen : l.length = len) (hok : boxOk l bx pt = true)
    (htr : ∀ i v, (bx.getD i none).isSome = true ∨ (pt.getD i none).isSome = true → (R.getD i (fun _ => True)) v)
    (h0 : ∃ vs, a = putAll a slots vs ∧ vs.length = len)
    (hsteps : boxStepsIn F n P Q l.toArray a slots R bx pt w len l 0)
    (hend : ∀ vs W, BoxJ R bx pt w len (List.replicate len true) vs W → Q .normal (putAll a slots vs) W) : (Code.region id l.toArray true).wpIn F n P Q a w := by
  obtain ⟨vs0, e0, el0⟩ := h0
  unfold boxOk at hok
  simp only [Bool.and_eq_true, decide_eq_true_eq] at hok
  obtain ⟨⟨hp, hpl⟩, hall⟩ := hok
  refine wpIn_region_slots2 hm hd slots (fun bs vs W => BoxJ R bx pt w len bs vs W ∧ closedB l bs) ⟨vs0, e0, ⟨(Below.refl _ _).drew, el0, by rw [List.length_replicate]; exact hlen, fun i hi => ?_, fun i E z f _ hi => ?_, fun i j b _ _ hi => ?_⟩, fun j o _ hb => ?_⟩ ?_ ?_
  · rw [List.getElem?_replicate] at hi; split at hi <;> simp at hi
  · rw [List.getElem?_replicate] at hi; split at hi <;> simp at hi
  · rw [List.getElem?_replicate] at hi; split at hi <;> simp at hi
  · rw [List.getElem?_replicate] at hb; split at hb <;> simp at hb
  · rintro i o bs vs W K ho ⟨hJ, hcl⟩ hbl hb hw hK
    have hlt : i < l.length := (List.getElem?_eq_some_iff.1 ho).1
    have hw2 : ∀ e ∈ o.after, Region.binds .any e = true → bs[e.on]? = some true := fun e he hbe => by
      have h := hw e he hbe
      rw [List.getD_eq_getElem?_getD] at h
      cases h2 : bs[e.on]? with
      | none => rw [h2] at h; simp at h
      | some b => rw [h2] at h; simp at h; rw [h]
    have hcl2 : closedB l (bs.set i true) := fun j o' ho' hb' e he hbe => by
      by_cases ej : i = j
      · subst ej
        rw [ho] at ho'; cases ho'
        by_cases ek : i = e.on
        · rw [← ek, List.getElem?_set_self (by rw [hbl]; exact hlt)]
        · rw [List.getElem?_set_ne ek]; exact hw2 e he hbe
      · rw [List.getElem?_set_ne ej] at hb'
        have := hcl j o' ho' hb' e he hbe
        by_cases ek : i = e.on
        · rw [← ek, List.getElem?_set_self (by rw [hbl]; exact hlt)]
        · rw [List.getElem?_set_ne ek]; exact this
    refine wpOpIn_of_list (by simpa using ho) ?_
    have hg := boxStepsIn_get hsteps ho vs W K hJ.bl hJ.ln (fun e he hbe => hJ.val _ (hw2 e he hbe))
    rw [Nat.zero_add] at hg
    have hai := List.all_eq_true.1 hall i (List.mem_range.2 hlt)
    cases hbx : bx.getD i none with
    | some x =>
      obtain ⟨E, z, f⟩ := x
      rw [hbx] at hg hai
      cases hpt : pt.getD i none with
      | some ia => rw [hpt] at hai; cases hai
      | none =>
        dsimp only at hg
        refine hg (hK _ _ ⟨hJ.made (by omega) hbx (fun v => htr i v (.inl (by rw [hbx]; rfl))) hpt ?_, hcl2⟩)
        cases hst : stB pt bs i with
        | false => rfl
        | true =>
          exfalso
          unfold stB at hst
          rw [List.any_eq_true] at hst
          obtain ⟨s, hs, hh⟩ := hst
          simp only [Bool.and_eq_true, decide_eq_true_eq] at hh
          have hsl : s < l.length := by have := List.mem_range.1 hs; omega
          have has := List.all_eq_true.1 hall s (List.mem_range.2 hsl)
          have hps : pt.getD s none = some i := by rw [List.getD_eq_getElem?_getD, hh.1]; rfl
          rw [hps] at has
          cases hbs : bx.getD s none with
          | some y => rw [hbs] at has; cases has
          | none =>
            rw [hbs] at has
            simp only [Bool.and_eq_true] at has
            have h1 := has.1
            rw [List.getElem?_eq_getElem hsl] at h1
            simp only [Option.map_some, Option.getD_some, Array.any_eq_true'] at h1
            obtain ⟨e, he, h2⟩ := h1
            simp only [Bool.and_eq_true, decide_eq_true_eq] at h2
            have := hcl s l[s] (List.getElem?_eq_getElem hsl) hh.2 e he h2.2
            rw [h2.1, hb] at this
            cases this
    | none =>
      rw [hbx] at hg hai
      cases hpt : pt.getD i none with
      | some ia =>
        rw [hpt] at hg hai
        dsimp only at hg
        simp only [Bool.and_eq_true] at hai
        have h1 := hai.1
        rw [ho] at h1
        simp only [Option.map_some, Option.getD_some, Array.any_eq_true'] at h1
        obtain ⟨e, he, h2⟩ := h1
        simp only [Bool.and_eq_true, decide_eq_true_eq] at h2
        have hba := hw2 e he h2.2
        rw [h2.1] at hba
        have hpi : pt[i]? = some (some ia) := by
          rw [List.getD_eq_getElem?_getD] at hpt
          cases h3 : pt[i]? with
          | none => rw [h3] at hpt; cases hpt
          | some x => rw [h3] at hpt; simp at hpt; rw [hpt]
        have hwait := stB_wait (pt := pt) (bs := bs) (i := ia) (k := i) (fun s hs => ptOk_eq hp hs hpi) hb
        cases hia : bx.getD ia none with
        | none =>
          -- a store into what is no box of this region: excluded by its shape
          have h9 := hai.2
          rw [hia] at h9; cases h9
        | some x =>
          obtain ⟨E, z, f⟩ := x
          obtain ⟨b, h3, h4, h5⟩ := hJ.box ia E z f hia hba
          rw [hwait] at h5
          exact hg b E z f hia h3 h4 (by simpa using h5) (fun W' hr hgr => hK _ _ ⟨hJ.filled (by omega) hbx hpt (fun v => htr i v (.inr (by rw [hpt]; rfl))) hia hba h3 h4 hr hgr, hcl2⟩)
      | none =>
        rw [hpt] at hg
        dsimp only at hg
        exact hg (fun v W' hbb hr => hK _ _ ⟨hJ.other hbb (by omega) hr hbx hpt, hcl2⟩)
  · rintro vs W ⟨hJ, _⟩
    rw [hlen] at hJ
    exact hend vs W hJ
end
end Go.Proofs.Ytlemipnplgbckaa
