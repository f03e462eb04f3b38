import Derived.Test.YtlemipnplgbckaaBA
import Derived.Laws.AppendOwn
import Derived.ChangeKeysEq
import Derived.Maps.RangeWalk
import Derived.Maps.OwnIn
import Derived.Maps.AppendAt
import Derived.RangeFuncNested
import Derived.RangeFuncBound
import Derived.RangeFuncCalls
import Derived.RangeFuncLeaves
import Derived.Shelf.Abstract
import Derived.Shelf.RegionOpen
import Derived.WalkKit
import Derived.WalkMore
import Derived.OwnWalkIn
import Derived.TacticsInMore
import Derived.LoopNIn
import Derived.LoopIn
import Derived.WalkSpells
import Derived.WalkLawsBesides
import Derived.BigQuiet
import Derived.Deep.QuietTactic
import Derived.Lib.Hide
import Derived.Deep.RegionHeld3
import Derived.StillTailTactics
import Derived.Deep.LoopGhost
import Derived.Maps.OwnSet
import Derived.Lib.IndexAny
import Derived.Sort.QuietThIn
import Derived.Sort.QuietTacIn
import Derived.Sort.BigQuietIn
import Derived.Laws.OwnMore
import Derived.DeepKeys4
import Derived.Maps.Views
import Derived.Maps.OwnOps
import Derived.Laws.OwnMore
import Derived.Deep.DeepCutAuto
import Derived.ChangeKeysEq
namespace Go.Proofs.Ytlemipnplgbckaa
open Go.RowKit Go.Shelf
attribute [local go_sem] Oper.semAt_some
section
variable {P : Program} {Q : Exit → Act → World → Prop}
/-! a drawn region in which boxes are made and filled: what a new variable that is captured or indexed asks for -/
abbrev Bxs := List (Option (TypeId × List Value × List Value))
/-- has the box of operation i been filled? -/
def stB (pt : List (Option Nat)) (bs : List Bool) (i : Nat) : Bool := (List.range pt.length).any fun s => decide (pt[s]? = some (some i)) && decide (bs[s]? = some true)
theorem stB_set_ne {pt : List (Option Nat)} {bs : List Bool} {i k : Nat} (h : pt[k]? ≠ some (some i)) : stB pt (bs.set k true) i = stB pt bs i := by
  unfold stB
  rw [Bool.eq_iff_iff, List.any_eq_true, List.any_eq_true]
  constructor
  · rintro ⟨s, hs, hh⟩
    refine ⟨s, hs, ?_⟩
    simp only [Bool.and_eq_true, decide_eq_true_eq] at hh ⊢
    by_cases e : k = s
    · subst e; exact absurd hh.1 h
    · rwa [List.getElem?_set_ne e] at hh
  · rintro ⟨s, hs, hh⟩
    refine ⟨s, hs, ?_⟩
    simp only [Bool.and_eq_true, decide_eq_true_eq] at hh ⊢
    by_cases e : k = s
    · subst e; exact absurd hh.1 h
    · rwa [List.getElem?_set_ne e]
theorem stB_put {pt : List (Option Nat)} {bs : List Bool} {i k : Nat} (h : pt[k]? = some (some i)) (hl : k < bs.length) : stB pt (bs.set k true) i = true := by
  unfold stB
  rw [List.any_eq_true]
  have hk : k < pt.length := (List.getElem?_eq_some_iff.1 h).1
  refine ⟨k, List.mem_range.2 hk, ?_⟩
  simp only [Bool.and_eq_true, decide_eq_true_eq]
  exact ⟨h, by rw [List.getElem?_set_self hl]⟩
theorem stB_wait {pt : List (Option Nat)} {bs : List Bool} {i k : Nat} (hu : ∀ s, pt[s]? = some (some i) → s = k) (hb : bs[k]? = some false) : stB pt bs i = false := by
  unfold stB
  rw [Bool.eq_false_iff]
  intro h
  rw [List.any_eq_true] at h
  obtain ⟨s, _, hh⟩ := h
  simp only [Bool.and_eq_true, decide_eq_true_eq] at hh
  rw [hu s hh.1, hb] at hh
  simp at hh
/-- each store's box is its own -/
def ptOk (pt : List (Option Nat)) : Bool := (List.range pt.length).all fun s => (List.range pt.length).all fun t => (pt.getD s none).isNone || (decide (pt.getD s none ≠ pt.getD t none) || decide (s = t))
theorem ptOk_eq {pt : List (Option Nat)} (h : ptOk pt = true) {s t i : Nat} (hs : pt[s]? = some (some i)) (ht : pt[t]? = some (some i)) : s = t := by
  have h1 : s < pt.length := (List.getElem?_eq_some_iff.1 hs).1
  have h2 : t < pt.length := (List.getElem?_eq_some_iff.1 ht).1
  have := List.all_eq_true.1 (List.all_eq_true.1 h s (List.mem_range.2 h1)) t (List.mem_range.2 h2)
  simp only [List.getD_eq_getElem?_getD, hs, ht] at this
  simpa using this
def boxSteps (P : Program) (Q : Exit → Act → World → Prop) (ops : Array Oper) (a : Act) (slots : List Nat) (R : List (Value → Prop)) (bx : Bxs) (pt : List (Option Nat)) (w₀ : World) (len : Nat) : List Oper → Nat → Prop
  | [], _ => True
  | o :: rest, i => (∀ (vs : List Value) (W : World) (K : Act → World → Prop), Below w₀.heap.size w₀ W → vs.length = len →
      (∀ e ∈ o.after, Region.binds .any e = true → ∃ v, vs[e.on]? = some v ∧ (R.getD e.on (fun _ => True)) v) →
      (match bx.getD i none, pt.getD i none with
       | some (E, z, _), _ => K (putAll a slots (vs.set i (.pointer (some ⟨W.heap.size, 0, none⟩)))) (W.alloc (.cells z.toArray E)) → wpList P ops (Exit.then K Q) [o] (putAll a slots vs) W
       | none, some ia => ∀ b E z f, bx.getD ia none = some (E, z, f) → vs[ia]? = some (.pointer (some ⟨b, 0, none⟩)) → w₀.heap.size ≤ b → Row W b E z → (∀ W', Row W' b E f → W.grownBy W' (some b) → K (putAll a slots (vs.set i undef)) W') → wpList P ops (Exit.then K Q) [o] (putAll a slots vs) W
       | none, none => (∀ v W', Below W.heap.size W W' → (R.getD i (fun _ => True)) v → K (putAll a slots (vs.set i v)) W') → wpList P ops (Exit.then K Q) [o] (putAll a slots vs) W)) ∧ boxSteps P Q ops a slots R bx pt w₀ len rest (i + 1)
theorem boxSteps_get {ops : Array Oper} {a : Act} {slots : List Nat} {R : List (Value → Prop)} {bx : Bxs} {pt : List (Option Nat)} {w₀ : World} {len : Nat} : ∀ {l : List Oper} {k i : Nat} {o : Oper}, boxSteps P Q ops a slots R bx pt w₀ len l k → l[i]? = some o →
    ∀ (vs : List Value) (W : World) (K : Act → World → Prop), Below w₀.heap.size w₀ W → vs.length = len →
      (∀ e ∈ o.after, Region.binds .any e = true → ∃ v, vs[e.on]? = some v ∧ (R.getD e.on (fun _ => True)) v) →
      (match bx.getD (k + i) none, pt.getD (k + i) none with
       | some (E, z, _), _ => K (putAll a slots (vs.set (k + i) (.pointer (some ⟨W.heap.size, 0, none⟩)))) (W.alloc (.cells z.toArray E)) → wpList P ops (Exit.then K Q) [o] (putAll a slots vs) W
       | none, some ia => ∀ b E z f, bx.getD ia none = some (E, z, f) → vs[ia]? = some (.pointer (some ⟨b, 0, none⟩)) → w₀.heap.size ≤ b → Row W b E z → (∀ W', Row W' b E f → W.grownBy W' (some b) → K (putAll a slots (vs.set (k + i) undef)) W') → wpList P ops (Exit.then K Q) [o] (putAll a slots vs) W
       | none, none => (∀ v W', Below W.heap.size W W' → (R.getD (k + i) (fun _ => True)) v → K (putAll a slots (vs.set (k + i) v)) W') → wpList P ops (Exit.then K Q) [o] (putAll a slots vs) W)
  | [], _, _, _, _, h => by simp at h
  | o :: rest, k, 0, o', hd, h => by
    simp at h; subst h
    exact hd.1
  | o :: rest, k, i + 1, o', hd, h => by
    have := boxSteps_get (l := rest) (k := k + 1) (i := i) hd.2 (by simpa using h)
    rw [show k + 1 + i = k + (i + 1) by omega] at this
    exact this
/-- what holds between the operations -/
structure BoxJ (R : List (Value → Prop)) (bx : Bxs) (pt : List (Option Nat)) (w₀ : World) (len : Nat) (bs : List Bool) (vs : List Value) (W : World) : Prop where
  bl : Below w₀.heap.size w₀ W
  ln : vs.length = len
  bn : bs.length = len
  val : ∀ i : Nat, bs[i]? = some true → ∃ v, vs[i]? = some v ∧ (R.getD i (fun _ => True)) v
  box : ∀ (i : Nat) E z f, bx.getD i none = some (E, z, f) → bs[i]? = some true → ∃ b, vs[i]? = some (.pointer (some ⟨b, 0, none⟩)) ∧ w₀.heap.size ≤ b ∧ Row W b E (if stB pt bs i = true then f else z)
  apart : ∀ (i j : Nat) b, (bx.getD i none).isSome = true → (bx.getD j none).isSome = true → bs[i]? = some true → bs[j]? = some true → vs[i]? = some (.pointer (some ⟨b, 0, none⟩)) → vs[j]? = some (.pointer (some ⟨b, 0, none⟩)) → i = j
theorem BoxJ.other {R : List (Value → Prop)} {bx : Bxs} {pt : List (Option Nat)} {w₀ W W' : World} {len i : Nat} {bs : List Bool} {vs : List Value} {v : Value} (h : BoxJ R bx pt w₀ len bs vs W) (hb : Below W.heap.size W W') (hi : i < len) (hv : (R.getD i (fun _ => True)) v) (hbx : bx.getD i none = none) (hpt : pt.getD i none = none) :
    BoxJ R bx pt w₀ len (bs.set i true) (vs.set i v) W' := by
  have hpn : ∀ j, pt[i]? ≠ some (some j) := fun j e => by rw [List.getD_eq_getElem?_getD, e] at hpt; cases hpt
  have hsb : ∀ j : Nat, i ≠ j → (bs.set i true)[j]? = bs[j]? := fun j hj => List.getElem?_set_ne hj
  have hsv : ∀ j : Nat, i ≠ j → (vs.set i v)[j]? = vs[j]? := fun j hj => List.getElem?_set_ne hj
  refine ⟨Below.andThen h.bl hb (Nat.le_refl _), by rw [List.length_set]; exact h.ln, by rw [List.length_set]; exact h.bn, fun j hj => ?_, fun j E z f hx hj => ?_, fun j k b hx hy hj hk e1 e2 => ?_⟩
  · by_cases e : i = j
    · subst e; exact ⟨v, List.getElem?_set_self (by rw [h.ln]; exact hi), hv⟩
    · rw [hsb j e] at hj; rw [hsv j e]; exact h.val j hj
  · by_cases e : i = j
    · subst e; rw [hbx] at hx; cases hx
    · rw [hsb j e] at hj; rw [hsv j e, stB_set_ne (hpn j)]
      obtain ⟨b, h1, h2, h3⟩ := h.box j E z f hx hj
      exact ⟨b, h1, h2, h3.below hb h3.lt⟩
  · have e1' : i ≠ j := fun e => by subst e; rw [hbx] at hx; cases hx
    have e2' : i ≠ k := fun e => by subst e; rw [hbx] at hy; cases hy
    rw [hsb j e1'] at hj; rw [hsb k e2'] at hk; rw [hsv j e1'] at e1; rw [hsv k e2'] at e2
    exact h.apart j k b hx hy hj hk e1 e2
theorem BoxJ.made {R : List (Value → Prop)} {bx : Bxs} {pt : List (Option Nat)} {w₀ W : World} {len i : Nat} {bs : List Bool} {vs : List Value} {E : TypeId} {z f : List Value} (h : BoxJ R bx pt w₀ len bs vs W) (hi : i < len) (hbx : bx.getD i none = some (E, z, f)) (hv : ∀ v, (R.getD i (fun _ => True)) v) (hpt : pt.getD i none = none) (hst : stB pt bs i = false) :
    BoxJ R bx pt w₀ len (bs.set i true) (vs.set i (.pointer (some ⟨W.heap.size, 0, none⟩))) (W.alloc (.cells z.toArray E)) := by
  have hb : Below W.heap.size W (W.alloc (.cells z.toArray E)) := Below.al (Below.refl _ _) (Nat.le_refl _) _
  have hpn : ∀ j, pt[i]? ≠ some (some j) := fun j e => by rw [List.getD_eq_getElem?_getD, e] at hpt; cases hpt
  have hsb : ∀ j : Nat, i ≠ j → (bs.set i true)[j]? = bs[j]? := fun j hj => List.getElem?_set_ne hj
  have hsv : ∀ j : Nat, i ≠ j → (vs.set i (.pointer (some ⟨W.heap.size, 0, none⟩)))[j]? = vs[j]? := fun j hj => List.getElem?_set_ne hj
  have hss : (vs.set i (.pointer (some ⟨W.heap.size, 0, none⟩)))[i]? = some (.pointer (some ⟨W.heap.size, 0, none⟩)) := List.getElem?_set_self (by rw [h.ln]; exact hi)
  have hold : ∀ j b, (bx.getD j none).isSome = true → bs[j]? = some true → vs[j]? = some (.pointer (some ⟨b, 0, none⟩)) → b < W.heap.size := fun j b hx hj e => by
    obtain ⟨⟨E', z', f'⟩, hx'⟩ := Option.isSome_iff_exists.1 hx
    obtain ⟨b', h1, _, h3⟩ := h.box j E' z' f' hx' hj
    rw [h1] at e
    cases e
    exact h3.lt
  refine ⟨Below.andThen h.bl hb (Nat.le_refl _), by rw [List.length_set]; exact h.ln, by rw [List.length_set]; exact h.bn, fun j hj => ?_, fun j E' z' f' hx hj => ?_, fun j k b hx hy hj hk e1 e2 => ?_⟩
  · by_cases e : i = j
    · subst e; exact ⟨_, hss, hv _⟩
    · rw [hsb j e] at hj; rw [hsv j e]; exact h.val j hj
  · by_cases e : i = j
    · subst e
      rw [hbx] at hx; cases hx
      refine ⟨W.heap.size, hss, h.bl.size, ?_⟩
      rw [stB_set_ne (hpn i), hst]
      exact Row.new W E z
    · rw [hsb j e] at hj; rw [hsv j e, stB_set_ne (hpn j)]
      obtain ⟨b, h1, h2, h3⟩ := h.box j E' z' f' hx hj
      exact ⟨b, h1, h2, h3.below hb h3.lt⟩
  · by_cases ej : i = j
    · by_cases ek : i = k
      · omega
      · subst ej
        rw [hsb k ek] at hk; rw [hsv k ek] at e2; rw [hss] at e1
        cases e1
        exact absurd (hold k _ hy hk e2) (by omega)
    · by_cases ek : i = k
      · subst ek
        rw [hsb j ej] at hj; rw [hsv j ej] at e1; rw [hss] at e2
        cases e2
        exact absurd (hold j _ hx hj e1) (by omega)
      · rw [hsb j ej] at hj; rw [hsb k ek] at hk; rw [hsv j ej] at e1; rw [hsv k ek] at e2
        exact h.apart j k b hx hy hj hk e1 e2
theorem BoxJ.filled {R : List (Value → Prop)} {bx : Bxs} {pt : List (Option Nat)} {w₀ W W' : World} {len i ia b : Nat} {bs : List Bool} {vs : List Value} {E : TypeId} {z f : List Value} (h : BoxJ R bx pt w₀ len bs vs W) (hi : i < len) (hbx : bx.getD i none = none) (hpt : pt.getD i none = some ia) (hv : ∀ v, (R.getD i (fun _ => True)) v)
    (hia : bx.getD ia none = some (E, z, f)) (hba : bs[ia]? = some true) (hva : vs[ia]? = some (.pointer (some ⟨b, 0, none⟩))) (hb0 : w₀.heap.size ≤ b) (hr : Row W' b E f) (hg : W.grownBy W' (some b)) : BoxJ R bx pt w₀ len (bs.set i true) (vs.set i undef) W' := by
  have hpi : pt[i]? = some (some ia) := by
    rw [List.getD_eq_getElem?_getD] at hpt
    cases h2 : pt[i]? with
    | none => rw [h2] at hpt; cases hpt
    | some x => rw [h2] at hpt; simp at hpt; rw [hpt]
  have hsb : ∀ j : Nat, i ≠ j → (bs.set i true)[j]? = bs[j]? := fun j hj => List.getElem?_set_ne hj
  have hsv : ∀ j : Nat, i ≠ j → (vs.set i undef)[j]? = vs[j]? := fun j hj => List.getElem?_set_ne hj
  have hne : i ≠ ia := fun e => by subst e; rw [hbx] at hia; cases hia
  refine ⟨h.bl.grown hg h.bl.size (fun k e => by cases e; exact hb0), by rw [List.length_set]; exact h.ln, by rw [List.length_set]; exact h.bn, fun j hj => ?_, fun j E' z' f' hx hj => ?_, fun j k b hx hy hj hk e1 e2 => ?_⟩
  · by_cases e : i = j
    · subst e; exact ⟨_, List.getElem?_set_self (by rw [h.ln]; exact hi), hv _⟩
    · rw [hsb j e] at hj; rw [hsv j e]; exact h.val j hj
  · have e : i ≠ j := fun e => by subst e; rw [hbx] at hx; cases hx
    rw [hsb j e] at hj; rw [hsv j e]
    by_cases ea : ia = j
    · subst ea
      rw [hia] at hx; cases hx
      exact ⟨b, hva, hb0, by rw [stB_put hpi (by rw [h.bn]; exact hi), if_pos rfl]; exact hr⟩
    · rw [stB_set_ne (fun e2 => ea (by rw [hpi] at e2; cases e2; rfl))]
      obtain ⟨b', h1, h2, h3⟩ := h.box j E' z' f' hx hj
      have hbb : b' ≠ b := fun e3 => by
        subst e3
        exact ea (h.apart ia j b' (by rw [hia]; rfl) (by rw [hx]; rfl) hba hj hva h1)
      refine ⟨b', h1, h2, ?_⟩
      show W'.heap[b']? = _
      rw [hg.block b' h3.lt (fun e3 => hbb (by cases e3; rfl))]
      exact h3
  · have e1' : i ≠ j := fun e => by subst e; rw [hbx] at hx; cases hx
    have e2' : i ≠ k := fun e => by subst e; rw [hbx] at hy; cases hy
    rw [hsb j e1'] at hj; rw [hsb k e2'] at hk; rw [hsv j e1'] at e1; rw [hsv k e2'] at e2
    exact h.apart j k b hx hy hj hk e1 e2
/-- boxes and stores say nothing of their own; a store waits for its box, and no box waits for its store -/
def boxOk (l : List Oper) (bx : Bxs) (pt : List (Option Nat)) : Bool := ptOk pt && decide (pt.length = l.length) && (List.range l.length).all fun i => match bx.getD i none, pt.getD i none with
  | some _, some _ => false
  | some _, none => true
  | none, some ia => ((l[i]?).map fun o => o.after.any fun e => decide (e.on = ia) && Region.binds .any e).getD false && (bx.getD ia none).isSome
  | none, none => true
theorem wp_region_box {id : Nat} {a : Act} {w : World} {l : List Oper} (hm : P.follows .mixedOrders = true) (hd : waitsC l = true) (slots : List Nat) (R : List (Value → Prop)) (bx : Bxs) (pt : List (Option Nat)) (len : Nat) (hlen : l.length = len) (hok : boxOk l bx pt = true)
    (htr : ∀ i v, (bx.getD i none).isSome = true ∨ (pt.getD i none).isSome = true → (R.getD i (fun _ => True)) v)
    (h0 : ∃ vs, a = putAll a slots vs ∧ vs.length = len)
    (hsteps : boxSteps P Q l.toArray a slots R bx pt w len l 0)
    (hend : ∀ vs W, BoxJ R bx pt w len (List.replicate len true) vs W → Q .normal (putAll a slots vs) W) : (Code.region id l.toArray true).wp P Q a w := by
  obtain ⟨vs0, e0, el0⟩ := h0
  unfold boxOk at hok
  simp only [Bool.and_eq_true, decide_eq_true_eq] at hok
  obtain ⟨⟨hp, hpl⟩, hall⟩ := hok
  refine wp_region_slots2 hm hd slots (fun bs vs W => BoxJ R bx pt w len bs vs W ∧ closedB l bs) ⟨vs0, e0, ⟨(Below.refl _ _).drew, el0, by rw [List.length_replicate]; exact hlen, fun i hi => ?_, fun i E z f _ hi => ?_, fun i j b _ _ hi => ?_⟩, fun j o _ hb => ?_⟩ ?_ ?_
  · rw [List.getElem?_replicate] at hi; split at hi <;> simp at hi
  · rw [List.getElem?_replicate] at hi; split at hi <;> simp at hi
  · rw [List.getElem?_replicate] at hi; split at hi <;> simp at hi
  · rw [List.getElem?_replicate] at hb; split at hb <;> simp at hb
  · rintro i o bs vs W K ho ⟨hJ, hcl⟩ hbl hb hw hK
    have hlt : i < l.length := (List.getElem?_eq_some_iff.1 ho).1
    have hw2 : ∀ e ∈ o.after, Region.binds .any e = true → bs[e.on]? = some true := fun e he hbe => by
      have h := hw e he hbe
      rw [List.getD_eq_getElem?_getD] at h
      cases h2 : bs[e.on]? with
      | none => rw [h2] at h; simp at h
      | some b => rw [h2] at h; simp at h; rw [h]
    have hcl2 : closedB l (bs.set i true) := fun j o' ho' hb' e he hbe => by
      by_cases ej : i = j
      · subst ej
        rw [ho] at ho'; cases ho'
        by_cases ek : i = e.on
        · rw [← ek, List.getElem?_set_self (by rw [hbl]; exact hlt)]
        · rw [List.getElem?_set_ne ek]; exact hw2 e he hbe
      · rw [List.getElem?_set_ne ej] at hb'
        have := hcl j o' ho' hb' e he hbe
        by_cases ek : i = e.on
        · rw [← ek, List.getElem?_set_self (by rw [hbl]; exact hlt)]
        · rw [List.getElem?_set_ne ek]; exact this
    refine wpOp_of_list (by simpa using ho) ?_
    have hg := boxSteps_get hsteps ho vs W K hJ.bl hJ.ln (fun e he hbe => hJ.val _ (hw2 e he hbe))
    rw [Nat.zero_add] at hg
    have hai := List.all_eq_true.1 hall i (List.mem_range.2 hlt)
    cases hbx : bx.getD i none with
    | some x =>
      obtain ⟨E, z, f⟩ := x
      rw [hbx] at hg hai
      cases hpt : pt.getD i none with
      | some ia => rw [hpt] at hai; cases hai
      | none =>
        dsimp only at hg
        refine hg (hK _ _ ⟨hJ.made (by omega) hbx (fun v => htr i v (.inl (by rw [hbx]; rfl))) hpt ?_, hcl2⟩)
        cases hst : stB pt bs i with
        | false => rfl
        | true =>
          exfalso
          unfold stB at hst
          rw [List.any_eq_true] at hst
          obtain ⟨s, hs, hh⟩ := hst
          simp only [Bool.and_eq_true, decide_eq_true_eq] at hh
          have hsl : s < l.length := by have := List.mem_range.1 hs; omega
          have has := List.all_eq_true.1 hall s (List.mem_range.2 hsl)
          have hps : pt.getD s none = some i := by rw [List.getD_eq_getElem?_getD, hh.1]; rfl
          rw [hps] at has
          cases hbs : bx.getD s none with
          | some y => rw [hbs] at has; cases has
          | none =>
            rw [hbs] at has
            simp only [Bool.and_eq_true] at has
            have h1 := has.1
            rw [List.getElem?_eq_getElem hsl] at h1
            simp only [Option.map_some, Option.getD_some, Array.any_eq_true'] at h1
            obtain ⟨e, he, h2⟩ := h1
            simp only [Bool.and_eq_true, decide_eq_true_eq] at h2
            have := hcl s l[s] (List.getElem?_eq_getElem hsl) hh.2 e he h2.2
            rw [h2.1, hb] at this
            cases this
    | none =>
      rw [hbx] at hg hai
      cases hpt : pt.getD i none with
      | some ia =>
        rw [hpt] at hg hai
        dsimp only at hg
        simp only [Bool.and_eq_true] at hai
        have h1 := hai.1
        rw [ho] at h1
        simp only [Option.map_some, Option.getD_some, Array.any_eq_true'] at h1
        obtain ⟨e, he, h2⟩ := h1
        simp only [Bool.and_eq_true, decide_eq_true_eq] at h2
        have hba := hw2 e he h2.2
        rw [h2.1] at hba
        have hpi : pt[i]? = some (some ia) := by
          rw [List.getD_eq_getElem?_getD] at hpt
          cases h3 : pt[i]? with
          | none => rw [h3] at hpt; cases hpt
          | some x => rw [h3] at hpt; simp at hpt; rw [hpt]
        have hwait := stB_wait (pt := pt) (bs := bs) (i := ia) (k := i) (fun s hs => ptOk_eq hp hs hpi) hb
        cases hia : bx.getD ia none with
        | none =>
          -- a store into what is no box of this region: excluded by its shape
          have h9 := hai.2
          rw [hia] at h9; cases h9
        | some x =>
          obtain ⟨E, z, f⟩ := x
          obtain ⟨b, h3, h4, h5⟩ := hJ.box ia E z f hia hba
          rw [hwait] at h5
          exact hg b E z f hia h3 h4 (by simpa using h5) (fun W' hr hgr => hK _ _ ⟨hJ.filled (by omega) hbx hpt (fun v => htr i v (.inr (by rw [hpt]; rfl))) hia hba h3 h4 hr hgr, hcl2⟩)
      | none =>
        rw [hpt] at hg
        dsimp only at hg
        exact hg (fun v W' hbb hr => hK _ _ ⟨hJ.other hbb (by omega) hr hbx hpt, hcl2⟩)
  · rintro vs W ⟨hJ, _⟩
    rw [hlen] at hJ
    exact hend vs W hJ
end
end Go.Proofs.Ytlemipnplgbckaa
