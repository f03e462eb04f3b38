import Derived.Test.YtlemipnplgbckaaSK
import Derived.Laws.AppendOwn
import Derived.ChangeKeysEq
import Derived.Maps.RangeWalk
import Derived.Maps.OwnIn
import Derived.Maps.AppendAt
import Derived.RangeFuncNested
import Derived.RangeFuncBound
import Derived.RangeFuncCalls
import Derived.RangeFuncLeaves
import Derived.Shelf.Abstract
import Derived.Shelf.RegionOpen
import Derived.WalkKit
import Derived.WalkMore
import Derived.OwnWalkIn
import Derived.TacticsInMore
import Derived.LoopNIn
import Derived.LoopIn
import Derived.WalkSpells
import Derived.WalkLawsBesides
import Derived.BigQuiet
import Derived.Deep.QuietTactic
import Derived.Lib.Hide
import Derived.Deep.RegionHeld3
import Derived.StillTailTactics
import Derived.Deep.LoopGhost
import Derived.Maps.OwnSet
import Derived.Lib.IndexAny
import Derived.Sort.QuietThIn
import Derived.Sort.QuietTacIn
import Derived.Sort.BigQuietIn
import Derived.Laws.OwnMore
import Derived.DeepKeys4
import Derived.Maps.Views
import Derived.Maps.OwnOps
import Derived.Deep.DeepCutAuto
import Derived.Shelf.Bits.Mul64
import Derived.Shelf.LaysM
namespace Go.Proofs.Ytlemipnplgbckaa
open Go.RowKit Go.Shelf
attribute [local go_sem] Oper.semAt_some
/-- does operation z wait for all the others? -/
def zB (l : List Oper) (z : Nat) : Bool := (List.range l.length).all fun k => decide (k = z) || onB l z k
section
variable {P : Program} {Q : Exit → Act → World → Prop}
def boxStepsZ (P : Program) (Q : Exit → Act → World → Prop) (ops : Array Oper) (a : Act) (slots : List Nat) (R : List (Value → Prop)) (bx : Bxs) (pt : List (Option Nat)) (w₀ : World) (len z : Nat) (v0 : Value) : List Oper → Nat → Prop
  | [], _ => True
  | o :: rest, i => (∀ (vs : List Value) (W : World) (K : Act → World → Prop), Below w₀.heap.size w₀ W → vs.length = len → (i ≠ z → vs[z]? = some v0) →
      (∀ e ∈ o.after, Region.binds .any e = true → ∃ v, vs[e.on]? = some v ∧ (R.getD e.on (fun _ => True)) v) →
      (match bx.getD i none, pt.getD i none with
       | some (E, z, _), _ => K (putAll a slots (vs.set i (.pointer (some ⟨W.heap.size, 0, none⟩)))) (W.alloc (.cells z.toArray E)) → wpList P ops (Exit.then K Q) [o] (putAll a slots vs) W
       | none, some ia => ∀ b E z f, bx.getD ia none = some (E, z, f) → vs[ia]? = some (.pointer (some ⟨b, 0, none⟩)) → w₀.heap.size ≤ b → Row W b E z → (∀ W', Row W' b E f → W.grownBy W' (some b) → K (putAll a slots (vs.set i undef)) W') → wpList P ops (Exit.then K Q) [o] (putAll a slots vs) W
       | none, none => (∀ v W', Below W.heap.size W W' → (R.getD i (fun _ => True)) v → K (putAll a slots (vs.set i v)) W') → wpList P ops (Exit.then K Q) [o] (putAll a slots vs) W)) ∧ boxStepsZ P Q ops a slots R bx pt w₀ len z v0 rest (i + 1)
theorem boxStepsZ_get {ops : Array Oper} {a : Act} {slots : List Nat} {R : List (Value → Prop)} {bx : Bxs} {pt : List (Option Nat)} {w₀ : World} {len z : Nat} {v0 : Value} : ∀ {l : List Oper} {k i : Nat} {o : Oper}, boxStepsZ P Q ops a slots R bx pt w₀ len z v0 l k → l[i]? = some o →
    ∀ (vs : List Value) (W : World) (K : Act → World → Prop), Below w₀.heap.size w₀ W → vs.length = len → (k + i ≠ z → vs[z]? = some v0) →
      (∀ e ∈ o.after, Region.binds .any e = true → ∃ v, vs[e.on]? = some v ∧ (R.getD e.on (fun _ => True)) v) →
      (match bx.getD (k + i) none, pt.getD (k + i) none with
       | some (E, z, _), _ => K (putAll a slots (vs.set (k + i) (.pointer (some ⟨W.heap.size, 0, none⟩)))) (W.alloc (.cells z.toArray E)) → wpList P ops (Exit.then K Q) [o] (putAll a slots vs) W
       | none, some ia => ∀ b E z f, bx.getD ia none = some (E, z, f) → vs[ia]? = some (.pointer (some ⟨b, 0, none⟩)) → w₀.heap.size ≤ b → Row W b E z → (∀ W', Row W' b E f → W.grownBy W' (some b) → K (putAll a slots (vs.set (k + i) undef)) W') → wpList P ops (Exit.then K Q) [o] (putAll a slots vs) W
       | none, none => (∀ v W', Below W.heap.size W W' → (R.getD (k + i) (fun _ => True)) v → K (putAll a slots (vs.set (k + i) v)) W') → wpList P ops (Exit.then K Q) [o] (putAll a slots vs) W)
  | [], _, _, _, _, h => by simp at h
  | o :: rest, k, 0, o', hd, h => by
    simp at h; subst h
    exact hd.1
  | o :: rest, k, i + 1, o', hd, h => by
    have := boxStepsZ_get (l := rest) (k := k + 1) (i := i) hd.2 (by simpa using h)
    rw [show k + 1 + i = k + (i + 1) by omega] at this
    exact this
theorem wp_region_boxz {id : Nat} {a : Act} {w : World} {l : List Oper} (hm : P.follows .mixedOrders = true) (hd : waitsC l = true) (slots : List Nat) (R : List (Value → Prop)) (bx : Bxs) (pt : List (Option Nat)) (len : Nat) (hlen : l.length = len) (hok : boxOk l bx pt = true) (z : Nat) (v0 : Value) (hz : zB l z = true)
    (htr : ∀ i v, (bx.getD i none).isSome = true ∨ (pt.getD i none).isSome = true → (R.getD i (fun _ => True)) v)
    (h0 : ∃ vs, a = putAll a slots vs ∧ vs.length = len ∧ vs[z]? = some v0)
    (hsteps : boxStepsZ P Q l.toArray a slots R bx pt w len z v0 l 0)
    (hend : ∀ vs W, BoxJ R bx pt w len (List.replicate len true) vs W → Q .normal (putAll a slots vs) W) : (Code.region id l.toArray true).wp P Q a w := by
  obtain ⟨vs0, e0, el0, ez0⟩ := h0
  unfold boxOk at hok
  simp only [Bool.and_eq_true, decide_eq_true_eq] at hok
  obtain ⟨⟨hp, hpl⟩, hall⟩ := hok
  refine wp_region_slots2 hm hd slots (fun bs vs W => BoxJ R bx pt w len bs vs W ∧ closedB l bs ∧ (bs[z]? = some false → vs[z]? = some v0)) ⟨vs0, e0, ⟨(Below.refl _ _).drew, el0, by rw [List.length_replicate]; exact hlen, fun i hi => ?_, fun i E z f _ hi => ?_, fun i j b _ _ hi => ?_⟩, fun j o _ hb => ?_, fun _ => ez0⟩ ?_ ?_
  · rw [List.getElem?_replicate] at hi; split at hi <;> simp at hi
  · rw [List.getElem?_replicate] at hi; split at hi <;> simp at hi
  · rw [List.getElem?_replicate] at hi; split at hi <;> simp at hi
  · rw [List.getElem?_replicate] at hb; split at hb <;> simp at hb
  · rintro i o bs vs W K ho ⟨hJ, hcl, hkp⟩ hbl hb hw hK
    have hlt : i < l.length := (List.getElem?_eq_some_iff.1 ho).1
    have hw2 : ∀ e ∈ o.after, Region.binds .any e = true → bs[e.on]? = some true := fun e he hbe => by
      have h := hw e he hbe
      rw [List.getD_eq_getElem?_getD] at h
      cases h2 : bs[e.on]? with
      | none => rw [h2] at h; simp at h
      | some b => rw [h2] at h; simp at h; rw [h]
    have hcl2 : closedB l (bs.set i true) := fun j o' ho' hb' e he hbe => by
      by_cases ej : i = j
      · subst ej
        rw [ho] at ho'; cases ho'
        by_cases ek : i = e.on
        · rw [← ek, List.getElem?_set_self (by rw [hbl]; exact hlt)]
        · rw [List.getElem?_set_ne ek]; exact hw2 e he hbe
      · rw [List.getElem?_set_ne ej] at hb'
        have := hcl j o' ho' hb' e he hbe
        by_cases ek : i = e.on
        · rw [← ek, List.getElem?_set_self (by rw [hbl]; exact hlt)]
        · rw [List.getElem?_set_ne ek]; exact this
    have hzi : i ≠ z → bs[z]? = some false := fun hne => by
      have h1 := List.all_eq_true.1 hz i (List.mem_range.2 hlt)
      simp only [Bool.or_eq_true, decide_eq_true_eq] at h1
      rcases h1 with h1 | h1
      · exact absurd h1 hne
      · cases hoz : l[z]? with
        | none => unfold onB at h1; rw [hoz] at h1; cases h1
        | some oz =>
          obtain ⟨e, he, hbe, hon⟩ := onB_spec h1 hoz
          have hzl : z < bs.length := by rw [hbl]; exact (List.getElem?_eq_some_iff.1 hoz).1
          cases hbz : bs[z] with
          | false => rw [List.getElem?_eq_getElem hzl, hbz]
          | true =>
            have := hcl z oz hoz (by rw [List.getElem?_eq_getElem hzl, hbz]) e he hbe
            rw [hon, hb] at this; cases this
    have hkn : ∀ v : Value, (bs.set i true)[z]? = some false → (vs.set i v)[z]? = some v0 := fun v h => by
      by_cases e : i = z
      · subst e
        by_cases hil : i < bs.length
        · rw [List.getElem?_set_self hil] at h; cases h
        · rw [List.getElem?_eq_none (by rw [List.length_set]; omega)] at h; cases h
      · rw [List.getElem?_set_ne e] at h ⊢
        exact hkp h
    refine wpOp_of_list (by simpa using ho) ?_
    have hg := boxStepsZ_get hsteps ho vs W K hJ.bl hJ.ln (fun h => hkp (hzi (by omega))) (fun e he hbe => hJ.val _ (hw2 e he hbe))
    rw [Nat.zero_add] at hg
    have hai := List.all_eq_true.1 hall i (List.mem_range.2 hlt)
    cases hbx : bx.getD i none with
    | some x =>
      obtain ⟨E, z, f⟩ := x
      rw [hbx] at hg hai
      cases hpt : pt.getD i none with
      | some ia => rw [hpt] at hai; cases hai
      | none =>
        dsimp only at hg
        refine hg (hK _ _ ⟨hJ.made (by omega) hbx (fun v => htr i v (.inl (by rw [hbx]; rfl))) hpt ?_, hcl2, hkn _⟩)
        cases hst : stB pt bs i with
        | false => rfl
        | true =>
          exfalso
          unfold stB at hst
          rw [List.any_eq_true] at hst
          obtain ⟨s, hs, hh⟩ := hst
          simp only [Bool.and_eq_true, decide_eq_true_eq] at hh
          have hsl : s < l.length := by have := List.mem_range.1 hs; omega
          have has := List.all_eq_true.1 hall s (List.mem_range.2 hsl)
          have hps : pt.getD s none = some i := by rw [List.getD_eq_getElem?_getD, hh.1]; rfl
          rw [hps] at has
          cases hbs : bx.getD s none with
          | some y => rw [hbs] at has; cases has
          | none =>
            rw [hbs] at has
            simp only [Bool.and_eq_true] at has
            have h1 := has.1
            rw [List.getElem?_eq_getElem hsl] at h1
            simp only [Option.map_some, Option.getD_some, Array.any_eq_true'] at h1
            obtain ⟨e, he, h2⟩ := h1
            simp only [Bool.and_eq_true, decide_eq_true_eq] at h2
            have := hcl s l[s] (List.getElem?_eq_getElem hsl) hh.2 e he h2.2
            rw [h2.1, hb] at this
            cases this
    | none =>
      rw [hbx] at hg hai
      cases hpt : pt.getD i none with
      | some ia =>
        rw [hpt] at hg hai
        dsimp only at hg
        simp only [Bool.and_eq_true] at hai
        have h1 := hai.1
        rw [ho] at h1
        simp only [Option.map_some, Option.getD_some, Array.any_eq_true'] at h1
        obtain ⟨e, he, h2⟩ := h1
        simp only [Bool.and_eq_true, decide_eq_true_eq] at h2
        have hba := hw2 e he h2.2
        rw [h2.1] at hba
        have hpi : pt[i]? = some (some ia) := by
          rw [List.getD_eq_getElem?_getD] at hpt
          cases h3 : pt[i]? with
          | none => rw [h3] at hpt; cases hpt
          | some x => rw [h3] at hpt; simp at hpt; rw [hpt]
        have hwait := stB_wait (pt := pt) (bs := bs) (i := ia) (k := i) (fun s hs => ptOk_eq hp hs hpi) hb
        cases hia : bx.getD ia none with
        | none =>
          -- a store into what is no box of this region: excluded by its shape
          have h9 := hai.2
          rw [hia] at h9; cases h9
        | some x =>
          obtain ⟨E, z, f⟩ := x
          obtain ⟨b, h3, h4, h5⟩ := hJ.box ia E z f hia hba
          rw [hwait] at h5
          exact hg b E z f hia h3 h4 (by simpa using h5) (fun W' hr hgr => hK _ _ ⟨hJ.filled (by omega) hbx hpt (fun v => htr i v (.inr (by rw [hpt]; rfl))) hia hba h3 h4 hr hgr, hcl2, hkn _⟩)
      | none =>
        rw [hpt] at hg
        dsimp only at hg
        exact hg (fun v W' hbb hr => hK _ _ ⟨hJ.other hbb (by omega) hr hbx hpt, hcl2, hkn _⟩)
  · rintro vs W ⟨hJ, _, _⟩
    rw [hlen] at hJ
    exact hend vs W hJ
end
end Go.Proofs.Ytlemipnplgbckaa
