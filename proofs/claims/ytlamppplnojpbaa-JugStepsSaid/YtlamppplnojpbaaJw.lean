import Derived.Test.YtlamppplnojpbaaJv
import Derived.Laws.AppendOwn
import Derived.ChangeKeysEq
import Derived.Maps.OwnIn
import Derived.Maps.AppendAt
import Derived.RangeFuncNested
import Derived.RangeFuncBound
import Derived.RangeFuncCalls
import Derived.RangeFuncLeaves
import Derived.Shelf.Abstract
import Derived.Shelf.RegionOpen
import Derived.WalkKit
import Derived.WalkMore
import Derived.OwnWalkIn
import Derived.TacticsInMore
import Derived.LoopNIn
import Derived.LoopIn
import Derived.WalkSpells
import Derived.WalkLawsBesides
import Derived.BigQuiet
import Derived.Deep.QuietTactic
import Derived.Lib.Hide
import Derived.Deep.RegionHeld3
import Derived.StillTailTactics
import Derived.Deep.LoopGhost
import Derived.Maps.OwnSet
import Derived.Lib.IndexAny
import Derived.Sort.QuietThIn
import Derived.Sort.QuietTacIn
import Derived.Sort.BigQuietIn
namespace Go.Proofs.Ytlamppplnojpbaa
open Go.RowKit Go.Shelf
attribute [local go_sem] Oper.semAt_some
section
variable {P : Program} {Q : Exit → Act → World → Prop}
/-- each operation of a region puts a value of its kind, whatever has come up besides what it waits for -/
def relSteps (P : Program) (Q : Exit → Act → World → Prop) (ops : Array Oper) (a : Act) (slots : List Nat) (R : List (Value → World → Prop)) (w₀ : World) (len : Nat) : List Oper → Nat → Prop
  | [], _ => True
  | o :: rest, i => (∀ (vs : List Value) (w : World) (K : Act → World → Prop), Below w₀.heap.size w₀ w → vs.length = len → (∀ e ∈ o.after, Region.binds .any e = true → ∃ v, vs[e.on]? = some v ∧ (R.getD e.on (fun _ _ => True)) v w) →
      (∀ v' w', Below w.heap.size w w' → (R.getD i (fun _ _ => True)) v' w' → K (putAll a slots (vs.set i v')) w') → wpList P ops (Exit.then K Q) [o] (putAll a slots vs) w) ∧ relSteps P Q ops a slots R w₀ len rest (i + 1)
theorem relSteps_get {ops : Array Oper} {a : Act} {slots : List Nat} {R : List (Value → World → Prop)} {w₀ : World} {len : Nat} : ∀ {l : List Oper} {k i : Nat} {o : Oper}, relSteps P Q ops a slots R w₀ len l k → l[i]? = some o →
    ∀ (vs : List Value) (w : World) (K : Act → World → Prop), Below w₀.heap.size w₀ w → vs.length = len → (∀ e ∈ o.after, Region.binds .any e = true → ∃ v, vs[e.on]? = some v ∧ (R.getD e.on (fun _ _ => True)) v w) →
      (∀ v' w', Below w.heap.size w w' → (R.getD (k + i) (fun _ _ => True)) v' w' → K (putAll a slots (vs.set (k + i) v')) w') → wpList P ops (Exit.then K Q) [o] (putAll a slots vs) w
  | [], _, _, _, _, h => by simp at h
  | o :: rest, k, 0, o', hd, h => by
    simp at h; subst h
    exact hd.1
  | o :: rest, k, i + 1, o', hd, h => by
    have := relSteps_get (l := rest) (k := k + 1) (i := i) hd.2 (by simpa using h)
    rw [show k + 1 + i = k + (i + 1) by omega] at this
    exact this
theorem wp_region_rel {id : Nat} {a : Act} {w : World} {l : List Oper} (hm : P.follows .mixedOrders = true) (hd : waitsC l = true) (slots : List Nat) (R : List (Value → World → Prop)) (len : Nat) (hlen : l.length = len)
    (hstab : ∀ r ∈ R, ∀ (v : Value) (W W' : World), r v W → Below W.heap.size W W' → r v W')
    (h0 : ∃ vs, a = putAll a slots vs ∧ vs.length = len)
    (hsteps : relSteps P Q l.toArray a slots R w len l 0)
    (hend : ∀ vs W, Below w.heap.size w W → vs.length = len → (∀ i, i < len → ∃ v, vs[i]? = some v ∧ (R.getD i (fun _ _ => True)) v W) → Q .normal (putAll a slots vs) W) : (Code.region id l.toArray true).wp P Q a w := by
  obtain ⟨vs0, e0, el0⟩ := h0
  have hst : ∀ i v W W', (R.getD i (fun _ _ => True)) v W → Below W.heap.size W W' → (R.getD i (fun _ _ => True)) v W' := fun i v W W' h hb => by
    by_cases hi : i < R.length
    · rw [List.getD_eq_getElem?_getD, List.getElem?_eq_getElem hi] at h ⊢
      exact hstab _ (List.getElem_mem hi) v W W' h hb
    · rw [List.getD_eq_getElem?_getD, List.getElem?_eq_none (by omega)] at h ⊢
      exact trivial
  refine wp_region_slots2 hm hd slots (fun (bs : List Bool) (vs : List Value) W => Below w.heap.size w W ∧ vs.length = len ∧ ∀ i : Nat, bs[i]? = some true → ∃ v, vs[i]? = some v ∧ (R.getD i (fun _ _ => True)) v W) ⟨vs0, e0, (Below.refl _ _).drew, el0, fun i hi => ?_⟩ ?_ ?_
  · rw [List.getElem?_replicate] at hi
    split at hi <;> simp at hi
  · rintro i o bs vs W K ho ⟨hc, hl, hv⟩ hbl hb hw hK
    refine wpOp_of_list (by simpa using ho) ?_
    refine relSteps_get hsteps ho vs W K hc hl (fun e he hbe => ?_) (fun v' W' hbb hr => hK _ _ ⟨Below.andThen hc hbb (Nat.le_refl _), by rw [List.length_set]; exact hl, fun j hj => ?_⟩)
    · have h := hw e he hbe
      rw [List.getD_eq_getElem?_getD] at h
      refine hv _ ?_
      cases h2 : bs[e.on]? with
      | none => rw [h2] at h; simp at h
      | some b => rw [h2] at h; simp at h; rw [h]
    · by_cases hij : i = j
      · subst hij
        have hlt : i < l.length := (List.getElem?_eq_some_iff.1 ho).1
        refine ⟨v', ?_, by simpa using hr⟩
        rw [Nat.zero_add, List.getElem?_set_self (by omega)]
      · rw [List.getElem?_set_ne hij] at hj
        obtain ⟨v, h1, h2⟩ := hv j hj
        exact ⟨v, by rw [Nat.zero_add, List.getElem?_set_ne hij]; exact h1, hst _ _ _ _ h2 hbb⟩
  · rintro vs W ⟨hc, hl, hv⟩
    exact hend vs W hc hl (fun i hi => hv i (by rw [List.getElem?_replicate, if_pos (by omega)]))
end
theorem len_cons {vs : List Value} {n : Nat} (h : vs.length = n + 1) : ∃ x r, vs = x :: r ∧ r.length = n := by
  cases vs with
  | nil => simp at h
  | cons x r => exact ⟨x, r, rfl, by simpa using h⟩
def LitR (x : Value) : Value → World → Prop := fun v _ => v = x
theorem LitR.stab (x : Value) : ∀ (v : Value) (W W' : World), LitR x v W → Below W.heap.size W W' → LitR x v W' := fun _ _ _ h _ => h
theorem rel_get {vs : List Value} {n : Nat} {R : Value → World → Prop} {W : World} (h : ∃ v, vs[n]? = some v ∧ R v W) {x : Value} (hx : vs[n]? = some x) : R x W := by
  obtain ⟨v, h1, h2⟩ := h
  rw [hx] at h1
  cases h1
  exact h2
/-! what the calls hand on -/
def StepsV (n p0 p1 p2 p3 ls : Int) : Value → World → Prop := fun v W => ∃ bl bj, v = .func (.func 70) #[] #[.pointer (some ⟨bl, 0, none⟩), .pointer (some ⟨bj, 0, none⟩)] ∧ Row W bl 3 [.int .i64 ls] ∧ Row W bj 80 [.int .i64 n, .int .i64 p0, .int .i64 p1, .int .i64 p2, .int .i64 p3]
theorem StepsV.stab (n p0 p1 p2 p3 ls : Int) : ∀ (v : Value) (W W' : World), StepsV n p0 p1 p2 p3 ls v W → Below W.heap.size W W' → StepsV n p0 p1 p2 p3 ls v W' := fun _ _ _ ⟨bl, bj, h1, h2, h3⟩ hb => ⟨bl, bj, h1, h2.below hb h2.lt, h3.below hb h3.lt⟩
def foundV (b : Nat) (res : Sn × Option (List Int)) : Value := .agg #[.map (some b), .int .i64 ((res.2.getD [0, 0, 0, 0]).getD 0 0), .int .i64 ((res.2.getD [0, 0, 0, 0]).getD 1 0), .int .i64 ((res.2.getD [0, 0, 0, 0]).getD 2 0), .int .i64 ((res.2.getD [0, 0, 0, 0]).getD 3 0), .bool res.2.isSome]
def FoundV (res : Sn × Option (List Int)) : Value → World → Prop := fun v W => ∃ b, v = foundV b res ∧ SeenAt W b res.1.length (seenV res.1)
theorem FoundV.stab (res : Sn × Option (List Int)) : ∀ (v : Value) (W W' : World), FoundV res v W → Below W.heap.size W W' → FoundV res v W' := fun _ _ _ ⟨b, h1, h2⟩ hb => ⟨b, h1, h2.grow hb⟩
def MapV (A : Sn) : Value → World → Prop := fun v W => ∃ b, v = .map (some b) ∧ SeenAt W b A.length (seenV A)
theorem MapV.stab (A : Sn) : ∀ (v : Value) (W W' : World), MapV A v W → Below W.heap.size W W' → MapV A v W' := fun _ _ _ ⟨b, h1, h2⟩ hb => ⟨b, h1, h2.grow hb⟩
def WayV (N : Nat) (ps : List Pt) (ok : Bool) : Value → World → Prop := fun v W => ∃ s, v = .tuple #[s, .bool ok] ∧ OwnP W N s ps
theorem WayV.stab (N : Nat) (ps : List Pt) (ok : Bool) : ∀ (v : Value) (W W' : World), WayV N ps ok v W → Below W.heap.size W W' → WayV N ps ok v W' := fun _ _ _ ⟨s, h1, h2⟩ hb => ⟨s, h1, own_grow h2 hb⟩
def LstV (N : Nat) (ps : List Pt) : Value → World → Prop := fun v W => OwnP W N v ps
theorem LstV.stab (N : Nat) (ps : List Pt) : ∀ (v : Value) (W W' : World), LstV N ps v W → Below W.heap.size W W' → LstV N ps v W' := fun _ _ _ h hb => own_grow h hb
/-- the way that a search found -/
def wayF (res : Sn × Option (List Int)) : List Pt := match res.2 with
  | some g => (trc ((cmOf res.1 g).k.toNat) res.1 (cmOf res.1 g)).reverse
  | none => []
theorem TreeA.nodup {P : List Int} {ss : List (Int × Int)} {S : List Int} : ∀ {A : Sn}, TreeA P ss S A → (A.map Prod.fst).Nodup
  | [], _ => List.nodup_nil
  | p :: r, h => by
    obtain ⟨h1, h2, _⟩ := h
    rw [List.map_cons]
    exact List.nodup_cons.2 ⟨lookA_none r p.1 h2, TreeA.nodup h1⟩
theorem TreeA.fits {P : List Int} {ss : List (Int × Int)} {S : List Int} : ∀ {A : Sn}, TreeA P ss S A → ∀ p ∈ A, FitP P p.1
  | [], _, p, h => by cases h
  | p :: r, h, q, hq => by
    obtain ⟨h1, _, h3, _⟩ := h
    rcases List.mem_cons.1 hq with rfl | hq
    · exact h3
    · exact TreeA.fits h1 q hq
theorem TreeA.size {P : List Int} {ss : List (Int × Int)} {S : List Int} {A : Sn} (h : TreeA P ss S A) : A.length ≤ 28561 := keys_le h.fits h.nodup
/-- the way that was found, by the program -/
theorem found_any {P : List Int} {ss : List (Int × Int)} {S : List Int} (res : Sn × Option (List Int)) (ht : TreeA P ss S res.1) (hf : ∀ g, res.2 = some g → (lookA res.1 g).isSome = true) (b : Nat) (w : World) (hs : SeenAt w b res.1.length (seenV res.1)) :
    Calls Try.prog 59 #[foundV b res] w fun e w' => ∃ v, e = .returned v ∧ WayV w.heap.size (wayF res) res.2.isSome v w' ∧ Below w.heap.size w w' := by
  unfold foundV
  cases hr : res.2 with
  | none =>
    refine (foundway_any b res.1 0 0 0 0 false ⟨rfl, fun i hi => by match i, hi with | 0, _ | 1, _ | 2, _ | 3, _ => exact ⟨by decide, by decide⟩⟩ 0 (by omega) (fun h => by cases h) w hs).mono ?_
    rintro e w' ⟨v, rfl, h1, h2⟩
    refine ⟨_, rfl, ⟨v, rfl, ?_⟩, h2⟩
    unfold wayF
    rw [hr]
    exact h1
  | some g =>
    obtain ⟨c, hc⟩ := Option.isSome_iff_exists.1 (hf g hr)
    have hfit := ht.fit hc
    obtain ⟨g0, g1, g2, g3, rfl⟩ := agg4 g hfit.1.1
    have hcm : cmOf res.1 [g0, g1, g2, g3] = c := by unfold cmOf; rw [hc]; rfl
    have hk := ht.knn hc
    have hsz := ht.size
    refine (foundway_any b res.1 g0 g1 g2 g3 true hfit.1.fok c.k.toNat (by omega) (fun _ => by rw [hcm]; exact ht.good _ hc (by omega)) w hs).mono ?_
    rintro e w' ⟨v, rfl, h1, h2⟩
    refine ⟨_, rfl, ⟨v, rfl, ?_⟩, h2⟩
    unfold wayF
    rw [hr]
    dsimp only
    rw [if_pos rfl] at h1
    rw [hcm] at h1 ⊢
    exact h1
end Go.Proofs.Ytlamppplnojpbaa
