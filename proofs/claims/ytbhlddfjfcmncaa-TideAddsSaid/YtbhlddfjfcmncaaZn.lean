import Derived.Test.YtbhlddfjfcmncaaZh
import Derived.Test.YtbhlddfjfcmncaaYc
import Derived.Maps.OwnIn
import Derived.Maps.OwnSet
import Derived.RangeFuncNested
import Derived.RangeFuncBound
import Derived.RangeFuncCalls
import Derived.RangeFuncLeaves
import Derived.Shelf.Abstract
import Derived.Shelf.RegionOpen
import Derived.WalkKit
import Derived.OwnWalkIn
import Derived.TacticsInMore
import Derived.LoopNIn
import Derived.LoopIn
import Derived.WalkSpells
import Derived.WalkLawsBesides
import Derived.BigQuiet
import Derived.Deep.QuietTactic
import Derived.Lib.Hide
import Derived.Deep.RegionHeld3
import Derived.StillTailTactics
import Derived.Lib.MakeNoZero
import Derived.Laws.CopyOwn
import Derived.Deep.RegionLaw
import Derived.Deep.LoopGhost
import Derived.Deep.CutBlock
import Derived.Deep.DeepCutAuto
import Derived.Lib.IndexAny
namespace Go.Proofs.Ytbhlddfjfcmncaa
open Go.RowKit Go.Shelf
attribute [local go_sem] Oper.semAt_some
section
variable {P : Program} {Q : Exit → Act → World → Prop}
theorem upon_then {o : Oper} {a : Act} {next K : Act → World → Prop} (r : Result Next) : o.upon P a next (Exit.then K Q) r = o.upon P a next Q r := by
  cases r with
  | ok n w => cases n <;> rfl
  | halt h w => cases h <;> rfl
theorem wpOp_of_list {ops : Array Oper} {i : Nat} {o : Oper} {K : Act → World → Prop} {a : Act} {w : World} (ho : ops[i]? = some o) (h : wpList P ops (Exit.then K Q) [o] a w) : wpOp P ops Q i K a w := by
  unfold wpOp
  simp only [ho]
  unfold wpList at h
  split
  · rename_i hw
    rw [if_pos hw] at h
    rcases h with h | h
    · left; unfold Oper.wp at h ⊢; rw [upon_then] at h; exact h
    · right; exact h
  · rename_i hw
    rw [if_neg hw] at h; exact h
theorem filter_set : ∀ (bs : List Bool) (j : Nat), bs[j]? = some false → ((bs.set j true).filter (! ·)).length + 1 = (bs.filter (! ·)).length
  | [], j, h => by simp at h
  | b :: bs, 0, h => by simp at h; subst h; simp
  | b :: bs, j + 1, h => by
    have := filter_set bs j (by simpa using h)
    cases b <;> simp at this ⊢ <;> omega
/-- each operation waits for earlier ones alone -/
def waitsB (l : List Oper) : Bool := (List.range l.length).all fun i => ((l[i]?).map fun o => o.after.all fun e => decide (e.on < i)).getD true
/-- a region whose order is open, by an invariant over what has come up -/
theorem wp_region_inv {id : Nat} {a : Act} {w : World} {l : List Oper} (hm : P.follows .mixedOrders = true) (hd : waitsB l = true) (I : List Bool → Act → World → Prop) (h0 : I (List.replicate l.length false) a w.drew)
    (hstep : ∀ (i : Nat) (o : Oper) (bs : List Bool) (a : Act) (w : World), l[i]? = some o → I bs a w → bs.length = l.length → bs[i]? = some false → (∀ e ∈ o.after, Region.binds .any e = true → bs.getD e.on false = true) →
      wpOp P l.toArray Q i (fun a' w' => I (bs.set i true) a' w') a w)
    (hend : ∀ a w, I (List.replicate l.length true) a w → Q .normal a w) : (Code.region id l.toArray true).wp P Q a w := by
  refine wp_region_any hm ?_
  have key : ∀ (fuel : Nat) (bs : List Bool) (a : Act) (w : World), bs.length = l.length → (bs.filter (! ·)).length ≤ fuel → I bs a w → wpAny P .any l.toArray Q fuel bs.toArray a w := by
    intro fuel
    induction fuel with
    | zero =>
      intro bs a w hl hf hI
      have hall : bs = List.replicate l.length true := by
        rw [List.eq_replicate_iff]
        refine ⟨hl, fun b hb => ?_⟩
        cases b with
        | true => rfl
        | false =>
          have : false ∈ bs.filter (! ·) := List.mem_filter.2 ⟨hb, rfl⟩
          have := List.length_pos_of_mem this; omega
      subst hall
      refine ⟨?_, hend a w hI⟩
      cases hr : Region.ready .any l.toArray (List.replicate l.length true).toArray with
      | nil => rfl
      | cons j js =>
        have hj : j ∈ Region.ready .any l.toArray (List.replicate l.length true).toArray := by rw [hr]; exact List.mem_cons_self
        obtain ⟨h1, o, h2, _⟩ := mem_ready.1 hj
        have hlt : j < l.length := by have := (List.getElem?_eq_some_iff.1 (by simpa using h2 : l[j]? = some o)).1; exact this
        simp [Array.getD, hlt] at h1
    | succ fuel ih =>
      intro bs a w hl hf hI
      have hset : ∀ (i : Nat), (bs.toArray.setIfInBounds i true) = (bs.set i true).toArray := fun i => by simp
      by_cases hall : bs = List.replicate l.length true
      · subst hall
        refine ⟨fun _ => hend a w hI, fun j hj => ?_⟩
        obtain ⟨h1, o, h2, _⟩ := mem_ready.1 hj
        have hlt : j < l.length := by have := (List.getElem?_eq_some_iff.1 (by simpa using h2 : l[j]? = some o)).1; exact this
        simp [Array.getD, hlt] at h1
      · refine ⟨fun hr => ?_, fun j hj => ?_⟩
        · exfalso
          have hex : ∃ b ∈ bs, (!b) = true := by
            false_or_by_contra
            rename_i hno
            refine hall (List.eq_replicate_iff.2 ⟨hl, fun b hb => ?_⟩)
            cases b with
            | true => rfl
            | false => exact absurd ⟨false, hb, rfl⟩ hno
          have hlt : bs.findIdx (! ·) < bs.length := List.findIdx_lt_length.2 hex
          have hf0 : bs[bs.findIdx (! ·)] = false := by have := List.findIdx_getElem (w := hlt); simpa using this
          have hlt2 : bs.findIdx (! ·) < l.length := by omega
          have hmem : bs.findIdx (! ·) ∈ Region.ready .any l.toArray bs.toArray := by
            refine mem_ready.2 ⟨by simp [Array.getD, hlt, hf0], l[bs.findIdx (! ·)], by simp [hlt2], fun e he _ => ?_⟩
            unfold waitsB at hd
            rw [List.all_eq_true] at hd
            have h1 := hd _ (List.mem_range.2 hlt2)
            rw [List.getElem?_eq_getElem hlt2] at h1
            simp only [Option.map_some, Option.getD_some] at h1
            have h2 := (Array.all_eq_true'.1 h1) e he
            have h3 := of_decide_eq_true h2
            have h4 : e.on < bs.length := by omega
            have h5 := List.not_of_lt_findIdx h3
            simp [Array.getD, h4]
            simpa using h5
          rw [hr] at hmem; cases hmem
        · obtain ⟨h1, o, h2, h3⟩ := mem_ready.1 hj
          have h2' : l[j]? = some o := by simpa using h2
          have hlt : j < l.length := (List.getElem?_eq_some_iff.1 h2').1
          have hb : bs[j]? = some false := by
            rw [List.getElem?_eq_getElem (by omega)]
            simp [Array.getD, show j < bs.length by omega] at h1
            rw [h1]
          refine wpOp_mono (fun a' w' h => ?_) (hstep j o bs a w h2' hI hl hb (fun e he hb => by have := h3 e he hb; rw [List.getD_eq_getElem?_getD]; simp only [Array.getD, List.size_toArray] at this; split at this <;> simp_all))
          rw [hset]
          have := filter_set bs j hb
          exact ih _ _ _ (by simpa using hl) (by omega) h
  have := key l.length (List.replicate l.length false) a w.drew (by simp) (by simp) h0
  simpa using this
/-- slots that have been written -/
def putAll (a : Act) : List Nat → List Value → Act
  | s :: ss, v :: vs => putAll (a.put (some s) v) ss vs
  | _, _ => a
/-- the same, with the slots that the region writes told apart -/
theorem wp_region_slots {id : Nat} {a : Act} {w : World} {l : List Oper} (hm : P.follows .mixedOrders = true) (hd : waitsB l = true) (slots : List Nat) (J : List Bool → List Value → World → Prop)
    (h0 : ∃ vs, a = putAll a slots vs ∧ J (List.replicate l.length false) vs w.drew)
    (hstep : ∀ (i : Nat) (o : Oper) (bs : List Bool) (vs : List Value) (w : World) (K : Act → World → Prop), l[i]? = some o → J bs vs w → bs.length = l.length → bs[i]? = some false → (∀ e ∈ o.after, Region.binds .any e = true → bs.getD e.on false = true) →
      (∀ vs' w', J (bs.set i true) vs' w' → K (putAll a slots vs') w') → wpOp P l.toArray Q i K (putAll a slots vs) w)
    (hend : ∀ vs w, J (List.replicate l.length true) vs w → Q .normal (putAll a slots vs) w) : (Code.region id l.toArray true).wp P Q a w := by
  refine wp_region_inv hm hd (fun bs a' w' => ∃ vs, a' = putAll a slots vs ∧ J bs vs w') h0 ?_ ?_
  · rintro i o bs a' w' ho ⟨vs, rfl, hJ⟩ hl hb hw
    exact hstep i o bs vs w' _ ho hJ hl hb hw (fun vs' w'' h => ⟨vs', rfl, h⟩)
  · rintro a' w' ⟨vs, rfl, hJ⟩
    exact hend vs w' hJ
end
def sZ : ByteArray := { data := #[] }
/-- a struct of two strings in a block of its own -/
def Own2 (W : World) (B b : Nat) (x y : ByteArray) : Prop := B ≤ b ∧ b < W.heap.size ∧ W.cell? ⟨b, 0, none⟩ = some (.string x) ∧ W.cell? ⟨b, 1, none⟩ = some (.string y) ∧ W.frozen? ⟨b, 0, none⟩ = false ∧ W.frozen? ⟨b, 1, none⟩ = false
theorem Own2.below {W W' : World} {B b : Nat} {x y : ByteArray} (h : Own2 W B b x y) (hb : Below W.heap.size W W') : Own2 W' B b x y := by
  obtain ⟨h1, h2, h3, h4, h5, h6⟩ := h
  exact ⟨h1, Nat.lt_of_lt_of_le h2 hb.size, below_at hb h2 h3, below_at hb h2 h4, (hb.frozen (p := ⟨b, 0, none⟩) h2).trans h5, (hb.frozen (p := ⟨b, 1, none⟩) h2).trans h6⟩
theorem Own2.alloc {W : World} {B b : Nat} {x y : ByteArray} (h : Own2 W B b x y) (o : Obj) : Own2 (W.alloc o) B b x y := h.below ((Below.refl _ _).alloc (Nat.le_refl _) _)
theorem Own2.new (W : World) {B : Nat} (h : B ≤ W.heap.size) (x y : ByteArray) (t : TypeId) : Own2 (W.alloc (.cells #[.string x, .string y] t)) B W.heap.size x y :=
  ⟨h, by rw [size_al]; omega, by simp [cell_al], by simp [cell_al], by simp [frozen_al], by simp [frozen_al]⟩
theorem Own2.store {W : World} {B b : Nat} {x y : ByteArray} (h : Own2 W B b x y) (x' y' : ByteArray) : Own2 ((W.setCell ⟨b, 0, none⟩ (.string x')).setCell ⟨b, 1, none⟩ (.string y')) B b x' y' := by
  obtain ⟨h1, h2, h3, h4, h5, h6⟩ := h
  obtain ⟨g1, g2⟩ := two_set (x := .string x') (y := .string y') h3 h4
  exact ⟨h1, by simpa using h2, g1, g2, by simpa using h5, by simpa using h6⟩
theorem Own2.other {W : World} {B b c : Nat} {x y : ByteArray} {u v : Value} (h : Own2 W B b x y) (hne : b ≠ c) : Own2 ((W.setCell ⟨c, 0, none⟩ u).setCell ⟨c, 1, none⟩ v) B b x y := by
  obtain ⟨h1, h2, h3, h4, h5, h6⟩ := h
  have e : ∀ (i j : Nat), (⟨b, i, none⟩ : Addr) ≠ ⟨c, j, none⟩ := fun i j h => hne (by injection h)
  exact ⟨h1, by simpa using h2, (World.cell?_setCell_other _ _ _ _ (by simp [hne])).trans ((World.cell?_setCell_other _ _ _ _ (by simp [hne])).trans h3), (World.cell?_setCell_other _ _ _ _ (by simp [hne])).trans ((World.cell?_setCell_other _ _ _ _ (by simp [hne])).trans h4), by simpa using h5, by simpa using h6⟩
/-- what two calls have left whose answers go to two new structs -/
structure TwoJ (W0 : World) (t u : Value) (F R G S : ByteArray) (b0 b1 b2 b3 b4 b5 b6 b7 : Bool) (v0 v1 v2 v3 v4 v5 : Value) (W : World) : Prop where
  below : Below W0.heap.size W0 W
  l0 : b0 = true → v0 = t
  c0 : b1 = true → v1 = .agg #[.string F, .string R]
  l1 : b2 = true → v2 = u
  c1 : b3 = true → v3 = .agg #[.string G, .string S]
  a0 : b4 = true → ∃ p, v4 = .pointer (some ⟨p, 0, none⟩) ∧ Own2 W W0.heap.size p (if b6 then F else sZ) (if b6 then R else sZ)
  a1 : b5 = true → ∃ p, v5 = .pointer (some ⟨p, 0, none⟩) ∧ Own2 W W0.heap.size p (if b7 then G else sZ) (if b7 then S else sZ)
  ne : b4 = true → b5 = true → v4 ≠ v5
  s0 : b6 = true → b4 = true
  s1 : b7 = true → b5 = true
section
variable {W0 W : World} {t u : Value} {F R G S : ByteArray} {b0 b1 b2 b3 b4 b5 b6 b7 : Bool} {v0 v1 v2 v3 v4 v5 : Value}
theorem TwoJ.grow {W' : World} (J : TwoJ W0 t u F R G S b0 b1 b2 b3 b4 b5 b6 b7 v0 v1 v2 v3 v4 v5 W) (hb : Below W.heap.size W W') : TwoJ W0 t u F R G S b0 b1 b2 b3 b4 b5 b6 b7 v0 v1 v2 v3 v4 v5 W' :=
  { J with
    below := Below.andThen J.below hb (Nat.le_refl _)
    a0 := fun h => let ⟨p, h1, h2⟩ := J.a0 h; ⟨p, h1, h2.below hb⟩
    a1 := fun h => let ⟨p, h1, h2⟩ := J.a1 h; ⟨p, h1, h2.below hb⟩ }
theorem TwoJ.load0 (J : TwoJ W0 t u F R G S b0 b1 b2 b3 b4 b5 b6 b7 v0 v1 v2 v3 v4 v5 W) : TwoJ W0 t u F R G S true b1 b2 b3 b4 b5 b6 b7 t v1 v2 v3 v4 v5 W := { J with l0 := fun _ => rfl }
theorem TwoJ.load1 (J : TwoJ W0 t u F R G S b0 b1 b2 b3 b4 b5 b6 b7 v0 v1 v2 v3 v4 v5 W) : TwoJ W0 t u F R G S b0 b1 true b3 b4 b5 b6 b7 v0 v1 u v3 v4 v5 W := { J with l1 := fun _ => rfl }
theorem TwoJ.call0 {W' : World} (J : TwoJ W0 t u F R G S b0 b1 b2 b3 b4 b5 b6 b7 v0 v1 v2 v3 v4 v5 W) (hb : Below W.heap.size W W') : TwoJ W0 t u F R G S b0 true b2 b3 b4 b5 b6 b7 v0 (.agg #[.string F, .string R]) v2 v3 v4 v5 W' := { J.grow hb with c0 := fun _ => rfl }
theorem TwoJ.call1 {W' : World} (J : TwoJ W0 t u F R G S b0 b1 b2 b3 b4 b5 b6 b7 v0 v1 v2 v3 v4 v5 W) (hb : Below W.heap.size W W') : TwoJ W0 t u F R G S b0 b1 b2 true b4 b5 b6 b7 v0 v1 v2 (.agg #[.string G, .string S]) v4 v5 W' := { J.grow hb with c1 := fun _ => rfl }
theorem TwoJ.alloc0 (J : TwoJ W0 t u F R G S b0 b1 b2 b3 false b5 b6 b7 v0 v1 v2 v3 v4 v5 W) (ty : TypeId) : TwoJ W0 t u F R G S b0 b1 b2 b3 true b5 b6 b7 v0 v1 v2 v3 (.pointer (some ⟨W.heap.size, 0, none⟩)) v5 (W.alloc (.cells #[.string { data := #[] }, .string { data := #[] }] ty)) := by
  have h6 : b6 = false := by cases h : b6 with
    | false => rfl
    | true => have := J.s0 h; cases this
  subst h6
  exact { J.grow ((Below.refl _ _).alloc (Nat.le_refl _) _) with
    a0 := fun _ => ⟨_, rfl, Own2.new W J.below.size sZ sZ ty⟩
    ne := fun _ h e => by
      obtain ⟨p, rfl, hp⟩ := J.a1 h
      have := hp.2.1
      simp at e <;> omega
    s0 := nofun }
theorem TwoJ.alloc1 (J : TwoJ W0 t u F R G S b0 b1 b2 b3 b4 false b6 b7 v0 v1 v2 v3 v4 v5 W) (ty : TypeId) : TwoJ W0 t u F R G S b0 b1 b2 b3 b4 true b6 b7 v0 v1 v2 v3 v4 (.pointer (some ⟨W.heap.size, 0, none⟩)) (W.alloc (.cells #[.string { data := #[] }, .string { data := #[] }] ty)) := by
  have h7 : b7 = false := by cases h : b7 with
    | false => rfl
    | true => have := J.s1 h; cases this
  subst h7
  exact { J.grow ((Below.refl _ _).alloc (Nat.le_refl _) _) with
    a1 := fun _ => ⟨_, rfl, Own2.new W J.below.size sZ sZ ty⟩
    ne := fun h _ e => by
      obtain ⟨p, rfl, hp⟩ := J.a0 h
      have := hp.2.1
      simp at e <;> omega
    s1 := nofun }
theorem TwoJ.store0 {p : Nat} (J : TwoJ W0 t u F R G S b0 b1 b2 b3 true b5 b6 b7 v0 v1 v2 v3 (.pointer (some ⟨p, 0, none⟩)) v5 W) : TwoJ W0 t u F R G S b0 b1 b2 b3 true b5 true b7 v0 v1 v2 v3 (.pointer (some ⟨p, 0, none⟩)) v5 ((W.setCell ⟨p, 0, none⟩ (.string F)).setCell ⟨p, 1, none⟩ (.string R)) := by
  obtain ⟨q, e, hq⟩ := J.a0 rfl
  obtain rfl : p = q := by simpa using e
  exact { J with
    below := (J.below.setCell (p := ⟨p, 0, none⟩) hq.1 _).setCell (p := ⟨p, 1, none⟩) hq.1 _
    a0 := fun _ => ⟨p, rfl, hq.store F R⟩
    a1 := fun h => by
      obtain ⟨c, h1, h2⟩ := J.a1 h
      exact ⟨c, h1, h2.other (fun e => J.ne rfl h (by rw [h1, e]))⟩
    s0 := fun _ => rfl }
theorem TwoJ.store1 {p : Nat} (J : TwoJ W0 t u F R G S b0 b1 b2 b3 b4 true b6 b7 v0 v1 v2 v3 v4 (.pointer (some ⟨p, 0, none⟩)) W) : TwoJ W0 t u F R G S b0 b1 b2 b3 b4 true b6 true v0 v1 v2 v3 v4 (.pointer (some ⟨p, 0, none⟩)) ((W.setCell ⟨p, 0, none⟩ (.string G)).setCell ⟨p, 1, none⟩ (.string S)) := by
  obtain ⟨q, e, hq⟩ := J.a1 rfl
  obtain rfl : p = q := by simpa using e
  exact { J with
    below := (J.below.setCell (p := ⟨p, 0, none⟩) hq.1 _).setCell (p := ⟨p, 1, none⟩) hq.1 _
    a1 := fun _ => ⟨p, rfl, hq.store G S⟩
    a0 := fun h => by
      obtain ⟨c, h1, h2⟩ := J.a0 h
      exact ⟨c, h1, h2.other (fun e => J.ne h rfl (by rw [h1, e]))⟩
    s1 := fun _ => rfl }
end
def twoJ (W0 : World) (t u : Value) (F R G S : ByteArray) (bs : List Bool) (vs : List Value) (W : World) : Prop :=
  ∃ b0 b1 b2 b3 b4 b5 b6 b7 v0 v1 v2 v3 v4 v5, bs = [b0, b1, b2, b3, b4, b5, b6, b7] ∧ vs = [v0, v1, v2, v3, v4, v5] ∧ TwoJ W0 t u F R G S b0 b1 b2 b3 b4 b5 b6 b7 v0 v1 v2 v3 v4 v5 W
end Go.Proofs.Ytbhlddfjfcmncaa
