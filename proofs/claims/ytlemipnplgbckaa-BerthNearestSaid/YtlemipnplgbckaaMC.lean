import Derived.Test.YtlemipnplgbckaaMB
import Derived.Laws.AppendOwn
import Derived.ChangeKeysEq
import Derived.Maps.RangeWalk
import Derived.Maps.OwnIn
import Derived.Maps.AppendAt
import Derived.RangeFuncNested
import Derived.RangeFuncBound
import Derived.RangeFuncCalls
import Derived.RangeFuncLeaves
import Derived.Shelf.Abstract
import Derived.Shelf.RegionOpen
import Derived.WalkKit
import Derived.WalkMore
import Derived.OwnWalkIn
import Derived.TacticsInMore
import Derived.LoopNIn
import Derived.LoopIn
import Derived.WalkSpells
import Derived.WalkLawsBesides
import Derived.BigQuiet
import Derived.Deep.QuietTactic
import Derived.Lib.Hide
import Derived.Deep.RegionHeld3
import Derived.StillTailTactics
import Derived.Deep.LoopGhost
import Derived.Maps.OwnSet
import Derived.Lib.IndexAny
import Derived.Sort.QuietThIn
import Derived.Sort.QuietTacIn
import Derived.Sort.BigQuietIn
import Derived.Laws.OwnMore
import Derived.DeepKeys4
import Derived.Maps.Views
import Derived.Maps.OwnOps
import Derived.Deep.DeepCutAuto
import Derived.Test.YtlemipnplgbckaaMA
namespace Go.Proofs.Ytlemipnplgbckaa
open Go.RowKit Go.Shelf
attribute [local go_sem] Oper.semAt_some
/-- blocks of circles, and boxes of lists of them -/
def isC : Obj → Bool
  | .cells _ T _ => T == 30 || T == 78
  | _ => false
/-- all other blocks lie as they lay -/
structure KeepsX (W W' : World) : Prop where
  size : W.heap.size ≤ W'.heap.size
  same : ∀ (k : Nat) (o : Obj), W.heap[k]? = some o → isC o = false → W'.heap[k]? = some o
theorem KeepsX.refl (W : World) : KeepsX W W := ⟨Nat.le_refl _, fun _ _ h _ => h⟩
theorem KeepsX.trans {X Y Z : World} (h : KeepsX X Y) (k : KeepsX Y Z) : KeepsX X Z := ⟨Nat.le_trans h.size k.size, fun i o hi ho => k.same i o (h.same i o hi ho) ho⟩
theorem KeepsX.of_below {X Y : World} (h : Below X.heap.size X Y) : KeepsX X Y := ⟨h.size, fun i _ hi _ => (h.block i (Array.getElem?_eq_some_iff.1 hi).1).trans hi⟩
theorem KeepsX.of_grown {X Y : World} {row : Option Nat} (hg : X.grownBy Y row) (hr : ∀ r, row = some r → ∃ o, X.heap[r]? = some o ∧ isC o = true) : KeepsX X Y := ⟨hg.size, fun i o hi ho =>
  (hg.block i (Array.getElem?_eq_some_iff.1 hi).1 (fun e => by
    obtain ⟨o', h1, h2⟩ := hr i e.symm
    rw [hi] at h1; cases h1; rw [ho] at h2; cases h2)).trans hi⟩
theorem KeepsX.its {X Y : World} (h : KeepsX X Y) (B : Nat) : KeepsI B X Y := fun i o _ hi ho => h.same i o hi (by
  cases o with
  | cells cs T z =>
    simp only [isIt, isC] at ho ⊢
    by_cases e1 : T = 30
    · subst e1; simp at ho
    · by_cases e2 : T = 78
      · subst e2; simp at ho
      · simp [e1, e2]
  | _ => rfl)
theorem KeepsX.from_ {X Y : World} (h : KeepsX X Y) (B : Nat) : KeepsFrom B X Y := ⟨h.size, fun k o _ hk ho => h.same k o hk (by
  cases o with
  | cells cs T z => simp [Obj.isCells] at ho
  | _ => rfl)⟩
theorem KeepsX.row {X Y : World} (h : KeepsX X Y) {b : Nat} {E : TypeId} {vs : List Value} (hE : (E == 30 || E == 78) = false) (r : Row X b E vs) : Row Y b E vs := h.same b _ r hE
/-- a list of circles in a box -/
structure ListC (w : World) (L : Nat) (cs : List Cir) (v : Value) (W : World) : Prop where
  row : Row W L 78 [v]
  own : W.ownsRow (L + 1) 30 4 v cs.length (flatC cs)
  bw : Below w.heap.size w W
  hL : w.heap.size ≤ L
theorem ListC.below {w : World} {L : Nat} {cs : List Cir} {v : Value} {W W' : World} (h : ListC w L cs v W) (hb : Below W.heap.size W W') : ListC w L cs v W' :=
  ⟨h.row.below hb h.row.lt, lasts_owns W.heap.size _ _ _ _ _ _ W W' none h.own ⟨hb.os, hb.tape, hb.output, hb.size, fun k hk _ => hb.block k hk⟩ (fun r e => by cases e), Below.andThen h.bw hb (Nat.le_refl _), h.hL⟩
theorem lasts_listC (B : Nat) (w : World) (L : Nat) (cs : List Cir) (v : Value) (hB : w.heap.size ≤ B) : Lasts B (fun W => ListC w L cs v W) := fun W W' row hi hg hr =>
  ⟨lasts_row B _ _ _ W W' row hi.row hg hr, lasts_owns B _ _ _ _ _ _ W W' row hi.own hg hr, lasts_below B _ w hB (Nat.le_refl _) W W' row hi.bw hg hr, hi.hL⟩
theorem appendC_run {F : Fence} {nF : Nat} {P : Program} {w : World} {ops : Array Oper} {rest : List Oper} {o : Oper} {a : Act} {Q : Exit → Act → World → Prop} (hgd : o.guard = none) (s x : Operand) (t : TypeId) (ho : o.op = .call { callee := .builtin .append, args := #[s, x], argTypes := #[t, t] })
    (v1 v2 v : Value) (w' : World) (hs : a.eval s = v1) (hx : a.eval x = v2) (hr : (Builtin.append_ #[t, t] o.type #[v1, v2]).run P w = .ok v w') (h : wpListIn F nF P ops Q rest (a.put o.dst v) w') : wpListIn F nF P ops Q (o :: rest) a w := by
  refine wpListIn_plain hgd fun K hK => ?_
  unfold Oper.wpIn
  refine ⟨by simp [Oper.about, ho, resolve, Target.leads, Sem.run_pure], ?_⟩
  rw [Oper.semAt_plain F _ _ (by rw [ho]; intro c hc'; cases hc')]
  simp [execOp, ho, resolve, invoke, builtin, hs, hx, hr, Result.andThen]
  exact hK _ _ h
/-- one circle more -/
theorem ListC.add {w W : World} {L g : Nat} {cs : List Cir} {v : Value} {c : Cir} (h : ListC w L cs v W) (rn : Row W g 30 [.int .i64 c.X, .int .i64 c.Y, .int .i64 c.D, .int .i64 c.R]) (hl : cs.length + 1 ≤ 1000000) :
    ∃ a2 n2 c2 W2, (Builtin.append_ #[78, 78] 78 #[v, .slice (some ⟨g, 0, none⟩) 1 1]).run Try.prog W = .ok (.slice a2 n2 c2) W2 ∧ Row W2 L 78 [v] ∧ ListC w L (cs ++ [c]) (.slice a2 n2 c2) (W2.setCell ⟨L, 0, none⟩ (.slice a2 n2 c2)) ∧ KeepsX W (W2.setCell ⟨L, 0, none⟩ (.slice a2 n2 c2)) := by
  obtain ⟨i0, hi, hz0, hz1, hz2⟩ := info_parts info30
  have hLt := h.row.lt
  obtain ⟨v', W2, hap, ho2, hg2, _, hblk⟩ := run_append_own_at (P := Try.prog) (w := W) (L + 1) 78 78 30 i0 (.agg #[.int .i64 0, .int .i64 0, .int .i64 0, .int .i64 0]) 4 32 Try.underlying78 hi hz0 hz1 hz2 rfl (by decide) v cs.length (flatC cs) h.own
    ⟨g, 0, none⟩ 1 1 [.int .i64 c.X, .int .i64 c.Y, .int .i64 c.D, .int .i64 c.R] rfl (fun j u hj => by rw [Go.WideShapes.add_plain]; simp only [Nat.zero_add]; rw [Row.cell rn]; exact hj) (by simp [Value.oneCell']) (by unfold maxLen; omega) (by omega) (by omega)
  have hob : ∀ r, v.ownBlock = some r → L + 1 ≤ r ∧ ∃ cur, W.heap[r]? = some (.cells cur 30 (0, 0)) := fun r e => by
    rcases h.own.2 with ⟨rfl, _⟩ | ⟨g', cap, cur, rfl, h1, h2, _⟩
    · cases e
    · have e2 := Option.some.inj e
      subst e2; exact ⟨h1, cur, h2⟩
  have r2 : Row W2 L 78 [v] := h.row.kept hg2 (fun e => by have := (hob L e.symm).1; omega)
  have gs := grown_set W2 ⟨L, 0, none⟩ v'
  have r3 : Row (W2.setCell ⟨L, 0, none⟩ v') L 78 [v'] := r2.set 0 v'
  have b2 : Below w.heap.size w W2 := h.bw.grown hg2 h.bw.size (fun k e => by have := (hob k e).1; have := h.hL; omega)
  obtain ⟨a2, n2, c2, rfl⟩ : ∃ a2 n2 c2, v' = .slice a2 n2 c2 := by
    rcases ho2.2 with ⟨e, _⟩ | ⟨g2, cap, cur, e, _⟩
    · exact ⟨_, _, _, e⟩
    · exact ⟨_, _, _, e⟩
  refine ⟨a2, n2, c2, W2, hap, r2, ⟨r3, ?_, b2.grown gs b2.size (fun k e => by cases e; exact h.hL), h.hL⟩, ?_⟩
  · rw [List.length_append, List.length_singleton, flatC_snoc]
    rcases ho2 with ⟨hlen, hh⟩
    refine ⟨hlen, ?_⟩
    rcases hh with ⟨e, h0⟩ | ⟨g2, cap, cur, e, h1, h2, h3⟩
    · omega
    · exact .inr ⟨g2, cap, cur, e, h1, (gs.block g2 (Array.getElem?_eq_some_iff.1 h2).1 (fun e => by have e2 : g2 = L := Option.some.inj e; omega)).trans h2, h3⟩
  · refine (KeepsX.of_grown hg2 (fun r e => by obtain ⟨_, cur, hc⟩ := hob r e; exact ⟨_, hc, rfl⟩)).trans (KeepsX.of_grown gs (fun r e => by cases e; exact ⟨_, r2, rfl⟩))
end Go.Proofs.Ytlemipnplgbckaa
namespace Go.Proofs.Ytlemipnplgbckaa
open Go.RowKit Go.Shelf
attribute [local go_sem] Oper.semAt_some
section
variable {F : Fence} {n : Nat} {P : Program} {Q : Exit → Act → World → Prop}
theorem wpIn_region_inv2 {id : Nat} {a : Act} {w : World} {l : List Oper} (hm : P.follows .mixedOrders = true) (hd : waitsC l = true) (I : List Bool → Act → World → Prop) (h0 : I (List.replicate l.length false) a w.drew)
    (hstep : ∀ (i : Nat) (o : Oper) (bs : List Bool) (a : Act) (w : World), l[i]? = some o → I bs a w → bs.length = l.length → bs[i]? = some false → (∀ e ∈ o.after, Region.binds .any e = true → bs.getD e.on false = true) →
      wpOpIn F n P l.toArray Q i (fun a' w' => I (bs.set i true) a' w') a w)
    (hend : ∀ a w, I (List.replicate l.length true) a w → Q .normal a w) : (Code.region id l.toArray true).wpIn F n P Q a w := by
  refine wpIn_region_any hm ?_
  have key : ∀ (fuel : Nat) (bs : List Bool) (a : Act) (w : World), bs.length = l.length → (bs.filter (! ·)).length ≤ fuel → I bs a w → wpAnyIn F n P .any l.toArray Q fuel bs.toArray a w := by
    intro fuel
    induction fuel with
    | zero =>
      intro bs a w hl hf hI
      have hall : bs = List.replicate l.length true := by
        rw [List.eq_replicate_iff]
        refine ⟨hl, fun b hb => ?_⟩
        cases b with
        | true => rfl
        | false =>
          have : false ∈ bs.filter (! ·) := List.mem_filter.2 ⟨hb, rfl⟩
          have := List.length_pos_of_mem this; omega
      subst hall
      refine ⟨?_, hend a w hI⟩
      cases hr : Region.ready .any l.toArray (List.replicate l.length true).toArray with
      | nil => rfl
      | cons j js =>
        have hj : j ∈ Region.ready .any l.toArray (List.replicate l.length true).toArray := by rw [hr]; exact List.mem_cons_self
        obtain ⟨h1, o, h2, _⟩ := mem_ready.1 hj
        have hlt : j < l.length := by have := (List.getElem?_eq_some_iff.1 (by simpa using h2 : l[j]? = some o)).1; exact this
        simp [Array.getD, hlt] at h1
    | succ fuel ih =>
      intro bs a w hl hf hI
      have hset : ∀ (i : Nat), (bs.toArray.setIfInBounds i true) = (bs.set i true).toArray := fun i => by simp
      by_cases hall : bs = List.replicate l.length true
      · subst hall
        refine ⟨fun _ => hend a w hI, fun j hj => ?_⟩
        obtain ⟨h1, o, h2, _⟩ := mem_ready.1 hj
        have hlt : j < l.length := by have := (List.getElem?_eq_some_iff.1 (by simpa using h2 : l[j]? = some o)).1; exact this
        simp [Array.getD, hlt] at h1
      · refine ⟨fun hr => ?_, fun j hj => ?_⟩
        · exfalso
          have hex : ∃ b ∈ bs, (!b) = true := by
            false_or_by_contra
            rename_i hno
            refine hall (List.eq_replicate_iff.2 ⟨hl, fun b hb => ?_⟩)
            cases b with
            | true => rfl
            | false => exact absurd ⟨false, hb, rfl⟩ hno
          have hlt : bs.findIdx (! ·) < bs.length := List.findIdx_lt_length.2 hex
          have hf0 : bs[bs.findIdx (! ·)] = false := by have := List.findIdx_getElem (w := hlt); simpa using this
          have hlt2 : bs.findIdx (! ·) < l.length := by omega
          have hmem : bs.findIdx (! ·) ∈ Region.ready .any l.toArray bs.toArray := by
            refine mem_ready.2 ⟨by simp [Array.getD, hlt, hf0], l[bs.findIdx (! ·)], by simp [hlt2], fun e he hbd => ?_⟩
            unfold waitsC at hd
            rw [List.all_eq_true] at hd
            have h1 := hd _ (List.mem_range.2 hlt2)
            rw [List.getElem?_eq_getElem hlt2] at h1
            simp only [Option.map_some, Option.getD_some] at h1
            have h2 := (Array.all_eq_true'.1 h1) e he
            rw [hbd] at h2
            have h3 : e.on < bs.findIdx (! ·) := by simpa using h2
            have h4 : e.on < bs.length := by omega
            have h5 := List.not_of_lt_findIdx h3
            simp [Array.getD, h4]
            simpa using h5
          rw [hr] at hmem; cases hmem
        · obtain ⟨h1, o, h2, h3⟩ := mem_ready.1 hj
          have h2' : l[j]? = some o := by simpa using h2
          have hlt : j < l.length := (List.getElem?_eq_some_iff.1 h2').1
          have hb : bs[j]? = some false := by
            rw [List.getElem?_eq_getElem (by omega)]
            simp [Array.getD, show j < bs.length by omega] at h1
            rw [h1]
          refine wpOpIn_mono (fun a' w' h => ?_) (hstep j o bs a w h2' hI hl hb (fun e he hb => by have := h3 e he hb; rw [List.getD_eq_getElem?_getD]; simp only [Array.getD, List.size_toArray] at this; split at this <;> simp_all))
          rw [hset]
          have := filter_set bs j hb
          exact ih _ _ _ (by simpa using hl) (by omega) h
  have := key l.length (List.replicate l.length false) a w.drew (by simp) (by simp) h0
  simpa using this
theorem wpIn_region_slots2 {id : Nat} {a : Act} {w : World} {l : List Oper} (hm : P.follows .mixedOrders = true) (hd : waitsC l = true) (slots : List Nat) (J : List Bool → List Value → World → Prop)
    (h0 : ∃ vs, a = putAll a slots vs ∧ J (List.replicate l.length false) vs w.drew)
    (hstep : ∀ (i : Nat) (o : Oper) (bs : List Bool) (vs : List Value) (w : World) (K : Act → World → Prop), l[i]? = some o → J bs vs w → bs.length = l.length → bs[i]? = some false → (∀ e ∈ o.after, Region.binds .any e = true → bs.getD e.on false = true) →
      (∀ vs' w', J (bs.set i true) vs' w' → K (putAll a slots vs') w') → wpOpIn F n P l.toArray Q i K (putAll a slots vs) w)
    (hend : ∀ vs w, J (List.replicate l.length true) vs w → Q .normal (putAll a slots vs) w) : (Code.region id l.toArray true).wpIn F n P Q a w := by
  refine wpIn_region_inv2 hm hd (fun bs a' w' => ∃ vs, a' = putAll a slots vs ∧ J bs vs w') h0 ?_ ?_
  · rintro i o bs a' w' ho ⟨vs, rfl, hJ⟩ hl hb hw
    exact hstep i o bs vs w' _ ho hJ hl hb hw (fun vs' w'' h => ⟨vs', rfl, h⟩)
  · rintro a' w' ⟨vs, rfl, hJ⟩
    exact hend vs w' hJ
def boxStepsIn (F : Fence) (n : Nat) (P : Program) (Q : Exit → Act → World → Prop) (ops : Array Oper) (a : Act) (slots : List Nat) (R : List (Value → Prop)) (bx : Bxs) (pt : List (Option Nat)) (w₀ : World) (len : Nat) : List Oper → Nat → Prop
  | [], _ => True
  | o :: rest, i => (∀ (vs : List Value) (W : World) (K : Act → World → Prop), Below w₀.heap.size w₀ W → vs.length = len →
      (∀ e ∈ o.after, Region.binds .any e = true → ∃ v, vs[e.on]? = some v ∧ (R.getD e.on (fun _ => True)) v) →
      (match bx.getD i none, pt.getD i none with
       | some (E, z, _), _ => K (putAll a slots (vs.set i (.pointer (some ⟨W.heap.size, 0, none⟩)))) (W.alloc (.cells z.toArray E)) → wpListIn F n P ops (Exit.then K Q) [o] (putAll a slots vs) W
       | none, some ia => ∀ b E z f, bx.getD ia none = some (E, z, f) → vs[ia]? = some (.pointer (some ⟨b, 0, none⟩)) → w₀.heap.size ≤ b → Row W b E z → (∀ W', Row W' b E f → W.grownBy W' (some b) → K (putAll a slots (vs.set i undef)) W') → wpListIn F n P ops (Exit.then K Q) [o] (putAll a slots vs) W
       | none, none => (∀ v W', Below W.heap.size W W' → (R.getD i (fun _ => True)) v → K (putAll a slots (vs.set i v)) W') → wpListIn F n P ops (Exit.then K Q) [o] (putAll a slots vs) W)) ∧ boxStepsIn F n P Q ops a slots R bx pt w₀ len rest (i + 1)
theorem boxStepsIn_get {ops : Array Oper} {a : Act} {slots : List Nat} {R : List (Value → Prop)} {bx : Bxs} {pt : List (Option Nat)} {w₀ : World} {len : Nat} : ∀ {l : List Oper} {k i : Nat} {o : Oper}, boxStepsIn F n P Q ops a slots R bx pt w₀ len l k → l[i]? = some o →
    ∀ (vs : List Value) (W : World) (K : Act → World → Prop), Below w₀.heap.size w₀ W → vs.length = len →
      (∀ e ∈ o.after, Region.binds .any e = true → ∃ v, vs[e.on]? = some v ∧ (R.getD e.on (fun _ => True)) v) →
      (match bx.getD (k + i) none, pt.getD (k + i) none with
       | some (E, z, _), _ => K (putAll a slots (vs.set (k + i) (.pointer (some ⟨W.heap.size, 0, none⟩)))) (W.alloc (.cells z.toArray E)) → wpListIn F n P ops (Exit.then K Q) [o] (putAll a slots vs) W
       | none, some ia => ∀ b E z f, bx.getD ia none = some (E, z, f) → vs[ia]? = some (.pointer (some ⟨b, 0, none⟩)) → w₀.heap.size ≤ b → Row W b E z → (∀ W', Row W' b E f → W.grownBy W' (some b) → K (putAll a slots (vs.set (k + i) undef)) W') → wpListIn F n P ops (Exit.then K Q) [o] (putAll a slots vs) W
       | none, none => (∀ v W', Below W.heap.size W W' → (R.getD (k + i) (fun _ => True)) v → K (putAll a slots (vs.set (k + i) v)) W') → wpListIn F n P ops (Exit.then K Q) [o] (putAll a slots vs) W)
  | [], _, _, _, _, h => by simp at h
  | o :: rest, k, 0, o', hd, h => by
    simp at h; subst h
    exact hd.1
  | o :: rest, k, i + 1, o', hd, h => by
    have := boxStepsIn_get (l := rest) (k := k + 1) (i := i) hd.2 (by simpa using h)
    rw [show k + 1 + i = k + (i + 1) by omega] at this
    exact this
theorem wpIn_region_box {id : Nat} {a : Act} {w : World} {l : List Oper} (hm : P.follows .mixedOrders = true) (hd : waitsC l = true) (slots : List Nat) (R : List (Value → Prop)) (bx : Bxs) (pt : List (Option Nat)) (len : Nat) (hlen : l.length = len) (hok : boxOk l bx pt = true)
    (htr : ∀ i v, (bx.getD i none).isSome = true ∨ (pt.getD i none).isSome = true → (R.getD i (fun _ => True)) v)
    (h0 : ∃ vs, a = putAll a slots vs ∧ vs.length = len)
    (hsteps : boxStepsIn F n P Q l.toArray a slots R bx pt w len l 0)
    (hend : ∀ vs W, BoxJ R bx pt w len (List.replicate len true) vs W → Q .normal (putAll a slots vs) W) : (Code.region id l.toArray true).wpIn F n P Q a w := by
  obtain ⟨vs0, e0, el0⟩ := h0
  unfold boxOk at hok
  simp only [Bool.and_eq_true, decide_eq_true_eq] at hok
  obtain ⟨⟨hp, hpl⟩, hall⟩ := hok
  refine wpIn_region_slots2 hm hd slots (fun bs vs W => BoxJ R bx pt w len bs vs W ∧ closedB l bs) ⟨vs0, e0, ⟨(Below.refl _ _).drew, el0, by rw [List.length_replicate]; exact hlen, fun i hi => ?_, fun i E z f _ hi => ?_, fun i j b _ _ hi => ?_⟩, fun j o _ hb => ?_⟩ ?_ ?_
  · rw [List.getElem?_replicate] at hi; split at hi <;> simp at hi
  · rw [List.getElem?_replicate] at hi; split at hi <;> simp at hi
  · rw [List.getElem?_replicate] at hi; split at hi <;> simp at hi
  · rw [List.getElem?_replicate] at hb; split at hb <;> simp at hb
  · rintro i o bs vs W K ho ⟨hJ, hcl⟩ hbl hb hw hK
    have hlt : i < l.length := (List.getElem?_eq_some_iff.1 ho).1
    have hw2 : ∀ e ∈ o.after, Region.binds .any e = true → bs[e.on]? = some true := fun e he hbe => by
      have h := hw e he hbe
      rw [List.getD_eq_getElem?_getD] at h
      cases h2 : bs[e.on]? with
      | none => rw [h2] at h; simp at h
      | some b => rw [h2] at h; simp at h; rw [h]
    have hcl2 : closedB l (bs.set i true) := fun j o' ho' hb' e he hbe => by
      by_cases ej : i = j
      · subst ej
        rw [ho] at ho'; cases ho'
        by_cases ek : i = e.on
        · rw [← ek, List.getElem?_set_self (by rw [hbl]; exact hlt)]
        · rw [List.getElem?_set_ne ek]; exact hw2 e he hbe
      · rw [List.getElem?_set_ne ej] at hb'
        have := hcl j o' ho' hb' e he hbe
        by_cases ek : i = e.on
        · rw [← ek, List.getElem?_set_self (by rw [hbl]; exact hlt)]
        · rw [List.getElem?_set_ne ek]; exact this
    refine wpOpIn_of_list (by simpa using ho) ?_
    have hg := boxStepsIn_get hsteps ho vs W K hJ.bl hJ.ln (fun e he hbe => hJ.val _ (hw2 e he hbe))
    rw [Nat.zero_add] at hg
    have hai := List.all_eq_true.1 hall i (List.mem_range.2 hlt)
    cases hbx : bx.getD i none with
    | some x =>
      obtain ⟨E, z, f⟩ := x
      rw [hbx] at hg hai
      cases hpt : pt.getD i none with
      | some ia => rw [hpt] at hai; cases hai
      | none =>
        dsimp only at hg
        refine hg (hK _ _ ⟨hJ.made (by omega) hbx (fun v => htr i v (.inl (by rw [hbx]; rfl))) hpt ?_, hcl2⟩)
        cases hst : stB pt bs i with
        | false => rfl
        | true =>
          exfalso
          unfold stB at hst
          rw [List.any_eq_true] at hst
          obtain ⟨s, hs, hh⟩ := hst
          simp only [Bool.and_eq_true, decide_eq_true_eq] at hh
          have hsl : s < l.length := by have := List.mem_range.1 hs; omega
          have has := List.all_eq_true.1 hall s (List.mem_range.2 hsl)
          have hps : pt.getD s none = some i := by rw [List.getD_eq_getElem?_getD, hh.1]; rfl
          rw [hps] at has
          cases hbs : bx.getD s none with
          | some y => rw [hbs] at has; cases has
          | none =>
            rw [hbs] at has
            simp only [Bool.and_eq_true] at has
            have h1 := has.1
            rw [List.getElem?_eq_getElem hsl] at h1
            simp only [Option.map_some, Option.getD_some, Array.any_eq_true'] at h1
            obtain ⟨e, he, h2⟩ := h1
            simp only [Bool.and_eq_true, decide_eq_true_eq] at h2
            have := hcl s l[s] (List.getElem?_eq_getElem hsl) hh.2 e he h2.2
            rw [h2.1, hb] at this
            cases this
    | none =>
      rw [hbx] at hg hai
      cases hpt : pt.getD i none with
      | some ia =>
        rw [hpt] at hg hai
        dsimp only at hg
        simp only [Bool.and_eq_true] at hai
        have h1 := hai.1
        rw [ho] at h1
        simp only [Option.map_some, Option.getD_some, Array.any_eq_true'] at h1
        obtain ⟨e, he, h2⟩ := h1
        simp only [Bool.and_eq_true, decide_eq_true_eq] at h2
        have hba := hw2 e he h2.2
        rw [h2.1] at hba
        have hpi : pt[i]? = some (some ia) := by
          rw [List.getD_eq_getElem?_getD] at hpt
          cases h3 : pt[i]? with
          | none => rw [h3] at hpt; cases hpt
          | some x => rw [h3] at hpt; simp at hpt; rw [hpt]
        have hwait := stB_wait (pt := pt) (bs := bs) (i := ia) (k := i) (fun s hs => ptOk_eq hp hs hpi) hb
        cases hia : bx.getD ia none with
        | none =>
          -- a store into what is no box of this region: excluded by its shape
          have h9 := hai.2
          rw [hia] at h9; cases h9
        | some x =>
          obtain ⟨E, z, f⟩ := x
          obtain ⟨b, h3, h4, h5⟩ := hJ.box ia E z f hia hba
          rw [hwait] at h5
          exact hg b E z f hia h3 h4 (by simpa using h5) (fun W' hr hgr => hK _ _ ⟨hJ.filled (by omega) hbx hpt (fun v => htr i v (.inr (by rw [hpt]; rfl))) hia hba h3 h4 hr hgr, hcl2⟩)
      | none =>
        rw [hpt] at hg
        dsimp only at hg
        exact hg (fun v W' hbb hr => hK _ _ ⟨hJ.other hbb (by omega) hr hbx hpt, hcl2⟩)
  · rintro vs W ⟨hJ, _⟩
    rw [hlen] at hJ
    exact hend vs W hJ
end
end Go.Proofs.Ytlemipnplgbckaa
namespace Go.Proofs.Ytlemipnplgbckaa
open Go.RowKit Go.Shelf
attribute [local go_sem] Oper.semAt_some
/-- a new slice of one circle -/
def OneC (c : Cir) : Value → World → Prop := fun v W => ∃ g, v = .slice (some ⟨g, 0, none⟩) 1 1 ∧ Row W g 30 [.int .i64 c.X, .int .i64 c.Y, .int .i64 c.D, .int .i64 c.R]
theorem OneC.stab (c : Cir) : ∀ (v : Value) (W W' : World), OneC c v W → Below W.heap.size W W' → OneC c v W' := fun _ _ _ ⟨g, h1, h2⟩ hb => ⟨g, h1, h2.below hb h2.lt⟩
theorem trF_len (n : Nat) : ∀ ps : List (Nat × Nat), (trF n ps).length ≤ ps.length * n
  | [] => by simp [trF]
  | p :: ps => by
    have ih := trF_len n ps
    simp only [trF, List.flatMap_cons, List.length_append, rowT, List.length_map, List.length_range, List.length_cons] at ih ⊢
    rw [Nat.add_mul, Nat.one_mul]; omega
theorem trL_len (n : Nat) (hn : n ≤ 12) : (trL n).length ≤ 1728 := by
  have h1 := trF_len n (prL n)
  have h2 := prL_len n
  have h3 : (prL n).length * n ≤ (n * n) * n := Nat.mul_le_mul_right n h2
  have h4 : (n * n) * n ≤ (12 * 12) * 12 := Nat.mul_le_mul (Nat.mul_le_mul hn hn) hn
  unfold trL
  omega
def rndC (x y d : Int) (p : Pt) : Cir := ⟨rX x y d, rY x y d, rD x y d, apF (rX x y d) (rY x y d) (rD x y d) p⟩
/-- the circle over two points -/
def ovC (a b : Pt) : Cir := rndC (a.1 + b.1) (a.2 + b.2) 2 a
/-- the circle through three points -/
def thC (a b c : Pt) : Cir := rndC (thD a b c * a.1 + thX a b c) (thD a b c * a.2 + thY a b c) (thD a b c) a
def ovR (ps : List Pt) (i k : Nat) : List Cir := (List.range k).map (fun j : Nat => ovC (ptAt ps i) (ptAt ps (i + j)))
def ovB (ps : List Pt) (i k : Nat) : List Cir := ((List.range i).flatMap (fun a : Nat => ovR ps a (ps.length - a))) ++ ovR ps i k
def thT (ps : List Pt) (t : Nat × Nat × Nat) : List Cir := if thD (ptAt ps t.1) (ptAt ps t.2.1) (ptAt ps t.2.2) = 0 then [] else [thC (ptAt ps t.1) (ptAt ps t.2.1) (ptAt ps t.2.2)]
/-- the circles over two points and through three -/
def circL (ps : List Pt) : List Cir := ovB ps ps.length 0 ++ (trL ps.length).flatMap (thT ps)
theorem ovB_0 (ps : List Pt) : ovB ps 0 0 = [] := by simp [ovB, ovR]
theorem ovB_step (ps : List Pt) (i k : Nat) : ovB ps i (k + 1) = ovB ps i k ++ [ovC (ptAt ps i) (ptAt ps (i + k))] := by
  unfold ovB ovR
  rw [List.range_succ, List.map_append, List.append_assoc]
  rfl
theorem ovB_next (ps : List Pt) (i : Nat) : ovB ps (i + 1) 0 = ovB ps i (ps.length - i) := by
  unfold ovB
  rw [List.range_succ, List.flatMap_append]
  simp [ovR]
theorem flatO_len (ps : List Pt) : ∀ i : Nat, ((List.range i).flatMap (fun a : Nat => ovR ps a (ps.length - a))).length ≤ i * ps.length
  | 0 => by simp
  | i + 1 => by
    have ih := flatO_len ps i
    rw [List.range_succ, List.flatMap_append, List.length_append]
    simp only [List.flatMap_cons, List.flatMap_nil, List.append_nil, ovR, List.length_map, List.length_range] at ih ⊢
    rw [Nat.add_mul, Nat.one_mul]; omega
theorem ovB_len (ps : List Pt) (i k : Nat) : (ovB ps i k).length ≤ i * ps.length + k := by
  unfold ovB
  have h := flatO_len ps i
  rw [List.length_append]
  simp only [ovR, List.length_map, List.length_range] at h ⊢
  omega
theorem thT_len (ps : List Pt) : ∀ ts : List (Nat × Nat × Nat), (ts.flatMap (thT ps)).length ≤ ts.length
  | [] => by simp
  | t :: ts => by
    have ih := thT_len ps ts
    have h1 : (thT ps t).length ≤ 1 := by unfold thT; split <;> simp
    rw [List.flatMap_cons, List.length_append, List.length_cons]; omega
theorem circ_start (w : World) (v : Value) : Below w.heap.size w ((w.alloc (.cells [v].toArray 22)).alloc (.cells [.slice none 0 0].toArray 78)) ∧ Row ((w.alloc (.cells [v].toArray 22)).alloc (.cells [.slice none 0 0].toArray 78)) w.heap.size 22 [v] ∧
    ListC w (w.heap.size + 1) [] (.slice none 0 0) ((w.alloc (.cells [v].toArray 22)).alloc (.cells [.slice none 0 0].toArray 78)) := by
  obtain ⟨b1, r1⟩ := box_start w 22 [v]
  have s1 := size_al w (.cells [v].toArray 22)
  generalize w.alloc (.cells [v].toArray 22) = w1 at *
  obtain ⟨b2, r2⟩ := box_start w1 78 [.slice none 0 0]
  have b := Below.andThen b1 b2 (Nat.le_refl _)
  refine ⟨b, r1.below b2 r1.lt, ⟨by rw [← s1]; exact r2, ⟨by simp [flatC], .inl ⟨rfl, rfl⟩⟩, b, by omega⟩⟩
set_option maxRecDepth 100000 in
set_option maxHeartbeats 1000000 in
theorem circles_any (ps : List Pt) (v : Value) (w : World) (hv : SlP w v ps) (hl : ps.length ≤ 12) (hps : ∀ p ∈ ps, Bd 20 p.1 ∧ Bd 20 p.2) :
    Calls Try.prog 87 #[v] w fun e w' => ∃ s, e = .returned s ∧ w'.ownsRow w.heap.size 30 4 s (circL ps).length (flatC (circL ps)) ∧ Below w.heap.size w w' := by
  have ST := Lib.hid (circ_start w v)
  obtain ⟨n, hn⟩ : ∃ n, ps.length = n := ⟨_, rfl⟩
  obtain ⟨a, c, rfl, hcap, hpt⟩ := hv
  rw [hn] at hcap hl
  rw [hn] at ST
  have HPT := Lib.hid hpt
  have HN := Lib.hid hn
  have r0 := ST.out.2.1
  have c0 := r0.cell 0
  simp only [List.getElem?_cons_zero] at c0
  clear r0 hpt hn
  rw [HN.out]
  refine callsIn_wide.1 (callsIn_of_wp_marks (F := Fence.wide) (n := 4) Try.func87 rfl trivial ?_ rfl)
  simp only [Try.ntmps87, List.size_toArray, List.length_cons, List.length_nil, Nat.reduceAdd, Nat.reduceSub, Array.replicate_succ, Array.replicate_zero, List.push_toArray, List.append_toArray, List.nil_append, List.cons_append]
  gi_wp2_with fail
  clear c0
  gi_loopw [13] (fun fv wr => ∃ i : Nat, i ≤ n ∧ fv = .int .i64 (i : Int) ∧ Hid (Row wr w.heap.size 22 [.slice a n c]) ∧ Hid (∃ lv, ListC w (w.heap.size + 1) (ovB ps i 0) lv wr)) (fun fv _ => ((n : Int) - intOf fv).toNat)
  case atStart => exact ⟨0, Nat.zero_le _, rfl, Lib.hid ST.out.2.1, Lib.hid ⟨_, by rw [ovB_0]; exact ST.out.2.2⟩⟩
  case round =>
    clear ST
    obtain ⟨i, hi, rfl, HR, HL⟩ := hrel
    obtain ⟨lv, hL⟩ := HL.out
    clear HL
    have HL := Lib.hid hL
    clear hL
    have iw : IntKind.i64.wrap ((i : Int) + 1) = ((i + 1 : Nat) : Int) := by rw [i64_of _ (by omega) (by omega)]; omega
    by_cases hlt : i < n
    · have hd : decide ((i : Int) < (n : Int)) = true := decide_eq_true (by omega)
      obtain ⟨g, o, rfl, hpa⟩ : ∃ g o, a = some ⟨g, o, none⟩ ∧ PtsAt w g o ps := by
        rcases HPT.out with h | h
        · have h2 := HN.out; subst h; simp at h2; omega
        · exact h
      have hin : i < ps.length := by rw [HN.out]; exact hlt
      have hpa2 := hpa.grow HL.out.bw
      have x0 := hpa2.x i hin
      have y0 := hpa2.y i hin
      have c0 := HR.out.cell 0
      simp only [List.getElem?_cons_zero] at c0
      have HPA := Lib.hid hpa
      have hbd := hps _ (List.getElem_mem hin)
      have HBD := Lib.hid hbd
      have HIP := Lib.hid (ptAt_lt hin)
      generalize ps[i] = p at *
      obtain ⟨p1, p2⟩ := p
      dsimp only at x0 y0
      obtain ⟨ba, rp⟩ := box_start wr 28 [.int .i64 p1, .int .i64 p2]
      have rb := HR.out.below ba HR.out.lt
      have lb := HL.out.below ba
      have c1 := rb.cell 0
      simp only [List.getElem?_cons_zero] at c1
      have FA := Lib.hid (And.intro rp (And.intro rb lb))
      have hic : (i : Int) ≤ (c : Int) := by omega
      have hin2 : (i : Int) ≤ (n : Int) := by omega
      clear hpa hpa2 hbd hin HPT rp rb lb ba
      gi_wp2_with fail
      clear c1 c0 x0 y0 hd hic hin2 iw
      obtain ⟨m, hm⟩ : ∃ m, n - i = m := ⟨_, rfl⟩
      rw [hm]
      have HM := Lib.hid (show m + i = n by omega)
      clear hm
      generalize wr.heap.size = bp at *
      gi_loopw [22] (fun tv wx => ∃ k : Nat, k ≤ m ∧ tv = .int .i64 (k : Int) ∧ Hid (Row wx bp 28 [.int .i64 p1, .int .i64 p2]) ∧ Hid (Row wx w.heap.size 22 [.slice (some ⟨g, o, none⟩) n c]) ∧ Hid (∃ lv, ListC w (w.heap.size + 1) (ovB ps i k) lv wx)) (fun tv _ => ((m : Int) - intOf tv).toNat)
      case atStart => exact ⟨0, Nat.zero_le _, rfl, Lib.hid FA.out.1, Lib.hid FA.out.2.1, Lib.hid ⟨_, FA.out.2.2⟩⟩
      case round =>
        clear FA HR HL
        obtain ⟨k, hk, rfl, HP, HR, HL⟩ := hrel
        obtain ⟨lv2, hL⟩ := HL.out
        clear HL
        have HL := Lib.hid hL
        clear hL
        by_cases hlt2 : k < m
        · have hd : decide ((k : Int) < (m : Int)) = true := decide_eq_true (by omega)
          have hin : i + k < ps.length := by rw [HN.out]; have := HM.out; omega
          have hpa2 := HPA.out.grow HL.out.bw
          have x0 := hpa2.x (i + k) hin
          have y0 := hpa2.y (i + k) hin
          rw [show o + (i + k) * 2 = o + i * 2 + k * 2 by omega] at x0 y0
          have HBQ := Lib.hid (hps _ (List.getElem_mem hin))
          have HIQ := Lib.hid (ptAt_lt hin)
          generalize ps[i + k] = q at *
          obtain ⟨q1, q2⟩ := q
          dsimp only at x0 y0
          obtain ⟨ba, rq⟩ := box_start wr 28 [.int .i64 q1, .int .i64 q2]
          have FA := Lib.hid (And.intro rq (And.intro (HP.out.below ba HP.out.lt) (And.intro (HR.out.below ba HR.out.lt) (HL.out.below ba))))
          clear hpa2 hin rq ba
          gi_wp2_with fail
          clear x0 y0 hd
          have hov := fun (W : World) => over_any p1 p2 q1 q2 W HBD.out.1 HBD.out.2 HBQ.out.1 HBQ.out.2
          have hcs : ovB ps i (k + 1) = ovB ps i k ++ [ovC (p1, p2) (q1, q2)] := by rw [ovB_step, HIP.out, HIQ.out]
          rw [show rndV (p1 + q1) (p2 + q2) 2 (p1, p2) = .agg #[.int .i64 (ovC (p1, p2) (q1, q2)).X, .int .i64 (ovC (p1, p2) (q1, q2)).Y, .int .i64 (ovC (p1, p2) (q1, q2)).D, .int .i64 (ovC (p1, p2) (q1, q2)).R] from rfl] at hov
          generalize ovC (p1, p2) (q1, q2) = C at *
          have HOV := Lib.hid hov
          have HCS := Lib.hid hcs
          clear hov hcs
          have hLs := wr.heap.size
          generalize wr.alloc (.cells #[.int .i64 q1, .int .i64 q2] 28) = W0 at *
          generalize wr.heap.size = bq at *
          refine wpIn_region_relcut 5 (by kernel_rfl) (by kernel_rfl) [26, 27, 28, 29, 30] [LitR lv2, LitR (.agg #[.int .i64 p1, .int .i64 p2]), LitR (.agg #[.int .i64 q1, .int .i64 q2]), LitR (.agg #[.int .i64 C.X, .int .i64 C.Y, .int .i64 C.D, .int .i64 C.R]), OneC C]
            (List.forall_mem_cons.2 ⟨LitR.stab _, List.forall_mem_cons.2 ⟨LitR.stab _, List.forall_mem_cons.2 ⟨LitR.stab _, List.forall_mem_cons.2 ⟨LitR.stab _, List.forall_mem_cons.2 ⟨OneC.stab _, (fun _ h => nomatch h)⟩⟩⟩⟩⟩)
            ⟨[u26, u27, u28, u29, u30], by simp only [putAll, Act.put, List.setIfInBounds_toArray, List.set_cons_succ, List.set_cons_zero], rfl⟩ ?steps ?fin
          case steps =>
            intro Q'
            simp only [relStepsIn, List.take_succ_cons, List.take_zero]
            refine ⟨?_, ?_, ?_, ?_, ?_, trivial⟩
            · rintro vs W K hc hvl hw hK
              obtain ⟨x0, x1, x2, x3, x4, rfl⟩ := len5 hvl
              have HK := Lib.hid hK
              have HC := Lib.hid hc
              have HW := Lib.hid hw
              clear hK hc hw hvl
              have rr := (FA.out.2.2.2.below HC.out).row
              have d0 := rr.cell 0
              simp only [List.getElem?_cons_zero] at d0
              clear rr
              clear HW
              simp only [putAll, Act.put, List.setIfInBounds_toArray, List.set_cons_succ, List.set_cons_zero]
              gi_wp2_with fail
              have fin := HK.out (lv2) W (Below.refl _ _) rfl
              simp only [putAll, Act.put, List.setIfInBounds_toArray, List.set_cons_succ, List.set_cons_zero] at fin
              exact fin
            · rintro vs W K hc hvl hw hK
              obtain ⟨x0, x1, x2, x3, x4, rfl⟩ := len5 hvl
              have HK := Lib.hid hK
              have HC := Lib.hid hc
              have HW := Lib.hid hw
              clear hK hc hw hvl
              have rr := FA.out.2.1.below HC.out FA.out.2.1.lt
              have d0 := rr.cell 0
              have d1 := rr.cell 1
              simp only [List.getElem?_cons_zero, List.getElem?_cons_succ] at d0 d1
              clear rr
              clear HW
              simp only [putAll, Act.put, List.setIfInBounds_toArray, List.set_cons_succ, List.set_cons_zero]
              gi_wp2_with fail
              have fin := HK.out (.agg #[.int .i64 p1, .int .i64 p2]) W (Below.refl _ _) rfl
              simp only [putAll, Act.put, List.setIfInBounds_toArray, List.set_cons_succ, List.set_cons_zero] at fin
              exact fin
            · rintro vs W K hc hvl hw hK
              obtain ⟨x0, x1, x2, x3, x4, rfl⟩ := len5 hvl
              have HK := Lib.hid hK
              have HC := Lib.hid hc
              have HW := Lib.hid hw
              clear hK hc hw hvl
              have rr := FA.out.1.below HC.out FA.out.1.lt
              have d0 := rr.cell 0
              have d1 := rr.cell 1
              simp only [List.getElem?_cons_zero, List.getElem?_cons_succ] at d0 d1
              clear rr
              clear HW
              simp only [putAll, Act.put, List.setIfInBounds_toArray, List.set_cons_succ, List.set_cons_zero]
              gi_wp2_with fail
              have fin := HK.out (.agg #[.int .i64 q1, .int .i64 q2]) W (Below.refl _ _) rfl
              simp only [putAll, Act.put, List.setIfInBounds_toArray, List.set_cons_succ, List.set_cons_zero] at fin
              exact fin
            · rintro vs W K hc hvl hw hK
              obtain ⟨x0, x1, x2, x3, x4, rfl⟩ := len5 hvl
              have HK := Lib.hid hK
              have HC := Lib.hid hc
              have HW := Lib.hid hw
              clear hK hc hw hvl
              obtain rfl : x1 = .agg #[.int .i64 p1, .int .i64 p2] := rel_get (HW.out ⟨1, .data⟩ (by simp) rfl) rfl
              obtain rfl : x2 = .agg #[.int .i64 q1, .int .i64 q2] := rel_get (HW.out ⟨2, .data⟩ (by simp) rfl) rfl
              clear HW
              simp only [putAll, Act.put, List.setIfInBounds_toArray, List.set_cons_succ, List.set_cons_zero]
              gi_wp2_with fail
              refine ⟨trivial, (callsIn_wide.2 (HOV.out W)).mono ?_⟩
              rintro e W' ⟨rfl, hb'⟩
              have HB' := Lib.hid hb'
              clear hb'
              gi_wp2_with fail
              have fin := HK.out (.agg #[.int .i64 C.X, .int .i64 C.Y, .int .i64 C.D, .int .i64 C.R]) W' HB'.out rfl
              simp only [putAll, Act.put, List.setIfInBounds_toArray, List.set_cons_succ, List.set_cons_zero] at fin
              exact fin
            · rintro vs W K hc hvl hw hK
              obtain ⟨x0, x1, x2, x3, x4, rfl⟩ := len5 hvl
              have HK := Lib.hid hK
              have HC := Lib.hid hc
              have HW := Lib.hid hw
              clear hK hc hw hvl
              obtain rfl : x3 = .agg #[.int .i64 C.X, .int .i64 C.Y, .int .i64 C.D, .int .i64 C.R] := rel_get (HW.out ⟨3, .data⟩ (by simp) rfl) rfl
              clear HW
              simp only [putAll, Act.put, List.setIfInBounds_toArray, List.set_cons_succ, List.set_cons_zero]
              gi_wp2_with fail
              have fin := HK.out (.slice (some ⟨W.heap.size, 0, none⟩) 1 1) (W.alloc (.cells #[.int .i64 C.X, .int .i64 C.Y, .int .i64 C.D, .int .i64 C.R] 30)) (Below.al (Below.refl _ _) (Nat.le_refl _) _) ⟨_, rfl, Row.new W 30 [.int .i64 C.X, .int .i64 C.Y, .int .i64 C.D, .int .i64 C.R]⟩
              simp only [putAll, Act.put, List.setIfInBounds_toArray, List.set_cons_succ, List.set_cons_zero] at fin
              exact fin
          case fin =>
            intro vs W hbw hvl hvs
            obtain ⟨x0, x1, x2, x3, x4, rfl⟩ := len5 hvl
            obtain rfl : x0 = _ := rel_get (hvs 0 (by omega)) rfl
            obtain rfl : x1 = _ := rel_get (hvs 1 (by omega)) rfl
            obtain rfl : x2 = _ := rel_get (hvs 2 (by omega)) rfl
            obtain rfl : x3 = _ := rel_get (hvs 3 (by omega)) rfl
            obtain ⟨gq, rfl, rg⟩ := rel_get (x := x4) (hvs 4 (by omega)) rfl
            have hlen := ovB_len ps i k
            rw [HN.out] at hlen
            have hin2 : i * n ≤ 12 * 12 := Nat.mul_le_mul (by omega) (by omega)
            obtain ⟨a2, n2, c2, W2, hap, r2, hL2, hX⟩ := (FA.out.2.2.2.below hbw).add rg (by have := HM.out; omega)
            rw [← HCS.out] at hL2
            have RP := Lib.hid (hX.row rfl (FA.out.2.1.below hbw FA.out.2.1.lt))
            have RR := Lib.hid (hX.row rfl (FA.out.2.2.1.below hbw FA.out.2.2.1.lt))
            have HL2 := Lib.hid hL2
            have HAP := Lib.hid hap
            have d0 := r2.cell 0
            simp only [List.getElem?_cons_zero] at d0
            have d1 : W2.frozen? ⟨w.heap.size + 1, 0, none⟩ = false := by simp [World.frozen?, show W2.heap[w.heap.size + 1]? = _ from r2]
            have jw : IntKind.i64.wrap ((k : Int) + 1) = ((k + 1 : Nat) : Int) := by have := HM.out; rw [i64_of _ (by omega) (by omega)]; omega
            clear hbw hvl hvs rg hlen hin2 r2 hL2 hX hap
            simp only [putAll, Act.put, List.setIfInBounds_toArray, List.set_cons_succ, List.set_cons_zero]
            simp only [List.drop_succ_cons, List.drop_zero]
            gi_wp2_with (gi_at_builtin; refine appendC_run rfl _ _ 78 rfl _ _ _ _ rfl rfl HAP.out ?_)
            exact ⟨⟨k + 1, by omega, by simp, RP, RR, Lib.hid ⟨_, HL2.out⟩⟩, by simp [intOf]; omega⟩
        · have hd : decide ((k : Int) < (m : Int)) = false := decide_eq_false (by omega)
          have iw : IntKind.i64.wrap ((i : Int) + 1) = ((i + 1 : Nat) : Int) := by rw [i64_of _ (by omega) (by omega)]; omega
          gi_wp2_with fail
          exact ⟨⟨i + 1, by omega, by simp, HR, Lib.hid ⟨lv2, by rw [ovB_next, HN.out, show n - i = k by have := HM.out; omega]; exact HL.out⟩⟩, by simp [intOf]; omega⟩
    · have hd : decide ((i : Int) < (n : Int)) = false := decide_eq_false (by omega)
      obtain rfl : n = i := by omega
      have c0 := HR.out.cell 0
      simp only [List.getElem?_cons_zero] at c0
      have HTR := Lib.hid (triples_any (n : Int) wr)
      clear hlt iw
      gi_wp2_with fail
      refine ⟨trivial, (callsIn_wide.2 HTR.out).mono ?_⟩
      rintro e w2 ⟨rfl, hb, rt⟩
      have rb2 := HR.out.below hb HR.out.lt
      have lc2 := HL.out.below hb
      have SL := Lib.hid (triples_seq n wr.heap.size wr.heap.size (by omega) (Nat.le_refl _) w2 rt)
      have KK := Lib.hid (And.intro rb2 (And.intro lc2 hb.size))
      clear rb2 lc2 hb rt HTR c0
      gi_wp2_with fail
      refine range_list SL.out rfl (enters_of Try.func89 (by kernel_rfl) rfl)
        (fun pre V => Row V w.heap.size 22 [.slice a n c] ∧ ∃ lv, ListC w (w.heap.size + 1) (ovB ps n 0 ++ pre.flatMap (thT ps)) lv V)
        (fun _ _ _ => False) ?hI ?hIx ?h0
        (fun x a' V => ∃ b, a' = { tmps := #[Value.slice a n c, .pointer (some ⟨w.heap.size, 0, none⟩), Value.slice none 0 0, .pointer (some ⟨w.heap.size + 1, 0, none⟩), u4, u5, undef, u7, .pointer (some ⟨b, 0, none⟩), undef, undef, Value.slice a n c, .int .i64 (n : Int), .int .i64 (n : Int), .bool false, u15, u16, u17, u18, u19, u20, u21, u22, u23, u24, u25, u26, u27, u28, u29, u30, u31, u32, u33, Value.slice a n c, .int .i64 (n : Int), .func (.func 89) #[] #[.pointer (some ⟨wr.heap.size, 0, none⟩)], encT x, undef, undef, undef, undef, undef, undef, undef, undef, undef, undef, undef, undef, undef, undef, undef, undef, undef, undef, undef, undef, undef, undef, undef, undef, undef], defers := [] } ∧ wr.heap.size ≤ b ∧ Row V b 71 [.int .i64 (x.1 : Int), .int .i64 (x.2.1 : Int), .int .i64 (x.2.2 : Int)])
        ?hR ?assign ?body ?done ?stop
      case hI =>
        rintro pre V V' row ⟨h1, lv', h2⟩ hg hr
        exact ⟨lasts_row _ _ _ _ V V' row h1 hg hr, lv', lasts_listC _ _ _ _ _ KK.out.2.1.bw.size V V' row h2 hg hr⟩
      case hIx => exact fun _ _ _ _ _ h _ _ => h
      case h0 => exact ⟨KK.out.1, _, by simpa using KK.out.2.1⟩
      case hR =>
        rintro x a' V V' row ⟨b, h1, h2, h3⟩ hg hr
        exact ⟨b, h1, h2, lasts_row _ _ _ _ V V' row h3 hg hr⟩
      case assign =>
        intro l2 x V K hs hK
        have hk := hK _ _ ⟨_, rfl, by have := KK.out.2.2; omega, Row.new V 71 [.int .i64 (x.1 : Int), .int .i64 (x.2.1 : Int), .int .i64 (x.2.2 : Int)]⟩ ((Below.refl V.heap.size V).alloc (Nat.le_refl _) _)
        have HKk := Lib.hid hk
        clear hk hK
        dsimp only [encT]
        simp only [List.setIfInBounds_toArray, List.set_cons_succ, List.set_cons_zero]
        gi_wp2
        exact HKk.out
      case stop =>
        rintro D c pre V hD hpre hf hK
        exact hf.elim
      case done =>
        rintro D V hD ⟨h1, lv', h2⟩ hK
        have c0 := h2.row.cell 0
        simp only [List.getElem?_cons_zero] at c0
        have HA := Lib.hid h2
        have hK' := Lib.hid (mark1 hK (show w.heap.size ≤ D from Nat.le_trans KK.out.2.1.bw.size hD))
        rw [show ovB ps n 0 ++ (trL n).flatMap (thT ps) = circL ps by unfold circL; rw [HN.out]] at HA
        clear h1 h2 hK
        dsimp only
        simp only [Exit.inBlock]
        gi_wp2_with fail
        refine leaves_marks (B := w.heap.size) (fun X => X.ownsRow w.heap.size 30 4 lv' (circL ps).length (flatC (circL ps)) ∧ Below w.heap.size w X)
          ((lasts_owns _ _ _ _ _ _ _).and (lasts_below _ _ _ (Nat.le_refl _) (Nat.le_refl _))) ?_ _ _ hK'.out ⟨owns_mono HA.out.own (by omega), HA.out.bw⟩
        rintro X ⟨ho, hb⟩
        refine ⟨lv', ?_, lv', rfl, ho, hb⟩
        simp [results, Try.results87, go_sem]
      case body =>
        rintro l2 x pre a' V hpre hs ⟨h1, lv', h2⟩ ⟨b, rfl, hb, hr⟩
        have hx := mem_trL.1 (hpre.subset (by simp : x ∈ pre ++ [x]))
        obtain ⟨t0, t1, t2⟩ := x
        dsimp only at hx hr
        obtain ⟨g, o, rfl, hpa⟩ : ∃ g o, a = some ⟨g, o, none⟩ ∧ PtsAt w g o ps := by
          rcases HPT.out with h | h
          · have h2 := HN.out; subst h; simp at h2; omega
          · exact h
        have hpa2 := hpa.grow h2.bw
        have i0 : t0 < ps.length := by rw [HN.out]; omega
        have i1 : t1 < ps.length := by rw [HN.out]; omega
        have i2 : t2 < ps.length := by rw [HN.out]; omega
        have HX0 := Lib.hid (And.intro (fun W (hb : Below V.heap.size V W) => (hpa2.grow hb).x t0 i0) (fun W (hb : Below V.heap.size V W) => (hpa2.grow hb).y t0 i0))
        have HX1 := Lib.hid (And.intro (fun W (hb : Below V.heap.size V W) => (hpa2.grow hb).x t1 i1) (fun W (hb : Below V.heap.size V W) => (hpa2.grow hb).y t1 i1))
        have HX2 := Lib.hid (And.intro (fun W (hb : Below V.heap.size V W) => (hpa2.grow hb).x t2 i2) (fun W (hb : Below V.heap.size V W) => (hpa2.grow hb).y t2 i2))
        have q0 := hps _ (List.getElem_mem i0)
        have q1 := hps _ (List.getElem_mem i1)
        have q2 := hps _ (List.getElem_mem i2)
        have ht : thT ps (t0, t1, t2) = if thD ps[t0] ps[t1] ps[t2] = 0 then [] else [thC ps[t0] ps[t1] ps[t2]] := by
          unfold thT
          dsimp only
          rw [ptAt_lt i0, ptAt_lt i1, ptAt_lt i2]
        generalize ps[t0] = p0 at *
        generalize ps[t1] = p1 at *
        generalize ps[t2] = p2 at *
        obtain ⟨a0, b0⟩ := p0
        obtain ⟨a1, b1⟩ := p1
        obtain ⟨a2, b2⟩ := p2
        dsimp only at HX0 HX1 HX2 q0 q1 q2
        have hth := fun (W : World) => through_any a0 b0 a1 b1 a2 b2 W q0.1 q0.2 q1.1 q1.2 q2.1 q2.2
        obtain ⟨X, Y, D, R, E, hV, hE, hC⟩ : ∃ X Y D R E, thrV (a0, b0) (a1, b1) (a2, b2) = .agg #[.int .i64 X, .int .i64 Y, .int .i64 D, .int .i64 R] ∧ (!decide (thD (a0, b0) (a1, b1) (a2, b2) = 0)) = E ∧ thT ps (t0, t1, t2) = if E = true then [⟨X, Y, D, R⟩] else [] := by
          rw [ht]
          by_cases hz : thD (a0, b0) (a1, b1) (a2, b2) = 0
          · exact ⟨0, 0, 0, 0, false, by unfold thrV; rw [if_pos hz]; rfl, by simp [hz], by rw [if_pos hz]; rfl⟩
          · exact ⟨_, _, _, _, true, by unfold thrV; rw [if_neg hz]; rfl, by simp [hz], by rw [if_neg hz, if_pos rfl]; rfl⟩
        rw [hV, hE] at hth
        have HTH := Lib.hid hth
        have HCE := Lib.hid hC
        have HB3 := Lib.hid hx
        have HF := Lib.hid (And.intro h1 (And.intro h2 (And.intro hr (And.intro hs hb))))
        have HPRE := Lib.hid hpre
        clear hth hV hE hC ht q0 q1 q2 i0 i1 i2 hpa2 hpa hx h1 h2 hr hs hb hpre
        dsimp only [encT]
        gi_wp2_with fail
        refine wpIn_region_box (by kernel_rfl) (by kernel_rfl) [39, 40, 41, 42, 43, 44, 45, 46, 47, 48, 49, 50, 51, 52, 53, 54, 38, 55, 56, 9, 1000, 10] [(fun v => v = .slice (some ⟨g, o, none⟩) n c), (fun v => v = .pointer (some ⟨b, 0, none⟩)), (fun v => v = .int .i64 (t0 : Int)), (fun v => v = .pointer (some ⟨g, o + t0 * 2, none⟩)), (fun v => v = .agg #[.int .i64 a0, .int .i64 b0]), (fun v => v = .slice (some ⟨g, o, none⟩) n c), (fun v => v = .pointer (some ⟨b, 1, none⟩)), (fun v => v = .int .i64 (t1 : Int)), (fun v => v = .pointer (some ⟨g, o + t1 * 2, none⟩)), (fun v => v = .agg #[.int .i64 a1, .int .i64 b1]), (fun v => v = .slice (some ⟨g, o, none⟩) n c), (fun v => v = .pointer (some ⟨b, 2, none⟩)), (fun v => v = .int .i64 (t2 : Int)), (fun v => v = .pointer (some ⟨g, o + t2 * 2, none⟩)), (fun v => v = .agg #[.int .i64 a2, .int .i64 b2]), (fun v => v = .tuple #[.agg #[.int .i64 X, .int .i64 Y, .int .i64 D, .int .i64 R], .bool E]), (fun v => v = .tuple #[.agg #[.int .i64 X, .int .i64 Y, .int .i64 D, .int .i64 R], .bool E]), (fun v => v = .agg #[.int .i64 X, .int .i64 Y, .int .i64 D, .int .i64 R]), (fun v => v = .bool E), (fun _ => True), (fun _ => True), (fun v => v = .bool E)] [none, none, none, none, none, none, none, none, none, none, none, none, none, none, none, none, none, none, none, some (30, [.int .i64 0, .int .i64 0, .int .i64 0, .int .i64 0], [.int .i64 X, .int .i64 Y, .int .i64 D, .int .i64 R]), none, none] [none, none, none, none, none, none, none, none, none, none, none, none, none, none, none, none, none, none, none, none, some 19, none] 22 rfl (by kernel_rfl) ?tr ⟨[undef, undef, undef, undef, undef, undef, undef, undef, undef, undef, undef, undef, undef, undef, undef, undef, undef, undef, undef, undef, undef, undef], by simp only [putAll, Act.put, List.setIfInBounds_toArray, List.set_cons_succ, List.set_cons_zero, List.set_nil], rfl⟩ ?steps ?fin
        case tr =>
          rintro i v h
          rcases i with _ | _ | _ | _ | _ | _ | _ | _ | _ | _ | _ | _ | _ | _ | _ | _ | _ | _ | _ | _ | _ | _ | i
          all_goals first | trivial | (exfalso; rcases h with h | h <;> simp at h)
        case steps =>
          simp only [boxStepsIn, Nat.reduceAdd, Nat.zero_add, List.getD_cons_succ, List.getD_cons_zero]
          refine ⟨?_, ?_, ?_, ?_, ?_, ?_, ?_, ?_, ?_, ?_, ?_, ?_, ?_, ?_, ?_, ?_, ?_, ?_, ?_, ?_, ?_, ?_, trivial⟩
          · rintro vs W K hc hvl hw hK
            obtain ⟨x0, x1, x2, x3, x4, x5, x6, x7, x8, x9, x10, x11, x12, x13, x14, x15, x16, x17, x18, x19, x20, x21, rfl⟩ := len22 hvl
            have HK := Lib.hid hK
            have HC := Lib.hid hc
            have HW := Lib.hid hw
            clear hK hc hw hvl
            simp only [putAll, Act.put, List.setIfInBounds_toArray, List.set_cons_succ, List.set_cons_zero, List.set_nil]
            have rr := HF.out.1.below HC.out HF.out.1.lt
            have d0 := rr.cell 0
            simp only [List.getElem?_cons_zero] at d0
            clear rr
            clear HW
            gi_wp2_with fail
            have fin := HK.out (.slice (some ⟨g, o, none⟩) n c) W (Below.refl _ _) rfl
            simp only [putAll, Act.put, List.setIfInBounds_toArray, List.set_cons_succ, List.set_cons_zero, List.set_nil] at fin
            exact fin
          · rintro vs W K hc hvl hw hK
            obtain ⟨x0, x1, x2, x3, x4, x5, x6, x7, x8, x9, x10, x11, x12, x13, x14, x15, x16, x17, x18, x19, x20, x21, rfl⟩ := len22 hvl
            have HK := Lib.hid hK
            have HC := Lib.hid hc
            have HW := Lib.hid hw
            clear hK hc hw hvl
            simp only [putAll, Act.put, List.setIfInBounds_toArray, List.set_cons_succ, List.set_cons_zero, List.set_nil]
            clear HW
            gi_wp2_with fail
            have fin := HK.out (.pointer (some ⟨b, 0, none⟩)) W (Below.refl _ _) rfl
            simp only [putAll, Act.put, List.setIfInBounds_toArray, List.set_cons_succ, List.set_cons_zero, List.set_nil] at fin
            exact fin
          · rintro vs W K hc hvl hw hK
            obtain ⟨x0, x1, x2, x3, x4, x5, x6, x7, x8, x9, x10, x11, x12, x13, x14, x15, x16, x17, x18, x19, x20, x21, rfl⟩ := len22 hvl
            have HK := Lib.hid hK
            have HC := Lib.hid hc
            have HW := Lib.hid hw
            clear hK hc hw hvl
            obtain rfl : x1 = .pointer (some ⟨b, 0, none⟩) := box_get (HW.out ⟨1, .data⟩ (by simp) rfl) rfl
            simp only [putAll, Act.put, List.setIfInBounds_toArray, List.set_cons_succ, List.set_cons_zero, List.set_nil]
            have rr := HF.out.2.2.1.below HC.out HF.out.2.2.1.lt
            have d0 := rr.cell 0
            simp only [List.getElem?_cons_zero] at d0
            clear rr
            clear HW
            gi_wp2_with fail
            have fin := HK.out (.int .i64 (t0 : Int)) W (Below.refl _ _) rfl
            simp only [putAll, Act.put, List.setIfInBounds_toArray, List.set_cons_succ, List.set_cons_zero, List.set_nil] at fin
            exact fin
          · rintro vs W K hc hvl hw hK
            obtain ⟨x0, x1, x2, x3, x4, x5, x6, x7, x8, x9, x10, x11, x12, x13, x14, x15, x16, x17, x18, x19, x20, x21, rfl⟩ := len22 hvl
            have HK := Lib.hid hK
            have HC := Lib.hid hc
            have HW := Lib.hid hw
            clear hK hc hw hvl
            obtain rfl : x0 = .slice (some ⟨g, o, none⟩) n c := box_get (HW.out ⟨0, .data⟩ (by simp) rfl) rfl
            obtain rfl : x2 = .int .i64 (t0 : Int) := box_get (HW.out ⟨2, .data⟩ (by simp) rfl) rfl
            simp only [putAll, Act.put, List.setIfInBounds_toArray, List.set_cons_succ, List.set_cons_zero, List.set_nil]
            have hi1 : (t0 : Int) < (n : Int) := by have := HB3.out; omega
            clear HW
            gi_wp2_with fail
            have fin := HK.out (.pointer (some ⟨g, o + t0 * 2, none⟩)) W (Below.refl _ _) rfl
            simp only [putAll, Act.put, List.setIfInBounds_toArray, List.set_cons_succ, List.set_cons_zero, List.set_nil] at fin
            exact fin
          · rintro vs W K hc hvl hw hK
            obtain ⟨x0, x1, x2, x3, x4, x5, x6, x7, x8, x9, x10, x11, x12, x13, x14, x15, x16, x17, x18, x19, x20, x21, rfl⟩ := len22 hvl
            have HK := Lib.hid hK
            have HC := Lib.hid hc
            have HW := Lib.hid hw
            clear hK hc hw hvl
            obtain rfl : x3 = .pointer (some ⟨g, o + t0 * 2, none⟩) := box_get (HW.out ⟨3, .data⟩ (by simp) rfl) rfl
            simp only [putAll, Act.put, List.setIfInBounds_toArray, List.set_cons_succ, List.set_cons_zero, List.set_nil]
            have d0 := HX0.out.1 W HC.out
            have d1 := HX0.out.2 W HC.out
            clear HW
            gi_wp2_with fail
            have fin := HK.out (.agg #[.int .i64 a0, .int .i64 b0]) W (Below.refl _ _) rfl
            simp only [putAll, Act.put, List.setIfInBounds_toArray, List.set_cons_succ, List.set_cons_zero, List.set_nil] at fin
            exact fin
          · rintro vs W K hc hvl hw hK
            obtain ⟨x0, x1, x2, x3, x4, x5, x6, x7, x8, x9, x10, x11, x12, x13, x14, x15, x16, x17, x18, x19, x20, x21, rfl⟩ := len22 hvl
            have HK := Lib.hid hK
            have HC := Lib.hid hc
            have HW := Lib.hid hw
            clear hK hc hw hvl
            simp only [putAll, Act.put, List.setIfInBounds_toArray, List.set_cons_succ, List.set_cons_zero, List.set_nil]
            have rr := HF.out.1.below HC.out HF.out.1.lt
            have d0 := rr.cell 0
            simp only [List.getElem?_cons_zero] at d0
            clear rr
            clear HW
            gi_wp2_with fail
            have fin := HK.out (.slice (some ⟨g, o, none⟩) n c) W (Below.refl _ _) rfl
            simp only [putAll, Act.put, List.setIfInBounds_toArray, List.set_cons_succ, List.set_cons_zero, List.set_nil] at fin
            exact fin
          · rintro vs W K hc hvl hw hK
            obtain ⟨x0, x1, x2, x3, x4, x5, x6, x7, x8, x9, x10, x11, x12, x13, x14, x15, x16, x17, x18, x19, x20, x21, rfl⟩ := len22 hvl
            have HK := Lib.hid hK
            have HC := Lib.hid hc
            have HW := Lib.hid hw
            clear hK hc hw hvl
            simp only [putAll, Act.put, List.setIfInBounds_toArray, List.set_cons_succ, List.set_cons_zero, List.set_nil]
            clear HW
            gi_wp2_with fail
            have fin := HK.out (.pointer (some ⟨b, 1, none⟩)) W (Below.refl _ _) rfl
            simp only [putAll, Act.put, List.setIfInBounds_toArray, List.set_cons_succ, List.set_cons_zero, List.set_nil] at fin
            exact fin
          · rintro vs W K hc hvl hw hK
            obtain ⟨x0, x1, x2, x3, x4, x5, x6, x7, x8, x9, x10, x11, x12, x13, x14, x15, x16, x17, x18, x19, x20, x21, rfl⟩ := len22 hvl
            have HK := Lib.hid hK
            have HC := Lib.hid hc
            have HW := Lib.hid hw
            clear hK hc hw hvl
            obtain rfl : x6 = .pointer (some ⟨b, 1, none⟩) := box_get (HW.out ⟨6, .data⟩ (by simp) rfl) rfl
            simp only [putAll, Act.put, List.setIfInBounds_toArray, List.set_cons_succ, List.set_cons_zero, List.set_nil]
            have rr := HF.out.2.2.1.below HC.out HF.out.2.2.1.lt
            have d0 := rr.cell 1
            simp only [List.getElem?_cons_zero, List.getElem?_cons_succ] at d0
            clear rr
            clear HW
            gi_wp2_with fail
            have fin := HK.out (.int .i64 (t1 : Int)) W (Below.refl _ _) rfl
            simp only [putAll, Act.put, List.setIfInBounds_toArray, List.set_cons_succ, List.set_cons_zero, List.set_nil] at fin
            exact fin
          · rintro vs W K hc hvl hw hK
            obtain ⟨x0, x1, x2, x3, x4, x5, x6, x7, x8, x9, x10, x11, x12, x13, x14, x15, x16, x17, x18, x19, x20, x21, rfl⟩ := len22 hvl
            have HK := Lib.hid hK
            have HC := Lib.hid hc
            have HW := Lib.hid hw
            clear hK hc hw hvl
            obtain rfl : x5 = .slice (some ⟨g, o, none⟩) n c := box_get (HW.out ⟨5, .data⟩ (by simp) rfl) rfl
            obtain rfl : x7 = .int .i64 (t1 : Int) := box_get (HW.out ⟨7, .data⟩ (by simp) rfl) rfl
            simp only [putAll, Act.put, List.setIfInBounds_toArray, List.set_cons_succ, List.set_cons_zero, List.set_nil]
            have hi1 : (t1 : Int) < (n : Int) := by have := HB3.out; omega
            clear HW
            gi_wp2_with fail
            have fin := HK.out (.pointer (some ⟨g, o + t1 * 2, none⟩)) W (Below.refl _ _) rfl
            simp only [putAll, Act.put, List.setIfInBounds_toArray, List.set_cons_succ, List.set_cons_zero, List.set_nil] at fin
            exact fin
          · rintro vs W K hc hvl hw hK
            obtain ⟨x0, x1, x2, x3, x4, x5, x6, x7, x8, x9, x10, x11, x12, x13, x14, x15, x16, x17, x18, x19, x20, x21, rfl⟩ := len22 hvl
            have HK := Lib.hid hK
            have HC := Lib.hid hc
            have HW := Lib.hid hw
            clear hK hc hw hvl
            obtain rfl : x8 = .pointer (some ⟨g, o + t1 * 2, none⟩) := box_get (HW.out ⟨8, .data⟩ (by simp) rfl) rfl
            simp only [putAll, Act.put, List.setIfInBounds_toArray, List.set_cons_succ, List.set_cons_zero, List.set_nil]
            have d0 := HX1.out.1 W HC.out
            have d1 := HX1.out.2 W HC.out
            clear HW
            gi_wp2_with fail
            have fin := HK.out (.agg #[.int .i64 a1, .int .i64 b1]) W (Below.refl _ _) rfl
            simp only [putAll, Act.put, List.setIfInBounds_toArray, List.set_cons_succ, List.set_cons_zero, List.set_nil] at fin
            exact fin
          · rintro vs W K hc hvl hw hK
            obtain ⟨x0, x1, x2, x3, x4, x5, x6, x7, x8, x9, x10, x11, x12, x13, x14, x15, x16, x17, x18, x19, x20, x21, rfl⟩ := len22 hvl
            have HK := Lib.hid hK
            have HC := Lib.hid hc
            have HW := Lib.hid hw
            clear hK hc hw hvl
            simp only [putAll, Act.put, List.setIfInBounds_toArray, List.set_cons_succ, List.set_cons_zero, List.set_nil]
            have rr := HF.out.1.below HC.out HF.out.1.lt
            have d0 := rr.cell 0
            simp only [List.getElem?_cons_zero] at d0
            clear rr
            clear HW
            gi_wp2_with fail
            have fin := HK.out (.slice (some ⟨g, o, none⟩) n c) W (Below.refl _ _) rfl
            simp only [putAll, Act.put, List.setIfInBounds_toArray, List.set_cons_succ, List.set_cons_zero, List.set_nil] at fin
            exact fin
          · rintro vs W K hc hvl hw hK
            obtain ⟨x0, x1, x2, x3, x4, x5, x6, x7, x8, x9, x10, x11, x12, x13, x14, x15, x16, x17, x18, x19, x20, x21, rfl⟩ := len22 hvl
            have HK := Lib.hid hK
            have HC := Lib.hid hc
            have HW := Lib.hid hw
            clear hK hc hw hvl
            simp only [putAll, Act.put, List.setIfInBounds_toArray, List.set_cons_succ, List.set_cons_zero, List.set_nil]
            clear HW
            gi_wp2_with fail
            have fin := HK.out (.pointer (some ⟨b, 2, none⟩)) W (Below.refl _ _) rfl
            simp only [putAll, Act.put, List.setIfInBounds_toArray, List.set_cons_succ, List.set_cons_zero, List.set_nil] at fin
            exact fin
          · rintro vs W K hc hvl hw hK
            obtain ⟨x0, x1, x2, x3, x4, x5, x6, x7, x8, x9, x10, x11, x12, x13, x14, x15, x16, x17, x18, x19, x20, x21, rfl⟩ := len22 hvl
            have HK := Lib.hid hK
            have HC := Lib.hid hc
            have HW := Lib.hid hw
            clear hK hc hw hvl
            obtain rfl : x11 = .pointer (some ⟨b, 2, none⟩) := box_get (HW.out ⟨11, .data⟩ (by simp) rfl) rfl
            simp only [putAll, Act.put, List.setIfInBounds_toArray, List.set_cons_succ, List.set_cons_zero, List.set_nil]
            have rr := HF.out.2.2.1.below HC.out HF.out.2.2.1.lt
            have d0 := rr.cell 2
            simp only [List.getElem?_cons_zero, List.getElem?_cons_succ] at d0
            clear rr
            clear HW
            gi_wp2_with fail
            have fin := HK.out (.int .i64 (t2 : Int)) W (Below.refl _ _) rfl
            simp only [putAll, Act.put, List.setIfInBounds_toArray, List.set_cons_succ, List.set_cons_zero, List.set_nil] at fin
            exact fin
          · rintro vs W K hc hvl hw hK
            obtain ⟨x0, x1, x2, x3, x4, x5, x6, x7, x8, x9, x10, x11, x12, x13, x14, x15, x16, x17, x18, x19, x20, x21, rfl⟩ := len22 hvl
            have HK := Lib.hid hK
            have HC := Lib.hid hc
            have HW := Lib.hid hw
            clear hK hc hw hvl
            obtain rfl : x10 = .slice (some ⟨g, o, none⟩) n c := box_get (HW.out ⟨10, .data⟩ (by simp) rfl) rfl
            obtain rfl : x12 = .int .i64 (t2 : Int) := box_get (HW.out ⟨12, .data⟩ (by simp) rfl) rfl
            simp only [putAll, Act.put, List.setIfInBounds_toArray, List.set_cons_succ, List.set_cons_zero, List.set_nil]
            have hi1 : (t2 : Int) < (n : Int) := by have := HB3.out; omega
            clear HW
            gi_wp2_with fail
            have fin := HK.out (.pointer (some ⟨g, o + t2 * 2, none⟩)) W (Below.refl _ _) rfl
            simp only [putAll, Act.put, List.setIfInBounds_toArray, List.set_cons_succ, List.set_cons_zero, List.set_nil] at fin
            exact fin
          · rintro vs W K hc hvl hw hK
            obtain ⟨x0, x1, x2, x3, x4, x5, x6, x7, x8, x9, x10, x11, x12, x13, x14, x15, x16, x17, x18, x19, x20, x21, rfl⟩ := len22 hvl
            have HK := Lib.hid hK
            have HC := Lib.hid hc
            have HW := Lib.hid hw
            clear hK hc hw hvl
            obtain rfl : x13 = .pointer (some ⟨g, o + t2 * 2, none⟩) := box_get (HW.out ⟨13, .data⟩ (by simp) rfl) rfl
            simp only [putAll, Act.put, List.setIfInBounds_toArray, List.set_cons_succ, List.set_cons_zero, List.set_nil]
            have d0 := HX2.out.1 W HC.out
            have d1 := HX2.out.2 W HC.out
            clear HW
            gi_wp2_with fail
            have fin := HK.out (.agg #[.int .i64 a2, .int .i64 b2]) W (Below.refl _ _) rfl
            simp only [putAll, Act.put, List.setIfInBounds_toArray, List.set_cons_succ, List.set_cons_zero, List.set_nil] at fin
            exact fin
          · rintro vs W K hc hvl hw hK
            obtain ⟨x0, x1, x2, x3, x4, x5, x6, x7, x8, x9, x10, x11, x12, x13, x14, x15, x16, x17, x18, x19, x20, x21, rfl⟩ := len22 hvl
            have HK := Lib.hid hK
            have HC := Lib.hid hc
            have HW := Lib.hid hw
            clear hK hc hw hvl
            obtain rfl : x4 = .agg #[.int .i64 a0, .int .i64 b0] := box_get (HW.out ⟨4, .data⟩ (by simp) rfl) rfl
            obtain rfl : x9 = .agg #[.int .i64 a1, .int .i64 b1] := box_get (HW.out ⟨9, .data⟩ (by simp) rfl) rfl
            obtain rfl : x14 = .agg #[.int .i64 a2, .int .i64 b2] := box_get (HW.out ⟨14, .data⟩ (by simp) rfl) rfl
            simp only [putAll, Act.put, List.setIfInBounds_toArray, List.set_cons_succ, List.set_cons_zero, List.set_nil]
            clear HW
            gi_wp2_with fail
            refine ⟨trivial, (CallsIn.inRound l2 (callsIn_wide.2 (HTH.out W))).mono ?_⟩
            rintro e W' ⟨rfl, hb'⟩
            have HB' := Lib.hid hb'
            clear hb'
            gi_wp2_with fail
            have fin := HK.out (.tuple #[.agg #[.int .i64 X, .int .i64 Y, .int .i64 D, .int .i64 R], .bool E]) W' HB'.out rfl
            simp only [putAll, Act.put, List.setIfInBounds_toArray, List.set_cons_succ, List.set_cons_zero, List.set_nil] at fin
            exact fin
          · rintro vs W K hc hvl hw hK
            obtain ⟨x0, x1, x2, x3, x4, x5, x6, x7, x8, x9, x10, x11, x12, x13, x14, x15, x16, x17, x18, x19, x20, x21, rfl⟩ := len22 hvl
            have HK := Lib.hid hK
            have HC := Lib.hid hc
            have HW := Lib.hid hw
            clear hK hc hw hvl
            obtain rfl : x15 = .tuple #[.agg #[.int .i64 X, .int .i64 Y, .int .i64 D, .int .i64 R], .bool E] := box_get (HW.out ⟨15, .data⟩ (by simp) rfl) rfl
            simp only [putAll, Act.put, List.setIfInBounds_toArray, List.set_cons_succ, List.set_cons_zero, List.set_nil]
            clear HW
            gi_wp2_with fail
            have fin := HK.out (.tuple #[.agg #[.int .i64 X, .int .i64 Y, .int .i64 D, .int .i64 R], .bool E]) W (Below.refl _ _) rfl
            simp only [putAll, Act.put, List.setIfInBounds_toArray, List.set_cons_succ, List.set_cons_zero, List.set_nil] at fin
            exact fin
          · rintro vs W K hc hvl hw hK
            obtain ⟨x0, x1, x2, x3, x4, x5, x6, x7, x8, x9, x10, x11, x12, x13, x14, x15, x16, x17, x18, x19, x20, x21, rfl⟩ := len22 hvl
            have HK := Lib.hid hK
            have HC := Lib.hid hc
            have HW := Lib.hid hw
            clear hK hc hw hvl
            obtain rfl : x16 = .tuple #[.agg #[.int .i64 X, .int .i64 Y, .int .i64 D, .int .i64 R], .bool E] := box_get (HW.out ⟨16, .data⟩ (by simp) rfl) rfl
            simp only [putAll, Act.put, List.setIfInBounds_toArray, List.set_cons_succ, List.set_cons_zero, List.set_nil]
            clear HW
            gi_wp2_with fail
            have fin := HK.out (.agg #[.int .i64 X, .int .i64 Y, .int .i64 D, .int .i64 R]) W (Below.refl _ _) rfl
            simp only [putAll, Act.put, List.setIfInBounds_toArray, List.set_cons_succ, List.set_cons_zero, List.set_nil] at fin
            exact fin
          · rintro vs W K hc hvl hw hK
            obtain ⟨x0, x1, x2, x3, x4, x5, x6, x7, x8, x9, x10, x11, x12, x13, x14, x15, x16, x17, x18, x19, x20, x21, rfl⟩ := len22 hvl
            have HK := Lib.hid hK
            have HC := Lib.hid hc
            have HW := Lib.hid hw
            clear hK hc hw hvl
            obtain rfl : x16 = .tuple #[.agg #[.int .i64 X, .int .i64 Y, .int .i64 D, .int .i64 R], .bool E] := box_get (HW.out ⟨16, .data⟩ (by simp) rfl) rfl
            simp only [putAll, Act.put, List.setIfInBounds_toArray, List.set_cons_succ, List.set_cons_zero, List.set_nil]
            clear HW
            gi_wp2_with fail
            have fin := HK.out (.bool E) W (Below.refl _ _) rfl
            simp only [putAll, Act.put, List.setIfInBounds_toArray, List.set_cons_succ, List.set_cons_zero, List.set_nil] at fin
            exact fin
          · rintro vs W K hc hvl hw hK
            obtain ⟨x0, x1, x2, x3, x4, x5, x6, x7, x8, x9, x10, x11, x12, x13, x14, x15, x16, x17, x18, x19, x20, x21, rfl⟩ := len22 hvl
            have HK := Lib.hid hK
            have HC := Lib.hid hc
            have HW := Lib.hid hw
            clear hK hc hw hvl
            simp only [putAll, Act.put, List.setIfInBounds_toArray, List.set_cons_succ, List.set_cons_zero, List.set_nil]
            clear HW
            gi_wp2_with fail
            have fin := HK.out
            simp only [putAll, Act.put, List.setIfInBounds_toArray, List.set_cons_succ, List.set_cons_zero, List.set_nil] at fin
            exact fin
          · rintro vs W K hc hvl hw b E z f hia hva hb0 hr hK
            cases hia
            obtain ⟨x0, x1, x2, x3, x4, x5, x6, x7, x8, x9, x10, x11, x12, x13, x14, x15, x16, x17, x18, x19, x20, x21, rfl⟩ := len22 hvl
            have HK := Lib.hid hK
            have HC := Lib.hid hc
            have HW := Lib.hid hw
            clear hK hc hw hvl
            obtain rfl : x17 = .agg #[.int .i64 X, .int .i64 Y, .int .i64 D, .int .i64 R] := box_get (HW.out ⟨17, .data⟩ (by simp) rfl) rfl
            obtain rfl : x19 = .pointer (some ⟨b, 0, none⟩) := Option.some.inj hva
            simp only [putAll, Act.put, List.setIfInBounds_toArray, List.set_cons_succ, List.set_cons_zero, List.set_nil]
            have kf0 := frozen_of_row W b 0 _ _ hr
            have kc0 : W.cell? ⟨b, 0, none⟩ = some (.int .i64 0) := hr.cell 0
            have kf1 := frozen_of_row W b 1 _ _ hr
            have kc1 : W.cell? ⟨b, 1, none⟩ = some (.int .i64 0) := hr.cell 1
            have kf2 := frozen_of_row W b 2 _ _ hr
            have kc2 : W.cell? ⟨b, 2, none⟩ = some (.int .i64 0) := hr.cell 2
            have kf3 := frozen_of_row W b 3 _ _ hr
            have kc3 : W.cell? ⟨b, 3, none⟩ = some (.int .i64 0) := hr.cell 3
            have HRW := Lib.hid hr
            clear HW hr hva
            gi_wp2_with fail
            have fin := HK.out _ (show Row _ b 30 [.int .i64 X, .int .i64 Y, .int .i64 D, .int .i64 R] from by simpa using (show Row _ b 30 _ from ((((HRW.out.set 0 (.int .i64 X)).set 1 (.int .i64 Y)).set 2 (.int .i64 D)).set 3 (.int .i64 R)))) (grown_put (grown_put (grown_put (grown_put (grown_self W _)))))
            simp only [putAll, Act.put, List.setIfInBounds_toArray, List.set_cons_succ, List.set_cons_zero, List.set_nil] at fin
            exact fin
          · rintro vs W K hc hvl hw hK
            obtain ⟨x0, x1, x2, x3, x4, x5, x6, x7, x8, x9, x10, x11, x12, x13, x14, x15, x16, x17, x18, x19, x20, x21, rfl⟩ := len22 hvl
            have HK := Lib.hid hK
            have HC := Lib.hid hc
            have HW := Lib.hid hw
            clear hK hc hw hvl
            obtain rfl : x18 = .bool E := box_get (HW.out ⟨18, .data⟩ (by simp) rfl) rfl
            simp only [putAll, Act.put, List.setIfInBounds_toArray, List.set_cons_succ, List.set_cons_zero, List.set_nil]
            clear HW
            gi_wp2_with fail
            have fin := HK.out (.bool E) W (Below.refl _ _) rfl
            simp only [putAll, Act.put, List.setIfInBounds_toArray, List.set_cons_succ, List.set_cons_zero, List.set_nil] at fin
            exact fin
        case fin =>
          rintro vs W hJ
          obtain ⟨x0, x1, x2, x3, x4, x5, x6, x7, x8, x9, x10, x11, x12, x13, x14, x15, x16, x17, x18, x19, x20, x21, rfl⟩ := len22 hJ.ln
          obtain rfl : x0 = .slice (some ⟨g, o, none⟩) n c := box_get (hJ.val 0 rfl) rfl
          obtain rfl : x1 = .pointer (some ⟨b, 0, none⟩) := box_get (hJ.val 1 rfl) rfl
          obtain rfl : x2 = .int .i64 (t0 : Int) := box_get (hJ.val 2 rfl) rfl
          obtain rfl : x3 = .pointer (some ⟨g, o + t0 * 2, none⟩) := box_get (hJ.val 3 rfl) rfl
          obtain rfl : x4 = .agg #[.int .i64 a0, .int .i64 b0] := box_get (hJ.val 4 rfl) rfl
          obtain rfl : x5 = .slice (some ⟨g, o, none⟩) n c := box_get (hJ.val 5 rfl) rfl
          obtain rfl : x6 = .pointer (some ⟨b, 1, none⟩) := box_get (hJ.val 6 rfl) rfl
          obtain rfl : x7 = .int .i64 (t1 : Int) := box_get (hJ.val 7 rfl) rfl
          obtain rfl : x8 = .pointer (some ⟨g, o + t1 * 2, none⟩) := box_get (hJ.val 8 rfl) rfl
          obtain rfl : x9 = .agg #[.int .i64 a1, .int .i64 b1] := box_get (hJ.val 9 rfl) rfl
          obtain rfl : x10 = .slice (some ⟨g, o, none⟩) n c := box_get (hJ.val 10 rfl) rfl
          obtain rfl : x11 = .pointer (some ⟨b, 2, none⟩) := box_get (hJ.val 11 rfl) rfl
          obtain rfl : x12 = .int .i64 (t2 : Int) := box_get (hJ.val 12 rfl) rfl
          obtain rfl : x13 = .pointer (some ⟨g, o + t2 * 2, none⟩) := box_get (hJ.val 13 rfl) rfl
          obtain rfl : x14 = .agg #[.int .i64 a2, .int .i64 b2] := box_get (hJ.val 14 rfl) rfl
          obtain rfl : x15 = .tuple #[.agg #[.int .i64 X, .int .i64 Y, .int .i64 D, .int .i64 R], .bool E] := box_get (hJ.val 15 rfl) rfl
          obtain rfl : x16 = .tuple #[.agg #[.int .i64 X, .int .i64 Y, .int .i64 D, .int .i64 R], .bool E] := box_get (hJ.val 16 rfl) rfl
          obtain rfl : x17 = .agg #[.int .i64 X, .int .i64 Y, .int .i64 D, .int .i64 R] := box_get (hJ.val 17 rfl) rfl
          obtain rfl : x18 = .bool E := box_get (hJ.val 18 rfl) rfl
          obtain rfl : x21 = .bool E := box_get (hJ.val 21 rfl) rfl
          obtain ⟨b19, e19, hb19, hr19⟩ := hJ.box 19 _ _ _ rfl rfl
          obtain rfl : x19 = .pointer (some ⟨b19, 0, none⟩) := Option.some.inj e19
          replace hr19 : Row W b19 30 [.int .i64 X, .int .i64 Y, .int .i64 D, .int .i64 R] := hr19
          have HR19 := Lib.hid hr19
          clear e19 hr19
          have HC := Lib.hid hJ.bl
          clear hJ
          simp only [putAll, Act.put, List.setIfInBounds_toArray, List.set_cons_succ, List.set_cons_zero, List.set_nil]
          clear HTH
          have RB1 := Lib.hid (HF.out.1.below HC.out HF.out.1.lt)
          have LL := Lib.hid (HF.out.2.1.below HC.out)
          cases E with
          | false =>
            gi_wp2_with fail
            refine ⟨kf_below _ HC.out, KeepsI.of_below HC.out, RB1.out, lv', ?_⟩
            rw [List.flatMap_append, List.flatMap_cons, List.flatMap_nil, List.append_nil, HCE.out, if_neg (by simp), List.append_nil]
            exact LL.out
          | true =>
            have hlen : (ovB ps n 0 ++ pre.flatMap (thT ps)).length + 1 ≤ 1000000 := by
              have h1 := ovB_len ps n 0
              have h2 := thT_len ps pre
              have h3 := HPRE.out.length_le
              have h4 := trL_len n hl
              have h5 : n * n ≤ 12 * 12 := Nat.mul_le_mul hl hl
              rw [HN.out] at h1
              rw [List.length_append, List.length_singleton] at h3
              rw [List.length_append]
              omega
            obtain ⟨ba, rn⟩ := box_start W 30 [.int .i64 X, .int .i64 Y, .int .i64 D, .int .i64 R]
            obtain ⟨a3, n3, c3, W2, hap, r2, hL2, hX⟩ := (LL.out.below ba).add (c := ⟨X, Y, D, R⟩) rn hlen
            have l0 := LL.out.row.cell 0
            simp only [List.getElem?_cons_zero] at l0
            have k0 := HR19.out.cell 0
            have k1 := HR19.out.cell 1
            have k2 := HR19.out.cell 2
            have k3 := HR19.out.cell 3
            simp only [List.getElem?_cons_zero, List.getElem?_cons_succ] at k0 k1 k2 k3
            have d0 := r2.cell 0
            simp only [List.getElem?_cons_zero] at d0
            have d1 : W2.frozen? ⟨w.heap.size + 1, 0, none⟩ = false := by simp [World.frozen?, show W2.heap[w.heap.size + 1]? = _ from r2]
            have HAP := Lib.hid hap
            have hXX := KeepsX.trans (KeepsX.of_below HC.out) (KeepsX.trans (KeepsX.of_below ba) hX)
            have HX := Lib.hid hXX
            have HLL := Lib.hid hL2
            have RB2 := Lib.hid (hXX.row rfl HF.out.1)
            clear ba rn hap r2 hL2 hX hXX hlen
            gi_wp2_with (gi_at_builtin; refine appendC_run rfl _ _ 78 rfl _ _ _ _ rfl rfl HAP.out ?_)
            refine ⟨HX.out.from_ _, HX.out.its _, RB2.out, .slice a3 n3 c3, ?_⟩
            rw [List.flatMap_append, List.flatMap_cons, List.flatMap_nil, List.append_nil, HCE.out, if_pos (by trivial), ← List.append_assoc]
            exact HLL.out
end Go.Proofs.Ytlemipnplgbckaa
namespace Go.Proofs.Ytlemipnplgbckaa
open Go.RowKit Go.Shelf
attribute [local go_sem] Oper.semAt_some
theorem g_dvd (x y d : Int) : gS x y d ∣ x ∧ gS x y d ∣ y ∧ gS x y d ∣ d := by
  have h : ((gcdL 0 [x, y, d] : Nat) : Int) ∣ x ∧ ((gcdL 0 [x, y, d] : Nat) : Int) ∣ y ∧ ((gcdL 0 [x, y, d] : Nat) : Int) ∣ d := by
    simp only [gcdL]
    refine ⟨?_, ?_, ?_⟩
    · exact Int.ofNat_dvd_left.2 (Nat.dvd_trans (Nat.gcd_dvd_left _ _) (Nat.dvd_trans (Nat.gcd_dvd_left _ _) (Nat.gcd_dvd_right _ _)))
    · exact Int.ofNat_dvd_left.2 (Nat.dvd_trans (Nat.gcd_dvd_left _ _) (Nat.gcd_dvd_right _ _))
    · exact Int.ofNat_dvd_left.2 (Nat.gcd_dvd_right _ _)
  unfold gS
  split
  · exact ⟨Int.neg_dvd.2 h.1, Int.neg_dvd.2 h.2.1, Int.neg_dvd.2 h.2.2⟩
  · exact h
/-- lowest terms: the three numbers are as many times these -/
theorem r_mul (x y d : Int) : rX x y d * gS x y d = x ∧ rY x y d * gS x y d = y ∧ rD x y d * gS x y d = d := by
  obtain ⟨h1, h2, h3⟩ := g_dvd x y d
  exact ⟨Int.tdiv_mul_cancel h1, Int.tdiv_mul_cancel h2, Int.tdiv_mul_cancel h3⟩
theorem rD_pos {x y d : Int} (hd : d ≠ 0) : 1 ≤ rD x y d := by
  have h := (r_mul x y d).2.2
  have hg := gS_ne (x := x) (y := y) hd
  rcases Int.lt_or_gt_of_ne hd with h0 | h0
  · have hs : gS x y d < 0 := by
      have := hg.1
      unfold gS at this ⊢
      rw [if_pos h0] at this ⊢; omega
    false_or_by_contra
    rename_i hn
    have : rD x y d ≤ 0 := by omega
    have := Int.mul_nonneg_of_nonpos_of_nonpos this (Int.le_of_lt hs)
    omega
  · have hs : 0 < gS x y d := by
      have := hg.1
      unfold gS at this ⊢
      rw [if_neg (by omega)] at this ⊢; omega
    false_or_by_contra
    rename_i hn
    have : rD x y d ≤ 0 := by omega
    have := Int.mul_nonpos_of_nonpos_of_nonneg this (Int.le_of_lt hs)
    omega
theorem bd_of_mul {B a g : Int} (hg : g ≠ 0) (h : Bd B (a * g)) : Bd B a := by
  unfold Bd at *
  have h1 : (a * g).natAbs = a.natAbs * g.natAbs := Int.natAbs_mul a g
  have h2 : 1 ≤ g.natAbs := by omega
  have h3 : a.natAbs * 1 ≤ a.natAbs * g.natAbs := Nat.mul_le_mul_left _ h2
  omega
theorem rnd_bd {x y d : Int} {p : Pt} (hd : d ≠ 0) (hx : Bd 1000000 x) (hy : Bd 1000000 y) (hd1 : Bd 1000000 d) (h1 : Bd 600000 (p.1 * d - x)) (h2 : Bd 600000 (p.2 * d - y)) : CirB (rndC x y d p) := by
  obtain ⟨m1, m2, m3⟩ := r_mul x y d
  have hg := (gS_ne (x := x) (y := y) hd).1
  have hp := rD_pos (x := x) (y := y) hd
  have b1 : Bd 1000000 (rX x y d) := bd_of_mul hg (by rw [m1]; exact hx)
  have b2 : Bd 1000000 (rY x y d) := bd_of_mul hg (by rw [m2]; exact hy)
  have b3 : Bd 1000000 (rD x y d) := bd_of_mul hg (by rw [m3]; exact hd1)
  have c1 : Bd 600000 (p.1 * rD x y d - rX x y d) := bd_of_mul hg (by rw [Int.sub_mul, Int.mul_assoc, m3, m1]; exact h1)
  have c2 : Bd 600000 (p.2 * rD x y d - rY x y d) := bd_of_mul hg (by rw [Int.sub_mul, Int.mul_assoc, m3, m2]; exact h2)
  have s1 := c1.mul c1
  have s2 := c2.mul c2
  refine ⟨b1, b2, ⟨hp, by unfold Bd at b3; show rD x y d ≤ _; omega⟩, ?_, ?_⟩
  · show 0 ≤ apF _ _ _ _
    unfold apF
    exact Int.add_nonneg (by rw [← Int.natAbs_mul_self]; exact Int.natCast_nonneg _) (by rw [← Int.natAbs_mul_self]; exact Int.natCast_nonneg _)
  · show apF _ _ _ _ ≤ _
    unfold apF
    unfold Bd at s1 s2
    omega
theorem ovC_bd {a b : Pt} (ha : Bd 20 a.1 ∧ Bd 20 a.2) (hb : Bd 20 b.1 ∧ Bd 20 b.2) : CirB (ovC a b) := by
  unfold ovC
  refine rnd_bd (by omega) ((ha.1.add hb.1).mono (by omega)) ((ha.2.add hb.2).mono (by omega)) (by unfold Bd; omega) ?_ ?_
  · have h := ha.1; have k := hb.1; unfold Bd at *; omega
  · have h := ha.2; have k := hb.2; unfold Bd at *; omega
theorem thC_bd {a b c : Pt} (ha : Bd 20 a.1 ∧ Bd 20 a.2) (hb : Bd 20 b.1 ∧ Bd 20 b.2) (hc : Bd 20 c.1 ∧ Bd 20 c.2) (hd : thD a b c ≠ 0) : CirB (thC a b c) := by
  have p1 := hb.1.sub ha.1
  have p2 := hb.2.sub ha.2
  have q1 := hc.1.sub ha.1
  have q2 := hc.2.sub ha.2
  have hD : Bd 6400 (thD a b c) := by
    have h := (p1.mul q2).sub (p2.mul q1)
    unfold thD crs
    unfold Bd at h ⊢
    dsimp only
    omega
  have hX : Bd 256000 (thX a b c) := by
    have h := (q2.mul ((p1.mul p1).add (p2.mul p2))).sub (p2.mul ((q1.mul q1).add (q2.mul q2)))
    unfold thX
    exact h.mono (by omega)
  have hY : Bd 256000 (thY a b c) := by
    have h := (p1.mul ((q1.mul q1).add (q2.mul q2))).sub (q1.mul ((p1.mul p1).add (p2.mul p2)))
    unfold thY
    exact h.mono (by omega)
  have e1 := hD.mul ha.1
  have e2 := hD.mul ha.2
  unfold thC
  refine rnd_bd hd ((e1.add hX).mono (by omega)) ((e2.add hY).mono (by omega)) (hD.mono (by omega)) ?_ ?_
  · rw [Int.mul_comm a.1]
    have : thD a b c * a.1 - (thD a b c * a.1 + thX a b c) = - thX a b c := by omega
    rw [this]; unfold Bd at hX ⊢; omega
  · rw [Int.mul_comm a.2]
    have : thD a b c * a.2 - (thD a b c * a.2 + thY a b c) = - thY a b c := by omega
    rw [this]; unfold Bd at hY ⊢; omega
/-- every candidate is within the bounds -/
theorem circL_bd {ps : List Pt} (h : ∀ p ∈ ps, Bd 20 p.1 ∧ Bd 20 p.2) : ∀ c ∈ circL ps, CirB c := by
  have hp : ∀ i, Bd 20 (ptAt ps i).1 ∧ Bd 20 (ptAt ps i).2 := fun i => by
    by_cases hi : i < ps.length
    · rw [ptAt_lt hi]; exact h _ (List.getElem_mem hi)
    · unfold ptAt; rw [List.getD_eq_getElem?_getD, List.getElem?_eq_none (by omega)]
      exact ⟨by show Bd 20 0; unfold Bd; omega, by show Bd 20 0; unfold Bd; omega⟩
  intro c hc
  unfold circL at hc
  rcases List.mem_append.1 hc with hc | hc
  · unfold ovB ovR at hc
    simp only [List.range_zero, List.map_nil, List.append_nil, List.mem_flatMap, List.mem_map] at hc
    obtain ⟨i, _, j, _, rfl⟩ := hc
    exact ovC_bd (hp _) (hp _)
  · rw [List.mem_flatMap] at hc
    obtain ⟨t, _, hc⟩ := hc
    unfold thT at hc
    split at hc
    · cases hc
    · rw [List.mem_singleton] at hc
      subst hc
      rename_i hz
      exact thC_bd (hp _) (hp _) (hp _) hz
end Go.Proofs.Ytlemipnplgbckaa
namespace Go.Proofs.Ytlemipnplgbckaa
open Go.RowKit Go.Shelf
attribute [local go_sem] Oper.semAt_some
theorem small_start (w : World) (v : Value) : Below w.heap.size w ((w.alloc (.cells [v].toArray 22)).alloc (.cells [.int .i64 0, .int .i64 0, .int .i64 0, .int .i64 0].toArray 30)) ∧ Row ((w.alloc (.cells [v].toArray 22)).alloc (.cells [.int .i64 0, .int .i64 0, .int .i64 0, .int .i64 0].toArray 30)) w.heap.size 22 [v] ∧
    Row ((w.alloc (.cells [v].toArray 22)).alloc (.cells [.int .i64 0, .int .i64 0, .int .i64 0, .int .i64 0].toArray 30)) (w.heap.size + 1) 30 [.int .i64 0, .int .i64 0, .int .i64 0, .int .i64 0] := by
  obtain ⟨b1, r1⟩ := box_start w 22 [v]
  have s1 := size_al w (.cells [v].toArray 22)
  generalize w.alloc (.cells [v].toArray 22) = w1 at *
  obtain ⟨b2, r2⟩ := box_start w1 30 [.int .i64 0, .int .i64 0, .int .i64 0, .int .i64 0]
  exact ⟨Below.andThen b1 b2 (Nat.le_refl _), r1.below b2 r1.lt, by rw [← s1]; exact r2⟩
set_option maxRecDepth 100000 in
set_option maxHeartbeats 1000000 in
theorem smallest_any (ps : List Pt) (v : Value) (w : World) (hv : SlP w v ps) (hl : ps.length ≤ 12) (hps : ∀ p ∈ ps, Bd 20 p.1 ∧ Bd 20 p.2) (c0 : Cir) (cs : List Cir)
    (hf : (circL ps).filter (fun c => !(ps.any fun p => decide (0 < whF c p))) = c0 :: cs) :
    Calls Try.prog 55 #[v] w fun e w' => e = .returned (minL c0 cs).V ∧ Below w.heap.size w w' := by
  obtain ⟨ba, rb, rr⟩ := small_start w v
  have hv2 := hv.grow ba
  have hlen1 : (circL ps).length ≤ 1000000 := by
    have h1 := ovB_len ps ps.length 0
    have h2 := thT_len ps (trL ps.length)
    have h4 := trL_len ps.length hl
    have h5 : ps.length * ps.length ≤ 12 * 12 := Nat.mul_le_mul hl hl
    unfold circL
    rw [List.length_append]
    omega
  have hcb := circL_bd hps
  have hne : circL ps ≠ [] := fun h => by rw [h] at hf; cases hf
  have hfb : ∀ m ∈ c0 :: cs, CirB m := fun m hm => hcb m (List.mem_filter.1 (by rw [hf]; exact hm)).1
  have hfl : cs.length ≤ 1000000 := by
    have h := List.length_filter_le (fun c => !(ps.any fun p => decide (0 < whF c p))) (circL ps)
    rw [hf, List.length_cons] at h; omega
  have HCI := Lib.hid (circles_any ps v _ hv2 hl hps)
  have HTS := Lib.hid (fun (c : Cir) (hc : c ∈ circL ps) (W : World) (hb : Row W w.heap.size 22 [v]) (hv : SlP W v ps) => tooSmall_any c (hcb c hc) ps hps (by omega) v w.heap.size W hb hv)
  obtain ⟨a, c, rfl, hcap, hpt⟩ := hv
  have HFF := Lib.hid (And.intro hf (And.intro hlen1 (And.intro hne (And.intro hfb hfl))))
  clear hf hlen1 hne hfb hfl hcb hps hl
  generalize ps.length = n at *
  have k0 := rb.cell 0
  simp only [List.getElem?_cons_zero] at k0
  have F0 := Lib.hid (And.intro ba (And.intro rb (And.intro rr hv2)))
  clear ba rb rr hv2 hcap hpt
  go_enter Try.func55, Try.ntmps55
  go_wp2_with fail
  refine HCI.out.mono ?_
  rintro e w1 ⟨s, rfl, ho, hb⟩
  obtain ⟨g, cap, rfl⟩ : ∃ g cap, s = .slice (some ⟨g, 0, none⟩) (circL ps).length cap := by
    rcases ho.2 with ⟨_, h0⟩ | ⟨g, cap, cur, e, _⟩
    · exact absurd (List.length_eq_zero_iff.1 h0) HFF.out.2.2.1
    · exact ⟨g, cap, e⟩
  have r1 := F0.out.2.1.below hb F0.out.2.1.lt
  have r2 := F0.out.2.2.1.below hb F0.out.2.2.1.lt
  have v1 := F0.out.2.2.2.grow hb
  have hdf := deleteFunc_any (circL ps) g cap _ 83 #[.pointer (some ⟨w.heap.size, 0, none⟩)] (fun c => ps.any fun p => decide (0 < whF c p)) w1 ho hb.size HFF.out.2.1 (enters_of Try.func83 (by kernel_rfl) rfl)
    (fun W c hbb hm => HTS.out c hm W (F0.out.2.1.below (hb.trans hbb) F0.out.2.1.lt) (F0.out.2.2.2.grow (hb.trans hbb)))
  have HDF := Lib.hid hdf
  have hB1 := Below.andThen F0.out.1 hb (Nat.le_refl _)
  have F1 := Lib.hid (And.intro hb (And.intro hB1 r2))
  clear hdf hb hB1 r1 r2 v1 ho HCI k0
  generalize (circL ps).length = m at *
  go_wp2_with fail
  refine HDF.out.mono ?_
  rintro e w2 ⟨rfl, ho2, hb2⟩
  have hsl := ho2.slc
  rw [HFF.out.1] at hsl
  have hmn := minFunc_any c0 cs _ w2 hsl HFF.out.2.2.2.2 HFF.out.2.2.2.1
  rw [HFF.out.1]
  have HMN := Lib.hid hmn
  have rr2 := F1.out.2.2.below hb2 (by simp)
  have bb2 := Below.andThen F0.out.1 (F1.out.1.trans hb2) (Nat.le_refl _)
  have F2 := Lib.hid (And.intro rr2 bb2)
  clear hsl hmn ho2 hb2 HDF rr2 bb2
  generalize (c0 :: cs).length = k at *
  go_wp2_with fail
  refine HMN.out.mono ?_
  rintro e w3 ⟨rfl, hb3⟩
  have rr3 := F2.out.1.below hb3 F2.out.1.lt
  have bb3 := Below.andThen F2.out.2 hb3 (Nat.le_refl _)
  have RT := Lib.hid rr3
  have BW := Lib.hid bb3
  have t0 := rr3.cell 0
  have t1 := rr3.cell 1
  have t2 := rr3.cell 2
  have t3 := rr3.cell 3
  have g0 := frozen_of_row _ (w.heap.size + 1) 0 _ _ rr3
  have g1 := frozen_of_row _ (w.heap.size + 1) 1 _ _ rr3
  have g2 := frozen_of_row _ (w.heap.size + 1) 2 _ _ rr3
  have g3 := frozen_of_row _ (w.heap.size + 1) 3 _ _ rr3
  simp only [List.getElem?_cons_zero, List.getElem?_cons_succ] at t0 t1 t2 t3
  obtain ⟨⟨X, Y, D, R⟩, hM⟩ : ∃ M, minL c0 cs = M := ⟨_, rfl⟩
  rw [hM]
  have HMM := Lib.hid hM
  simp only [Cir.V, cirV]
  clear hM rr3 bb3 hb3 HMN F0 F1 F2 HFF HTS
  go_wp2_with fail
  have hr := (((RT.out.set 0 (.int .i64 X)).set 1 (.int .i64 Y)).set 2 (.int .i64 D)).set 3 (.int .i64 R)
  have v0 := hr.cell 0
  have v1 := hr.cell 1
  have v2 := hr.cell 2
  have v3 := hr.cell 3
  simp only [List.set_cons_zero, List.set_cons_succ, List.getElem?_cons_zero, List.getElem?_cons_succ] at v0 v1 v2 v3
  refine bodyPost_ret (v := cirV X Y D R) (by simp [results, Try.results55, go_sem, v0, v1, v2, v3, cirV]) rfl ⟨by rw [HMM.out]; rfl, ?_⟩
  exact (((BW.out.setCell (p := ⟨w.heap.size + 1, 0, none⟩) (by dsimp only; omega) _).setCell (p := ⟨w.heap.size + 1, 1, none⟩) (by dsimp only; omega) _).setCell (p := ⟨w.heap.size + 1, 2, none⟩) (by dsimp only; omega) _).setCell (p := ⟨w.heap.size + 1, 3, none⟩) (by dsimp only; omega) _
end Go.Proofs.Ytlemipnplgbckaa
namespace Go.Proofs.Ytlemipnplgbckaa
open Go.RowKit Go.Shelf
attribute [local go_sem] Oper.semAt_some
theorem info71 : (Try.prog.info? 71).map (fun i => (i.zero, i.size, i.bytes)) = some (some (.agg #[.int .i64 0, .int .i64 0, .int .i64 0]), 3, 24) := by kernel_rfl
def flatT : List (Nat × Nat × Nat) → List Value
  | [] => []
  | t :: ts => .int .i64 (t.1 : Int) :: .int .i64 (t.2.1 : Int) :: .int .i64 (t.2.2 : Int) :: flatT ts
theorem flatT_length : ∀ ts : List (Nat × Nat × Nat), (flatT ts).length = ts.length * 3
  | [] => rfl
  | t :: ts => by simp only [flatT, List.length_cons, flatT_length ts]; omega
theorem flatT_snoc (t : Nat × Nat × Nat) : ∀ ts : List (Nat × Nat × Nat), flatT (ts ++ [t]) = flatT ts ++ [.int .i64 (t.1 : Int), .int .i64 (t.2.1 : Int), .int .i64 (t.2.2 : Int)]
  | [] => rfl
  | u :: us => by simp only [List.cons_append, flatT, flatT_snoc t us]
/-- blocks of circles, and boxes of lists of them -/
def isT : Obj → Bool
  | .cells _ T _ => T == 71 || T == 39
  | _ => false
/-- all other blocks lie as they lay -/
structure KeepsY (W W' : World) : Prop where
  size : W.heap.size ≤ W'.heap.size
  same : ∀ (k : Nat) (o : Obj), W.heap[k]? = some o → isT o = false → W'.heap[k]? = some o
theorem KeepsY.refl (W : World) : KeepsY W W := ⟨Nat.le_refl _, fun _ _ h _ => h⟩
theorem KeepsY.trans {X Y Z : World} (h : KeepsY X Y) (k : KeepsY Y Z) : KeepsY X Z := ⟨Nat.le_trans h.size k.size, fun i o hi ho => k.same i o (h.same i o hi ho) ho⟩
theorem KeepsY.of_below {X Y : World} (h : Below X.heap.size X Y) : KeepsY X Y := ⟨h.size, fun i _ hi _ => (h.block i (Array.getElem?_eq_some_iff.1 hi).1).trans hi⟩
theorem KeepsY.of_grown {X Y : World} {row : Option Nat} (hg : X.grownBy Y row) (hr : ∀ r, row = some r → ∃ o, X.heap[r]? = some o ∧ isT o = true) : KeepsY X Y := ⟨hg.size, fun i o hi ho =>
  (hg.block i (Array.getElem?_eq_some_iff.1 hi).1 (fun e => by
    obtain ⟨o', h1, h2⟩ := hr i e.symm
    rw [hi] at h1; cases h1; rw [ho] at h2; cases h2)).trans hi⟩
theorem KeepsY.its {X Y : World} (h : KeepsY X Y) (B : Nat) : KeepsI B X Y := fun i o _ hi ho => h.same i o hi (by
  cases o with
  | cells cs T z =>
    simp only [isIt, isT] at ho ⊢
    by_cases e1 : T = 71
    · subst e1; simp at ho
    · by_cases e2 : T = 39
      · subst e2; simp at ho
      · simp [e1, e2]
  | _ => rfl)
theorem KeepsY.from_ {X Y : World} (h : KeepsY X Y) (B : Nat) : KeepsFrom B X Y := ⟨h.size, fun k o _ hk ho => h.same k o hk (by
  cases o with
  | cells cs T z => simp [Obj.isCells] at ho
  | _ => rfl)⟩
theorem KeepsY.row {X Y : World} (h : KeepsY X Y) {b : Nat} {E : TypeId} {vs : List Value} (hE : (E == 71 || E == 39) = false) (r : Row X b E vs) : Row Y b E vs := h.same b _ r hE
/-- a list of circles in a box -/
structure ListT (w : World) (L : Nat) (cs : List (Nat × Nat × Nat)) (v : Value) (W : World) : Prop where
  row : Row W L 39 [v]
  own : W.ownsRow (L + 1) 71 3 v cs.length (flatT cs)
  bw : Below w.heap.size w W
  hL : w.heap.size ≤ L
theorem ListT.below {w : World} {L : Nat} {cs : List (Nat × Nat × Nat)} {v : Value} {W W' : World} (h : ListT w L cs v W) (hb : Below W.heap.size W W') : ListT w L cs v W' :=
  ⟨h.row.below hb h.row.lt, lasts_owns W.heap.size _ _ _ _ _ _ W W' none h.own ⟨hb.os, hb.tape, hb.output, hb.size, fun k hk _ => hb.block k hk⟩ (fun r e => by cases e), Below.andThen h.bw hb (Nat.le_refl _), h.hL⟩
theorem lasts_listT (B : Nat) (w : World) (L : Nat) (cs : List (Nat × Nat × Nat)) (v : Value) (hB : w.heap.size ≤ B) : Lasts B (fun W => ListT w L cs v W) := fun W W' row hi hg hr =>
  ⟨lasts_row B _ _ _ W W' row hi.row hg hr, lasts_owns B _ _ _ _ _ _ W W' row hi.own hg hr, lasts_below B _ w hB (Nat.le_refl _) W W' row hi.bw hg hr, hi.hL⟩
/-- one circle more -/
theorem ListT.add {w W : World} {L g : Nat} {cs : List (Nat × Nat × Nat)} {v : Value} {c : Nat × Nat × Nat} (h : ListT w L cs v W) (rn : Row W g 71 [.int .i64 (c.1 : Int), .int .i64 (c.2.1 : Int), .int .i64 (c.2.2 : Int)]) (hl : cs.length + 1 ≤ 1000000) :
    ∃ a2 n2 c2 W2, (Builtin.append_ #[39, 39] 39 #[v, .slice (some ⟨g, 0, none⟩) 1 1]).run Try.prog W = .ok (.slice a2 n2 c2) W2 ∧ Row W2 L 39 [v] ∧ ListT w L (cs ++ [c]) (.slice a2 n2 c2) (W2.setCell ⟨L, 0, none⟩ (.slice a2 n2 c2)) ∧ KeepsY W (W2.setCell ⟨L, 0, none⟩ (.slice a2 n2 c2)) := by
  obtain ⟨i0, hi, hz0, hz1, hz2⟩ := info_parts info71
  have hLt := h.row.lt
  obtain ⟨v', W2, hap, ho2, hg2, _, hblk⟩ := run_append_own_at (P := Try.prog) (w := W) (L + 1) 39 39 71 i0 (.agg #[.int .i64 0, .int .i64 0, .int .i64 0]) 3 24 Try.underlying39 hi hz0 hz1 hz2 rfl (by decide) v cs.length (flatT cs) h.own
    ⟨g, 0, none⟩ 1 1 [.int .i64 (c.1 : Int), .int .i64 (c.2.1 : Int), .int .i64 (c.2.2 : Int)] rfl (fun j u hj => by rw [Go.WideShapes.add_plain]; simp only [Nat.zero_add]; rw [Row.cell rn]; exact hj) (by simp [Value.oneCell']) (by unfold maxLen; omega) (by omega) (by omega)
  have hob : ∀ r, v.ownBlock = some r → L + 1 ≤ r ∧ ∃ cur, W.heap[r]? = some (.cells cur 71 (0, 0)) := fun r e => by
    rcases h.own.2 with ⟨rfl, _⟩ | ⟨g', cap, cur, rfl, h1, h2, _⟩
    · cases e
    · have e2 := Option.some.inj e
      subst e2; exact ⟨h1, cur, h2⟩
  have r2 : Row W2 L 39 [v] := h.row.kept hg2 (fun e => by have := (hob L e.symm).1; omega)
  have gs := grown_set W2 ⟨L, 0, none⟩ v'
  have r3 : Row (W2.setCell ⟨L, 0, none⟩ v') L 39 [v'] := r2.set 0 v'
  have b2 : Below w.heap.size w W2 := h.bw.grown hg2 h.bw.size (fun k e => by have := (hob k e).1; have := h.hL; omega)
  obtain ⟨a2, n2, c2, rfl⟩ : ∃ a2 n2 c2, v' = .slice a2 n2 c2 := by
    rcases ho2.2 with ⟨e, _⟩ | ⟨g2, cap, cur, e, _⟩
    · exact ⟨_, _, _, e⟩
    · exact ⟨_, _, _, e⟩
  refine ⟨a2, n2, c2, W2, hap, r2, ⟨r3, ?_, b2.grown gs b2.size (fun k e => by cases e; exact h.hL), h.hL⟩, ?_⟩
  · rw [List.length_append, List.length_singleton, flatT_snoc]
    rcases ho2 with ⟨hlen, hh⟩
    refine ⟨hlen, ?_⟩
    rcases hh with ⟨e, h0⟩ | ⟨g2, cap, cur, e, h1, h2, h3⟩
    · omega
    · exact .inr ⟨g2, cap, cur, e, h1, (gs.block g2 (Array.getElem?_eq_some_iff.1 h2).1 (fun e => by have e2 : g2 = L := Option.some.inj e; omega)).trans h2, h3⟩
  · refine (KeepsY.of_grown hg2 (fun r e => by obtain ⟨_, cur, hc⟩ := hob r e; exact ⟨_, hc, rfl⟩)).trans (KeepsY.of_grown gs (fun r e => by cases e; exact ⟨_, r2, rfl⟩))
end Go.Proofs.Ytlemipnplgbckaa
namespace Go.Proofs.Ytlemipnplgbckaa
open Go.RowKit Go.Shelf
attribute [local go_sem] Oper.semAt_some
/-- is a triple empty? -/
def empB (ps : List Pt) (t : Nat × Nat × Nat) : Bool := !decide (thD (ptAt ps t.1) (ptAt ps t.2.1) (ptAt ps t.2.2) = 0) && !ps.any (fun p => decide (whF (thC (ptAt ps t.1) (ptAt ps t.2.1) (ptAt ps t.2.2)) p < 0))
def emptyL (ps : List Pt) : List (Nat × Nat × Nat) := (trL ps.length).filter (empB ps)
set_option maxRecDepth 100000 in
set_option maxHeartbeats 1000000 in
theorem Empty_err (ps : List Pt) (v : Value) (w : World) (hv : SlP w v ps) (hl : ps.length ≤ 1000000) (k : Int) (he : errP ps = k) (hk : k ≠ 0) :
    Calls Try.prog 23 #[v] w fun e w' => e = .returned (.tuple #[.slice none 0 0, .int .i64 k]) ∧ Below w.heap.size w w' := by
  obtain ⟨ba, rb⟩ := box_start w 22 [v]
  have HC := Lib.hid (Check_any ps v _ (hv.grow ba) hl)
  rw [he] at HC
  have hd : (k != 0) = true := by simp; exact hk
  obtain ⟨a, c, rfl, _⟩ := hv
  generalize ps.length = n at *
  have k0 := rb.cell 0
  simp only [List.getElem?_cons_zero] at k0
  have BA := Lib.hid ba
  clear ba rb he hl
  refine callsIn_wide.1 (callsIn_of_wp_marks (F := Fence.wide) (n := 4) Try.func23 rfl trivial ?_ rfl)
  simp only [Try.ntmps23, List.size_toArray, List.length_cons, List.length_nil, Nat.reduceAdd, Nat.reduceSub, Array.replicate_succ, Array.replicate_zero, List.push_toArray, List.append_toArray, List.nil_append, List.cons_append]
  gi_wp2_with fail
  refine ⟨trivial, (callsIn_wide.2 HC.out).mono ?_⟩
  rintro e w1 ⟨rfl, hb⟩
  have HB := Lib.hid (Below.andThen BA.out hb (Nat.le_refl _))
  clear hb HC k0
  gi_wp2_with fail
  refine leaves_marks (B := w.heap.size) (fun X => Below w.heap.size w X) (lasts_below _ _ _ (Nat.le_refl _) (Nat.le_refl _)) ?_ [] _ (marks_nil _ _) HB.out
  intro X hX
  refine ⟨.tuple #[.slice none 0 0, .int .i64 k], ?_, rfl, hX⟩
  simp [results, Try.results23, go_sem]
theorem listT_start (w w1 : World) (hb : Below w.heap.size w w1) : ListT w w1.heap.size [] (.slice none 0 0) (w1.alloc (.cells [.slice none 0 0].toArray 39)) := by
  obtain ⟨b2, r2⟩ := box_start w1 39 [.slice none 0 0]
  exact ⟨r2, ⟨by simp [flatT], .inl ⟨rfl, rfl⟩⟩, Below.andThen hb b2 (Nat.le_refl _), hb.size⟩
set_option maxRecDepth 100000 in
set_option maxHeartbeats 1000000 in
theorem Empty_ok (ps : List Pt) (v : Value) (w : World) (hv : SlP w v ps) (he : chkP ps = true) :
    Calls Try.prog 23 #[v] w fun e w' => ∃ s, e = .returned (.tuple #[s, .int .i64 0]) ∧ w'.ownsRow w.heap.size 71 3 s (emptyL ps).length (flatT (emptyL ps)) ∧ Below w.heap.size w w' := by
  obtain ⟨⟨hl1, hl⟩, hps, _⟩ := chkP_iff.1 he
  obtain ⟨ba, rb⟩ := box_start w 22 [v]
  have HC0 := Lib.hid (Check_any ps v _ (hv.grow ba) (by omega))
  rw [show errP ps = 0 by unfold errP; rw [if_pos he]] at HC0
  have HSL := Lib.hid hv
  have HPS := Lib.hid hps
  obtain ⟨n, hn⟩ : ∃ n, ps.length = n := ⟨_, rfl⟩
  obtain ⟨a, c, rfl, hcap, hpt⟩ := hv
  rw [hn] at hcap hl HC0 HSL ba rb
  have HPT := Lib.hid hpt
  have HN := Lib.hid hn
  have k0 := rb.cell 0
  simp only [List.getElem?_cons_zero] at k0
  rw [HN.out]
  have F0 := Lib.hid (And.intro ba rb)
  clear ba rb he hpt hn hps
  refine callsIn_wide.1 (callsIn_of_wp_marks (F := Fence.wide) (n := 4) Try.func23 rfl trivial ?_ rfl)
  simp only [Try.ntmps23, List.size_toArray, List.length_cons, List.length_nil, Nat.reduceAdd, Nat.reduceSub, Array.replicate_succ, Array.replicate_zero, List.push_toArray, List.append_toArray, List.nil_append, List.cons_append]
  gi_wp2_with fail
  refine ⟨trivial, (callsIn_wide.2 HC0.out).mono ?_⟩
  rintro e w1 ⟨rfl, hb1⟩
  have hw1 : Below w.heap.size w w1 := Below.andThen F0.out.1 hb1 (Nat.le_refl _)
  have hlt := listT_start w w1 hw1
  obtain ⟨ba, _⟩ := box_start w1 39 [.slice none 0 0]
  have rb1 := F0.out.2.below hb1 F0.out.2.lt
  have rb2 := rb1.below ba rb1.lt
  have c1 := rb1.cell 0
  have c0 := rb2.cell 0
  simp only [List.getElem?_cons_zero] at c0 c1
  have HTR := Lib.hid (triples_any (n : Int) (w1.alloc (.cells [.slice none 0 0].toArray 39)))
  have HR := Lib.hid rb2
  have HL := Lib.hid hlt
  clear rb1 rb2 hlt ba hb1 k0 HC0 F0
  gi_wp2_with fail
  refine ⟨trivial, (callsIn_wide.2 HTR.out).mono ?_⟩
  generalize w1.alloc (.cells [.slice none 0 0].toArray 39) = wr at *
  generalize w1.heap.size = L at *
  rintro e w2 ⟨rfl, hb, rt⟩
  have rb2 := HR.out.below hb HR.out.lt
  have lc2 := HL.out.below hb
  have SL := Lib.hid (triples_seq n wr.heap.size wr.heap.size (by omega) (Nat.le_refl _) w2 rt)
  have KK := Lib.hid (And.intro rb2 (And.intro lc2 hb.size))
  clear rb2 lc2 hb rt HTR c0
  gi_wp2_with fail
  refine range_list SL.out rfl (enters_of Try.func89 (by kernel_rfl) rfl)
    (fun pre V => Row V w.heap.size 22 [.slice a n c] ∧ ∃ lv, ListT w L (pre.filter (empB ps)) lv V)
    (fun _ _ _ => False) ?hI ?hIx ?h0
    (fun x a' V => ∃ b, a' = { tmps := #[Value.slice a n c, .pointer (some ⟨w.heap.size, 0, none⟩), Value.slice none 0 0, .int .i64 0, .int .i64 0, .pointer (some ⟨L, 0, none⟩), .pointer (some ⟨b, 0, none⟩), undef, undef, undef, Value.slice a n c, .int .i64 0, .int .i64 0, .bool false, undef, Value.slice a n c, .int .i64 (n : Int), .func (.func 89) #[] #[.pointer (some ⟨wr.heap.size, 0, none⟩)], encT x, undef, undef, undef, undef, undef, undef, undef, undef, undef, undef, undef, undef, undef, undef, undef, undef, undef, undef, undef, undef, undef, undef, undef, undef, undef, undef, undef, undef, undef, undef, undef, undef], defers := [] } ∧ wr.heap.size ≤ b ∧ Row V b 71 [.int .i64 (x.1 : Int), .int .i64 (x.2.1 : Int), .int .i64 (x.2.2 : Int)])
    ?hR ?assign ?body ?done ?stop
  case hI =>
    rintro pre V V' row ⟨h1, lv', h2⟩ hg hr
    exact ⟨lasts_row _ _ _ _ V V' row h1 hg hr, lv', lasts_listT _ _ _ _ _ KK.out.2.1.bw.size V V' row h2 hg hr⟩
  case hIx => exact fun _ _ _ _ _ h _ _ => h
  case h0 => exact ⟨KK.out.1, _, by simpa using KK.out.2.1⟩
  case hR =>
    rintro x a' V V' row ⟨b, h1, h2, h3⟩ hg hr
    exact ⟨b, h1, h2, lasts_row _ _ _ _ V V' row h3 hg hr⟩
  case assign =>
    intro l2 x V K hs hK
    have hk := hK _ _ ⟨_, rfl, by have := KK.out.2.2; omega, Row.new V 71 [.int .i64 (x.1 : Int), .int .i64 (x.2.1 : Int), .int .i64 (x.2.2 : Int)]⟩ ((Below.refl V.heap.size V).alloc (Nat.le_refl _) _)
    have HKk := Lib.hid hk
    clear hk hK
    dsimp only [encT]
    simp only [List.setIfInBounds_toArray, List.set_cons_succ, List.set_cons_zero]
    gi_wp2
    exact HKk.out
  case stop =>
    rintro D c pre V hD hpre hf hK
    exact hf.elim
  case done =>
    rintro D V hD ⟨h1, lv', h2⟩ hK
    have c0 := h2.row.cell 0
    simp only [List.getElem?_cons_zero] at c0
    have HA := Lib.hid (show ListT w L (emptyL ps) lv' V by unfold emptyL; rw [HN.out]; exact h2)
    have hK' := Lib.hid (mark1 hK (show w.heap.size ≤ D from Nat.le_trans KK.out.2.1.bw.size hD))
    clear h1 h2 hK
    dsimp only
    simp only [Exit.inBlock]
    gi_wp2_with fail
    refine leaves_marks (B := w.heap.size) (fun X => X.ownsRow w.heap.size 71 3 lv' (emptyL ps).length (flatT (emptyL ps)) ∧ Below w.heap.size w X)
      ((lasts_owns _ _ _ _ _ _ _).and (lasts_below _ _ _ (Nat.le_refl _) (Nat.le_refl _))) ?_ _ _ hK'.out ⟨owns_mono HA.out.own (by have := HA.out.hL; omega), HA.out.bw⟩
    rintro X ⟨ho, hb⟩
    refine ⟨.tuple #[lv', .int .i64 0], ?_, lv', rfl, ho, hb⟩
    simp [results, Try.results23, go_sem]
  case body =>
    rintro l2 x pre a' V hpre hs ⟨h1, lv', h2⟩ ⟨b, rfl, hb, hr⟩
    have hx := mem_trL.1 (hpre.subset (by simp : x ∈ pre ++ [x]))
    obtain ⟨t0, t1, t2⟩ := x
    dsimp only at hx hr
    obtain ⟨g, o, rfl, hpa⟩ : ∃ g o, a = some ⟨g, o, none⟩ ∧ PtsAt w g o ps := by
      rcases HPT.out with h | h
      · have h2 := HN.out; subst h; simp at h2; omega
      · exact h
    have hpa2 := hpa.grow h2.bw
    have i0 : t0 < ps.length := by rw [HN.out]; omega
    have i1 : t1 < ps.length := by rw [HN.out]; omega
    have i2 : t2 < ps.length := by rw [HN.out]; omega
    have HX0 := Lib.hid (And.intro (fun W (hb : Below V.heap.size V W) => (hpa2.grow hb).x t0 i0) (fun W (hb : Below V.heap.size V W) => (hpa2.grow hb).y t0 i0))
    have HX1 := Lib.hid (And.intro (fun W (hb : Below V.heap.size V W) => (hpa2.grow hb).x t1 i1) (fun W (hb : Below V.heap.size V W) => (hpa2.grow hb).y t1 i1))
    have HX2 := Lib.hid (And.intro (fun W (hb : Below V.heap.size V W) => (hpa2.grow hb).x t2 i2) (fun W (hb : Below V.heap.size V W) => (hpa2.grow hb).y t2 i2))
    have q0 := HPS.out _ (List.getElem_mem i0)
    have q1 := HPS.out _ (List.getElem_mem i1)
    have q2 := HPS.out _ (List.getElem_mem i2)
    have ht : empB ps (t0, t1, t2) = (!decide (thD ps[t0] ps[t1] ps[t2] = 0) && !ps.any (fun p => decide (whF (thC ps[t0] ps[t1] ps[t2]) p < 0))) := by
      unfold empB
      dsimp only
      rw [ptAt_lt i0, ptAt_lt i1, ptAt_lt i2]
    generalize ps[t0] = p0 at *
    generalize ps[t1] = p1 at *
    generalize ps[t2] = p2 at *
    obtain ⟨a0, b0⟩ := p0
    obtain ⟨a1, b1⟩ := p1
    obtain ⟨a2, b2⟩ := p2
    dsimp only at HX0 HX1 HX2 q0 q1 q2
    have hth := fun (W : World) => through_any a0 b0 a1 b1 a2 b2 W q0.1 q0.2 q1.1 q1.2 q2.1 q2.2
    obtain ⟨X, Y, D, R, E, hV, hE, hC⟩ : ∃ X Y D R E, thrV (a0, b0) (a1, b1) (a2, b2) = .agg #[.int .i64 X, .int .i64 Y, .int .i64 D, .int .i64 R] ∧ (!decide (thD (a0, b0) (a1, b1) (a2, b2) = 0)) = E ∧
        (E = true → CirB ⟨X, Y, D, R⟩ ∧ empB ps (t0, t1, t2) = !ps.any (fun p => decide (whF ⟨X, Y, D, R⟩ p < 0))) ∧ (E = false → empB ps (t0, t1, t2) = false) := by
      rw [ht]
      by_cases hz : thD (a0, b0) (a1, b1) (a2, b2) = 0
      · exact ⟨0, 0, 0, 0, false, by unfold thrV; rw [if_pos hz]; rfl, by simp [hz], (fun h => by cases h), fun _ => by simp [hz]⟩
      · exact ⟨_, _, _, _, true, by unfold thrV; rw [if_neg hz]; rfl, by simp [hz], (fun _ => ⟨thC_bd q0 q1 q2 hz, by simp [hz]; rfl⟩), fun h => by cases h⟩
    rw [hV, hE] at hth
    have HTH := Lib.hid hth
    have HCE := Lib.hid hC
    have HB3 := Lib.hid hx
    have HF := Lib.hid (And.intro h1 (And.intro h2 (And.intro hr (And.intro hs hb))))
    have HPRE := Lib.hid hpre
    clear hth hV hE hC ht q0 q1 q2 i0 i1 i2 hpa2 hpa hx h1 h2 hr hs hb hpre
    dsimp only [encT]
    gi_wp2_with fail
    refine wpIn_region_box (by kernel_rfl) (by kernel_rfl) [20, 21, 22, 23, 24, 25, 26, 27, 28, 29, 30, 31, 32, 33, 34, 35, 19, 36, 37, 7, 1000, 8] [(fun v => v = .slice (some ⟨g, o, none⟩) n c), (fun v => v = .pointer (some ⟨b, 0, none⟩)), (fun v => v = .int .i64 (t0 : Int)), (fun v => v = .pointer (some ⟨g, o + t0 * 2, none⟩)), (fun v => v = .agg #[.int .i64 a0, .int .i64 b0]), (fun v => v = .slice (some ⟨g, o, none⟩) n c), (fun v => v = .pointer (some ⟨b, 1, none⟩)), (fun v => v = .int .i64 (t1 : Int)), (fun v => v = .pointer (some ⟨g, o + t1 * 2, none⟩)), (fun v => v = .agg #[.int .i64 a1, .int .i64 b1]), (fun v => v = .slice (some ⟨g, o, none⟩) n c), (fun v => v = .pointer (some ⟨b, 2, none⟩)), (fun v => v = .int .i64 (t2 : Int)), (fun v => v = .pointer (some ⟨g, o + t2 * 2, none⟩)), (fun v => v = .agg #[.int .i64 a2, .int .i64 b2]), (fun v => v = .tuple #[.agg #[.int .i64 X, .int .i64 Y, .int .i64 D, .int .i64 R], .bool E]), (fun v => v = .tuple #[.agg #[.int .i64 X, .int .i64 Y, .int .i64 D, .int .i64 R], .bool E]), (fun v => v = .agg #[.int .i64 X, .int .i64 Y, .int .i64 D, .int .i64 R]), (fun v => v = .bool E), (fun _ => True), (fun _ => True), (fun v => v = .bool E)] [none, none, none, none, none, none, none, none, none, none, none, none, none, none, none, none, none, none, none, some (30, [.int .i64 0, .int .i64 0, .int .i64 0, .int .i64 0], [.int .i64 X, .int .i64 Y, .int .i64 D, .int .i64 R]), none, none] [none, none, none, none, none, none, none, none, none, none, none, none, none, none, none, none, none, none, none, none, some 19, none] 22 rfl (by kernel_rfl) ?tr ⟨[undef, undef, undef, undef, undef, undef, undef, undef, undef, undef, undef, undef, undef, undef, undef, undef, undef, undef, undef, undef, undef, undef], by simp only [putAll, Act.put, List.setIfInBounds_toArray, List.set_cons_succ, List.set_cons_zero, List.set_nil], rfl⟩ ?steps ?fin
    case tr =>
      rintro i v h
      rcases i with _ | _ | _ | _ | _ | _ | _ | _ | _ | _ | _ | _ | _ | _ | _ | _ | _ | _ | _ | _ | _ | _ | i
      all_goals first | trivial | (exfalso; rcases h with h | h <;> simp at h)
    case steps =>
      simp only [boxStepsIn, Nat.reduceAdd, Nat.zero_add, List.getD_cons_succ, List.getD_cons_zero]
      refine ⟨?_, ?_, ?_, ?_, ?_, ?_, ?_, ?_, ?_, ?_, ?_, ?_, ?_, ?_, ?_, ?_, ?_, ?_, ?_, ?_, ?_, ?_, trivial⟩
      · rintro vs W K hc hvl hw hK
        obtain ⟨x0, x1, x2, x3, x4, x5, x6, x7, x8, x9, x10, x11, x12, x13, x14, x15, x16, x17, x18, x19, x20, x21, rfl⟩ := len22 hvl
        have HK := Lib.hid hK
        have HC := Lib.hid hc
        have HW := Lib.hid hw
        clear hK hc hw hvl
        simp only [putAll, Act.put, List.setIfInBounds_toArray, List.set_cons_succ, List.set_cons_zero, List.set_nil]
        have rr := HF.out.1.below HC.out HF.out.1.lt
        have d0 := rr.cell 0
        simp only [List.getElem?_cons_zero] at d0
        clear rr
        clear HW
        gi_wp2_with fail
        have fin := HK.out (.slice (some ⟨g, o, none⟩) n c) W (Below.refl _ _) rfl
        simp only [putAll, Act.put, List.setIfInBounds_toArray, List.set_cons_succ, List.set_cons_zero, List.set_nil] at fin
        exact fin
      · rintro vs W K hc hvl hw hK
        obtain ⟨x0, x1, x2, x3, x4, x5, x6, x7, x8, x9, x10, x11, x12, x13, x14, x15, x16, x17, x18, x19, x20, x21, rfl⟩ := len22 hvl
        have HK := Lib.hid hK
        have HC := Lib.hid hc
        have HW := Lib.hid hw
        clear hK hc hw hvl
        simp only [putAll, Act.put, List.setIfInBounds_toArray, List.set_cons_succ, List.set_cons_zero, List.set_nil]
        clear HW
        gi_wp2_with fail
        have fin := HK.out (.pointer (some ⟨b, 0, none⟩)) W (Below.refl _ _) rfl
        simp only [putAll, Act.put, List.setIfInBounds_toArray, List.set_cons_succ, List.set_cons_zero, List.set_nil] at fin
        exact fin
      · rintro vs W K hc hvl hw hK
        obtain ⟨x0, x1, x2, x3, x4, x5, x6, x7, x8, x9, x10, x11, x12, x13, x14, x15, x16, x17, x18, x19, x20, x21, rfl⟩ := len22 hvl
        have HK := Lib.hid hK
        have HC := Lib.hid hc
        have HW := Lib.hid hw
        clear hK hc hw hvl
        obtain rfl : x1 = .pointer (some ⟨b, 0, none⟩) := box_get (HW.out ⟨1, .data⟩ (by simp) rfl) rfl
        simp only [putAll, Act.put, List.setIfInBounds_toArray, List.set_cons_succ, List.set_cons_zero, List.set_nil]
        have rr := HF.out.2.2.1.below HC.out HF.out.2.2.1.lt
        have d0 := rr.cell 0
        simp only [List.getElem?_cons_zero] at d0
        clear rr
        clear HW
        gi_wp2_with fail
        have fin := HK.out (.int .i64 (t0 : Int)) W (Below.refl _ _) rfl
        simp only [putAll, Act.put, List.setIfInBounds_toArray, List.set_cons_succ, List.set_cons_zero, List.set_nil] at fin
        exact fin
      · rintro vs W K hc hvl hw hK
        obtain ⟨x0, x1, x2, x3, x4, x5, x6, x7, x8, x9, x10, x11, x12, x13, x14, x15, x16, x17, x18, x19, x20, x21, rfl⟩ := len22 hvl
        have HK := Lib.hid hK
        have HC := Lib.hid hc
        have HW := Lib.hid hw
        clear hK hc hw hvl
        obtain rfl : x0 = .slice (some ⟨g, o, none⟩) n c := box_get (HW.out ⟨0, .data⟩ (by simp) rfl) rfl
        obtain rfl : x2 = .int .i64 (t0 : Int) := box_get (HW.out ⟨2, .data⟩ (by simp) rfl) rfl
        simp only [putAll, Act.put, List.setIfInBounds_toArray, List.set_cons_succ, List.set_cons_zero, List.set_nil]
        have hi1 : (t0 : Int) < (n : Int) := by have := HB3.out; omega
        clear HW
        gi_wp2_with fail
        have fin := HK.out (.pointer (some ⟨g, o + t0 * 2, none⟩)) W (Below.refl _ _) rfl
        simp only [putAll, Act.put, List.setIfInBounds_toArray, List.set_cons_succ, List.set_cons_zero, List.set_nil] at fin
        exact fin
      · rintro vs W K hc hvl hw hK
        obtain ⟨x0, x1, x2, x3, x4, x5, x6, x7, x8, x9, x10, x11, x12, x13, x14, x15, x16, x17, x18, x19, x20, x21, rfl⟩ := len22 hvl
        have HK := Lib.hid hK
        have HC := Lib.hid hc
        have HW := Lib.hid hw
        clear hK hc hw hvl
        obtain rfl : x3 = .pointer (some ⟨g, o + t0 * 2, none⟩) := box_get (HW.out ⟨3, .data⟩ (by simp) rfl) rfl
        simp only [putAll, Act.put, List.setIfInBounds_toArray, List.set_cons_succ, List.set_cons_zero, List.set_nil]
        have d0 := HX0.out.1 W HC.out
        have d1 := HX0.out.2 W HC.out
        clear HW
        gi_wp2_with fail
        have fin := HK.out (.agg #[.int .i64 a0, .int .i64 b0]) W (Below.refl _ _) rfl
        simp only [putAll, Act.put, List.setIfInBounds_toArray, List.set_cons_succ, List.set_cons_zero, List.set_nil] at fin
        exact fin
      · rintro vs W K hc hvl hw hK
        obtain ⟨x0, x1, x2, x3, x4, x5, x6, x7, x8, x9, x10, x11, x12, x13, x14, x15, x16, x17, x18, x19, x20, x21, rfl⟩ := len22 hvl
        have HK := Lib.hid hK
        have HC := Lib.hid hc
        have HW := Lib.hid hw
        clear hK hc hw hvl
        simp only [putAll, Act.put, List.setIfInBounds_toArray, List.set_cons_succ, List.set_cons_zero, List.set_nil]
        have rr := HF.out.1.below HC.out HF.out.1.lt
        have d0 := rr.cell 0
        simp only [List.getElem?_cons_zero] at d0
        clear rr
        clear HW
        gi_wp2_with fail
        have fin := HK.out (.slice (some ⟨g, o, none⟩) n c) W (Below.refl _ _) rfl
        simp only [putAll, Act.put, List.setIfInBounds_toArray, List.set_cons_succ, List.set_cons_zero, List.set_nil] at fin
        exact fin
      · rintro vs W K hc hvl hw hK
        obtain ⟨x0, x1, x2, x3, x4, x5, x6, x7, x8, x9, x10, x11, x12, x13, x14, x15, x16, x17, x18, x19, x20, x21, rfl⟩ := len22 hvl
        have HK := Lib.hid hK
        have HC := Lib.hid hc
        have HW := Lib.hid hw
        clear hK hc hw hvl
        simp only [putAll, Act.put, List.setIfInBounds_toArray, List.set_cons_succ, List.set_cons_zero, List.set_nil]
        clear HW
        gi_wp2_with fail
        have fin := HK.out (.pointer (some ⟨b, 1, none⟩)) W (Below.refl _ _) rfl
        simp only [putAll, Act.put, List.setIfInBounds_toArray, List.set_cons_succ, List.set_cons_zero, List.set_nil] at fin
        exact fin
      · rintro vs W K hc hvl hw hK
        obtain ⟨x0, x1, x2, x3, x4, x5, x6, x7, x8, x9, x10, x11, x12, x13, x14, x15, x16, x17, x18, x19, x20, x21, rfl⟩ := len22 hvl
        have HK := Lib.hid hK
        have HC := Lib.hid hc
        have HW := Lib.hid hw
        clear hK hc hw hvl
        obtain rfl : x6 = .pointer (some ⟨b, 1, none⟩) := box_get (HW.out ⟨6, .data⟩ (by simp) rfl) rfl
        simp only [putAll, Act.put, List.setIfInBounds_toArray, List.set_cons_succ, List.set_cons_zero, List.set_nil]
        have rr := HF.out.2.2.1.below HC.out HF.out.2.2.1.lt
        have d0 := rr.cell 1
        simp only [List.getElem?_cons_zero, List.getElem?_cons_succ] at d0
        clear rr
        clear HW
        gi_wp2_with fail
        have fin := HK.out (.int .i64 (t1 : Int)) W (Below.refl _ _) rfl
        simp only [putAll, Act.put, List.setIfInBounds_toArray, List.set_cons_succ, List.set_cons_zero, List.set_nil] at fin
        exact fin
      · rintro vs W K hc hvl hw hK
        obtain ⟨x0, x1, x2, x3, x4, x5, x6, x7, x8, x9, x10, x11, x12, x13, x14, x15, x16, x17, x18, x19, x20, x21, rfl⟩ := len22 hvl
        have HK := Lib.hid hK
        have HC := Lib.hid hc
        have HW := Lib.hid hw
        clear hK hc hw hvl
        obtain rfl : x5 = .slice (some ⟨g, o, none⟩) n c := box_get (HW.out ⟨5, .data⟩ (by simp) rfl) rfl
        obtain rfl : x7 = .int .i64 (t1 : Int) := box_get (HW.out ⟨7, .data⟩ (by simp) rfl) rfl
        simp only [putAll, Act.put, List.setIfInBounds_toArray, List.set_cons_succ, List.set_cons_zero, List.set_nil]
        have hi1 : (t1 : Int) < (n : Int) := by have := HB3.out; omega
        clear HW
        gi_wp2_with fail
        have fin := HK.out (.pointer (some ⟨g, o + t1 * 2, none⟩)) W (Below.refl _ _) rfl
        simp only [putAll, Act.put, List.setIfInBounds_toArray, List.set_cons_succ, List.set_cons_zero, List.set_nil] at fin
        exact fin
      · rintro vs W K hc hvl hw hK
        obtain ⟨x0, x1, x2, x3, x4, x5, x6, x7, x8, x9, x10, x11, x12, x13, x14, x15, x16, x17, x18, x19, x20, x21, rfl⟩ := len22 hvl
        have HK := Lib.hid hK
        have HC := Lib.hid hc
        have HW := Lib.hid hw
        clear hK hc hw hvl
        obtain rfl : x8 = .pointer (some ⟨g, o + t1 * 2, none⟩) := box_get (HW.out ⟨8, .data⟩ (by simp) rfl) rfl
        simp only [putAll, Act.put, List.setIfInBounds_toArray, List.set_cons_succ, List.set_cons_zero, List.set_nil]
        have d0 := HX1.out.1 W HC.out
        have d1 := HX1.out.2 W HC.out
        clear HW
        gi_wp2_with fail
        have fin := HK.out (.agg #[.int .i64 a1, .int .i64 b1]) W (Below.refl _ _) rfl
        simp only [putAll, Act.put, List.setIfInBounds_toArray, List.set_cons_succ, List.set_cons_zero, List.set_nil] at fin
        exact fin
      · rintro vs W K hc hvl hw hK
        obtain ⟨x0, x1, x2, x3, x4, x5, x6, x7, x8, x9, x10, x11, x12, x13, x14, x15, x16, x17, x18, x19, x20, x21, rfl⟩ := len22 hvl
        have HK := Lib.hid hK
        have HC := Lib.hid hc
        have HW := Lib.hid hw
        clear hK hc hw hvl
        simp only [putAll, Act.put, List.setIfInBounds_toArray, List.set_cons_succ, List.set_cons_zero, List.set_nil]
        have rr := HF.out.1.below HC.out HF.out.1.lt
        have d0 := rr.cell 0
        simp only [List.getElem?_cons_zero] at d0
        clear rr
        clear HW
        gi_wp2_with fail
        have fin := HK.out (.slice (some ⟨g, o, none⟩) n c) W (Below.refl _ _) rfl
        simp only [putAll, Act.put, List.setIfInBounds_toArray, List.set_cons_succ, List.set_cons_zero, List.set_nil] at fin
        exact fin
      · rintro vs W K hc hvl hw hK
        obtain ⟨x0, x1, x2, x3, x4, x5, x6, x7, x8, x9, x10, x11, x12, x13, x14, x15, x16, x17, x18, x19, x20, x21, rfl⟩ := len22 hvl
        have HK := Lib.hid hK
        have HC := Lib.hid hc
        have HW := Lib.hid hw
        clear hK hc hw hvl
        simp only [putAll, Act.put, List.setIfInBounds_toArray, List.set_cons_succ, List.set_cons_zero, List.set_nil]
        clear HW
        gi_wp2_with fail
        have fin := HK.out (.pointer (some ⟨b, 2, none⟩)) W (Below.refl _ _) rfl
        simp only [putAll, Act.put, List.setIfInBounds_toArray, List.set_cons_succ, List.set_cons_zero, List.set_nil] at fin
        exact fin
      · rintro vs W K hc hvl hw hK
        obtain ⟨x0, x1, x2, x3, x4, x5, x6, x7, x8, x9, x10, x11, x12, x13, x14, x15, x16, x17, x18, x19, x20, x21, rfl⟩ := len22 hvl
        have HK := Lib.hid hK
        have HC := Lib.hid hc
        have HW := Lib.hid hw
        clear hK hc hw hvl
        obtain rfl : x11 = .pointer (some ⟨b, 2, none⟩) := box_get (HW.out ⟨11, .data⟩ (by simp) rfl) rfl
        simp only [putAll, Act.put, List.setIfInBounds_toArray, List.set_cons_succ, List.set_cons_zero, List.set_nil]
        have rr := HF.out.2.2.1.below HC.out HF.out.2.2.1.lt
        have d0 := rr.cell 2
        simp only [List.getElem?_cons_zero, List.getElem?_cons_succ] at d0
        clear rr
        clear HW
        gi_wp2_with fail
        have fin := HK.out (.int .i64 (t2 : Int)) W (Below.refl _ _) rfl
        simp only [putAll, Act.put, List.setIfInBounds_toArray, List.set_cons_succ, List.set_cons_zero, List.set_nil] at fin
        exact fin
      · rintro vs W K hc hvl hw hK
        obtain ⟨x0, x1, x2, x3, x4, x5, x6, x7, x8, x9, x10, x11, x12, x13, x14, x15, x16, x17, x18, x19, x20, x21, rfl⟩ := len22 hvl
        have HK := Lib.hid hK
        have HC := Lib.hid hc
        have HW := Lib.hid hw
        clear hK hc hw hvl
        obtain rfl : x10 = .slice (some ⟨g, o, none⟩) n c := box_get (HW.out ⟨10, .data⟩ (by simp) rfl) rfl
        obtain rfl : x12 = .int .i64 (t2 : Int) := box_get (HW.out ⟨12, .data⟩ (by simp) rfl) rfl
        simp only [putAll, Act.put, List.setIfInBounds_toArray, List.set_cons_succ, List.set_cons_zero, List.set_nil]
        have hi1 : (t2 : Int) < (n : Int) := by have := HB3.out; omega
        clear HW
        gi_wp2_with fail
        have fin := HK.out (.pointer (some ⟨g, o + t2 * 2, none⟩)) W (Below.refl _ _) rfl
        simp only [putAll, Act.put, List.setIfInBounds_toArray, List.set_cons_succ, List.set_cons_zero, List.set_nil] at fin
        exact fin
      · rintro vs W K hc hvl hw hK
        obtain ⟨x0, x1, x2, x3, x4, x5, x6, x7, x8, x9, x10, x11, x12, x13, x14, x15, x16, x17, x18, x19, x20, x21, rfl⟩ := len22 hvl
        have HK := Lib.hid hK
        have HC := Lib.hid hc
        have HW := Lib.hid hw
        clear hK hc hw hvl
        obtain rfl : x13 = .pointer (some ⟨g, o + t2 * 2, none⟩) := box_get (HW.out ⟨13, .data⟩ (by simp) rfl) rfl
        simp only [putAll, Act.put, List.setIfInBounds_toArray, List.set_cons_succ, List.set_cons_zero, List.set_nil]
        have d0 := HX2.out.1 W HC.out
        have d1 := HX2.out.2 W HC.out
        clear HW
        gi_wp2_with fail
        have fin := HK.out (.agg #[.int .i64 a2, .int .i64 b2]) W (Below.refl _ _) rfl
        simp only [putAll, Act.put, List.setIfInBounds_toArray, List.set_cons_succ, List.set_cons_zero, List.set_nil] at fin
        exact fin
      · rintro vs W K hc hvl hw hK
        obtain ⟨x0, x1, x2, x3, x4, x5, x6, x7, x8, x9, x10, x11, x12, x13, x14, x15, x16, x17, x18, x19, x20, x21, rfl⟩ := len22 hvl
        have HK := Lib.hid hK
        have HC := Lib.hid hc
        have HW := Lib.hid hw
        clear hK hc hw hvl
        obtain rfl : x4 = .agg #[.int .i64 a0, .int .i64 b0] := box_get (HW.out ⟨4, .data⟩ (by simp) rfl) rfl
        obtain rfl : x9 = .agg #[.int .i64 a1, .int .i64 b1] := box_get (HW.out ⟨9, .data⟩ (by simp) rfl) rfl
        obtain rfl : x14 = .agg #[.int .i64 a2, .int .i64 b2] := box_get (HW.out ⟨14, .data⟩ (by simp) rfl) rfl
        simp only [putAll, Act.put, List.setIfInBounds_toArray, List.set_cons_succ, List.set_cons_zero, List.set_nil]
        clear HW
        gi_wp2_with fail
        refine ⟨trivial, (CallsIn.inRound l2 (callsIn_wide.2 (HTH.out W))).mono ?_⟩
        rintro e W' ⟨rfl, hb'⟩
        have HB' := Lib.hid hb'
        clear hb'
        gi_wp2_with fail
        have fin := HK.out (.tuple #[.agg #[.int .i64 X, .int .i64 Y, .int .i64 D, .int .i64 R], .bool E]) W' HB'.out rfl
        simp only [putAll, Act.put, List.setIfInBounds_toArray, List.set_cons_succ, List.set_cons_zero, List.set_nil] at fin
        exact fin
      · rintro vs W K hc hvl hw hK
        obtain ⟨x0, x1, x2, x3, x4, x5, x6, x7, x8, x9, x10, x11, x12, x13, x14, x15, x16, x17, x18, x19, x20, x21, rfl⟩ := len22 hvl
        have HK := Lib.hid hK
        have HC := Lib.hid hc
        have HW := Lib.hid hw
        clear hK hc hw hvl
        obtain rfl : x15 = .tuple #[.agg #[.int .i64 X, .int .i64 Y, .int .i64 D, .int .i64 R], .bool E] := box_get (HW.out ⟨15, .data⟩ (by simp) rfl) rfl
        simp only [putAll, Act.put, List.setIfInBounds_toArray, List.set_cons_succ, List.set_cons_zero, List.set_nil]
        clear HW
        gi_wp2_with fail
        have fin := HK.out (.tuple #[.agg #[.int .i64 X, .int .i64 Y, .int .i64 D, .int .i64 R], .bool E]) W (Below.refl _ _) rfl
        simp only [putAll, Act.put, List.setIfInBounds_toArray, List.set_cons_succ, List.set_cons_zero, List.set_nil] at fin
        exact fin
      · rintro vs W K hc hvl hw hK
        obtain ⟨x0, x1, x2, x3, x4, x5, x6, x7, x8, x9, x10, x11, x12, x13, x14, x15, x16, x17, x18, x19, x20, x21, rfl⟩ := len22 hvl
        have HK := Lib.hid hK
        have HC := Lib.hid hc
        have HW := Lib.hid hw
        clear hK hc hw hvl
        obtain rfl : x16 = .tuple #[.agg #[.int .i64 X, .int .i64 Y, .int .i64 D, .int .i64 R], .bool E] := box_get (HW.out ⟨16, .data⟩ (by simp) rfl) rfl
        simp only [putAll, Act.put, List.setIfInBounds_toArray, List.set_cons_succ, List.set_cons_zero, List.set_nil]
        clear HW
        gi_wp2_with fail
        have fin := HK.out (.agg #[.int .i64 X, .int .i64 Y, .int .i64 D, .int .i64 R]) W (Below.refl _ _) rfl
        simp only [putAll, Act.put, List.setIfInBounds_toArray, List.set_cons_succ, List.set_cons_zero, List.set_nil] at fin
        exact fin
      · rintro vs W K hc hvl hw hK
        obtain ⟨x0, x1, x2, x3, x4, x5, x6, x7, x8, x9, x10, x11, x12, x13, x14, x15, x16, x17, x18, x19, x20, x21, rfl⟩ := len22 hvl
        have HK := Lib.hid hK
        have HC := Lib.hid hc
        have HW := Lib.hid hw
        clear hK hc hw hvl
        obtain rfl : x16 = .tuple #[.agg #[.int .i64 X, .int .i64 Y, .int .i64 D, .int .i64 R], .bool E] := box_get (HW.out ⟨16, .data⟩ (by simp) rfl) rfl
        simp only [putAll, Act.put, List.setIfInBounds_toArray, List.set_cons_succ, List.set_cons_zero, List.set_nil]
        clear HW
        gi_wp2_with fail
        have fin := HK.out (.bool E) W (Below.refl _ _) rfl
        simp only [putAll, Act.put, List.setIfInBounds_toArray, List.set_cons_succ, List.set_cons_zero, List.set_nil] at fin
        exact fin
      · rintro vs W K hc hvl hw hK
        obtain ⟨x0, x1, x2, x3, x4, x5, x6, x7, x8, x9, x10, x11, x12, x13, x14, x15, x16, x17, x18, x19, x20, x21, rfl⟩ := len22 hvl
        have HK := Lib.hid hK
        have HC := Lib.hid hc
        have HW := Lib.hid hw
        clear hK hc hw hvl
        simp only [putAll, Act.put, List.setIfInBounds_toArray, List.set_cons_succ, List.set_cons_zero, List.set_nil]
        clear HW
        gi_wp2_with fail
        have fin := HK.out
        simp only [putAll, Act.put, List.setIfInBounds_toArray, List.set_cons_succ, List.set_cons_zero, List.set_nil] at fin
        exact fin
      · rintro vs W K hc hvl hw b E z f hia hva hb0 hr hK
        cases hia
        obtain ⟨x0, x1, x2, x3, x4, x5, x6, x7, x8, x9, x10, x11, x12, x13, x14, x15, x16, x17, x18, x19, x20, x21, rfl⟩ := len22 hvl
        have HK := Lib.hid hK
        have HC := Lib.hid hc
        have HW := Lib.hid hw
        clear hK hc hw hvl
        obtain rfl : x17 = .agg #[.int .i64 X, .int .i64 Y, .int .i64 D, .int .i64 R] := box_get (HW.out ⟨17, .data⟩ (by simp) rfl) rfl
        obtain rfl : x19 = .pointer (some ⟨b, 0, none⟩) := Option.some.inj hva
        simp only [putAll, Act.put, List.setIfInBounds_toArray, List.set_cons_succ, List.set_cons_zero, List.set_nil]
        have kf0 := frozen_of_row W b 0 _ _ hr
        have kc0 : W.cell? ⟨b, 0, none⟩ = some (.int .i64 0) := hr.cell 0
        have kf1 := frozen_of_row W b 1 _ _ hr
        have kc1 : W.cell? ⟨b, 1, none⟩ = some (.int .i64 0) := hr.cell 1
        have kf2 := frozen_of_row W b 2 _ _ hr
        have kc2 : W.cell? ⟨b, 2, none⟩ = some (.int .i64 0) := hr.cell 2
        have kf3 := frozen_of_row W b 3 _ _ hr
        have kc3 : W.cell? ⟨b, 3, none⟩ = some (.int .i64 0) := hr.cell 3
        have HRW := Lib.hid hr
        clear HW hr hva
        gi_wp2_with fail
        have fin := HK.out _ (show Row _ b 30 [.int .i64 X, .int .i64 Y, .int .i64 D, .int .i64 R] from by simpa using (show Row _ b 30 _ from ((((HRW.out.set 0 (.int .i64 X)).set 1 (.int .i64 Y)).set 2 (.int .i64 D)).set 3 (.int .i64 R)))) (grown_put (grown_put (grown_put (grown_put (grown_self W _)))))
        simp only [putAll, Act.put, List.setIfInBounds_toArray, List.set_cons_succ, List.set_cons_zero, List.set_nil] at fin
        exact fin
      · rintro vs W K hc hvl hw hK
        obtain ⟨x0, x1, x2, x3, x4, x5, x6, x7, x8, x9, x10, x11, x12, x13, x14, x15, x16, x17, x18, x19, x20, x21, rfl⟩ := len22 hvl
        have HK := Lib.hid hK
        have HC := Lib.hid hc
        have HW := Lib.hid hw
        clear hK hc hw hvl
        obtain rfl : x18 = .bool E := box_get (HW.out ⟨18, .data⟩ (by simp) rfl) rfl
        simp only [putAll, Act.put, List.setIfInBounds_toArray, List.set_cons_succ, List.set_cons_zero, List.set_nil]
        clear HW
        gi_wp2_with fail
        have fin := HK.out (.bool E) W (Below.refl _ _) rfl
        simp only [putAll, Act.put, List.setIfInBounds_toArray, List.set_cons_succ, List.set_cons_zero, List.set_nil] at fin
        exact fin
    case fin =>
      rintro vs W hJ
      obtain ⟨x0, x1, x2, x3, x4, x5, x6, x7, x8, x9, x10, x11, x12, x13, x14, x15, x16, x17, x18, x19, x20, x21, rfl⟩ := len22 hJ.ln
      obtain rfl : x0 = .slice (some ⟨g, o, none⟩) n c := box_get (hJ.val 0 rfl) rfl
      obtain rfl : x1 = .pointer (some ⟨b, 0, none⟩) := box_get (hJ.val 1 rfl) rfl
      obtain rfl : x2 = .int .i64 (t0 : Int) := box_get (hJ.val 2 rfl) rfl
      obtain rfl : x3 = .pointer (some ⟨g, o + t0 * 2, none⟩) := box_get (hJ.val 3 rfl) rfl
      obtain rfl : x4 = .agg #[.int .i64 a0, .int .i64 b0] := box_get (hJ.val 4 rfl) rfl
      obtain rfl : x5 = .slice (some ⟨g, o, none⟩) n c := box_get (hJ.val 5 rfl) rfl
      obtain rfl : x6 = .pointer (some ⟨b, 1, none⟩) := box_get (hJ.val 6 rfl) rfl
      obtain rfl : x7 = .int .i64 (t1 : Int) := box_get (hJ.val 7 rfl) rfl
      obtain rfl : x8 = .pointer (some ⟨g, o + t1 * 2, none⟩) := box_get (hJ.val 8 rfl) rfl
      obtain rfl : x9 = .agg #[.int .i64 a1, .int .i64 b1] := box_get (hJ.val 9 rfl) rfl
      obtain rfl : x10 = .slice (some ⟨g, o, none⟩) n c := box_get (hJ.val 10 rfl) rfl
      obtain rfl : x11 = .pointer (some ⟨b, 2, none⟩) := box_get (hJ.val 11 rfl) rfl
      obtain rfl : x12 = .int .i64 (t2 : Int) := box_get (hJ.val 12 rfl) rfl
      obtain rfl : x13 = .pointer (some ⟨g, o + t2 * 2, none⟩) := box_get (hJ.val 13 rfl) rfl
      obtain rfl : x14 = .agg #[.int .i64 a2, .int .i64 b2] := box_get (hJ.val 14 rfl) rfl
      obtain rfl : x15 = .tuple #[.agg #[.int .i64 X, .int .i64 Y, .int .i64 D, .int .i64 R], .bool E] := box_get (hJ.val 15 rfl) rfl
      obtain rfl : x16 = .tuple #[.agg #[.int .i64 X, .int .i64 Y, .int .i64 D, .int .i64 R], .bool E] := box_get (hJ.val 16 rfl) rfl
      obtain rfl : x17 = .agg #[.int .i64 X, .int .i64 Y, .int .i64 D, .int .i64 R] := box_get (hJ.val 17 rfl) rfl
      obtain rfl : x18 = .bool E := box_get (hJ.val 18 rfl) rfl
      obtain rfl : x21 = .bool E := box_get (hJ.val 21 rfl) rfl
      obtain ⟨b19, e19, hb19, hr19⟩ := hJ.box 19 _ _ _ rfl rfl
      obtain rfl : x19 = .pointer (some ⟨b19, 0, none⟩) := Option.some.inj e19
      replace hr19 : Row W b19 30 [.int .i64 X, .int .i64 Y, .int .i64 D, .int .i64 R] := hr19
      have HR19 := Lib.hid hr19
      clear e19 hr19
      have HC := Lib.hid hJ.bl
      clear hJ
      simp only [putAll, Act.put, List.setIfInBounds_toArray, List.set_cons_succ, List.set_cons_zero, List.set_nil]
      clear HTH
      have RB1 := Lib.hid (HF.out.1.below HC.out HF.out.1.lt)
      have LL := Lib.hid (HF.out.2.1.below HC.out)
      have RT3 := Lib.hid (HF.out.2.2.1.below HC.out HF.out.2.2.1.lt)
      have rb1 := RB1.out.cell 0
      simp only [List.getElem?_cons_zero] at rb1
      cases E with
      | false =>
        gi_wp2_with fail
        refine ⟨trivial, ?_⟩
        gi_wp2_with fail
        refine ⟨kf_below _ HC.out, KeepsI.of_below HC.out, RB1.out, lv', ?_⟩
        rw [List.filter_append, List.filter_cons, List.filter_nil, HCE.out.2 (by trivial), if_neg (by simp), List.append_nil]
        exact LL.out
      | true =>
        obtain ⟨hcb, hemp⟩ := HCE.out.1 (by trivial)
        have hcf := containsFunc_any ps (.slice (some ⟨g, o, none⟩) n c) 62 #[.pointer (some ⟨b19, 0, none⟩)] (fun p => decide (whF ⟨X, Y, D, R⟩ p < 0)) W (HSL.out.grow (Below.andThen HF.out.2.1.bw HC.out (Nat.le_refl _))) (by rw [HN.out]; omega) (enters_of Try.func62 (by kernel_rfl) rfl) (fun W' x y hbb hm => inside_any ⟨X, Y, D, R⟩ hcb x y (HPS.out _ hm).1 (HPS.out _ hm).2 b19 W' (HR19.out.below hbb HR19.out.lt))
        have HEMP := Lib.hid hemp
        have HCF := Lib.hid hcf
        clear hcb hemp hcf
        generalize ps.any (fun p => decide (whF ⟨X, Y, D, R⟩ p < 0)) = q at *
        gi_wp2_with fail
        refine ⟨trivial, (CallsIn.inRound l2 (callsIn_wide.2 HCF.out)).mono ?_⟩
        rintro e W3 ⟨rfl, hb3⟩
        have HB9 := Lib.hid (Below.andThen HC.out hb3 (Nat.le_refl _))
        have LL3 := Lib.hid (LL.out.below hb3)
        have RB3 := Lib.hid (RB1.out.below hb3 RB1.out.lt)
        have RT4 := Lib.hid (RT3.out.below hb3 RT3.out.lt)
        clear rb1 hb3 HCF
        cases q with
        | true =>
          gi_wp2_with fail
          refine ⟨kf_below _ HB9.out, KeepsI.of_below HB9.out, RB3.out, lv', ?_⟩
          rw [List.filter_append, List.filter_cons, List.filter_nil, HEMP.out, if_neg (by simp), List.append_nil]
          exact LL3.out
        | false =>
          have hlen : (pre.filter (empB ps)).length + 1 ≤ 1000000 := by
            have h2 := List.length_filter_le (empB ps) pre
            have h3 := HPRE.out.length_le
            have h4 := trL_len n hl
            rw [List.length_append, List.length_singleton] at h3
            omega
          obtain ⟨ba, rn⟩ := box_start W3 71 [.int .i64 (t0 : Int), .int .i64 (t1 : Int), .int .i64 (t2 : Int)]
          obtain ⟨a3, n3, c3, W4, hap, r2, hL2, hX⟩ := (LL3.out.below ba).add (c := (t0, t1, t2)) rn hlen
          have l0 := LL3.out.row.cell 0
          have k0 := RT4.out.cell 0
          have k1 := RT4.out.cell 1
          have k2 := RT4.out.cell 2
          have d0 := r2.cell 0
          simp only [List.getElem?_cons_zero, List.getElem?_cons_succ] at l0 k0 k1 k2 d0
          have d1 : W4.frozen? ⟨L, 0, none⟩ = false := by simp [World.frozen?, show W4.heap[L]? = _ from r2]
          have HAP := Lib.hid hap
          have hXX := KeepsY.trans (KeepsY.of_below HB9.out) (KeepsY.trans (KeepsY.of_below ba) hX)
          have HX := Lib.hid hXX
          have HLL := Lib.hid hL2
          have RB2 := Lib.hid (hXX.row rfl HF.out.1)
          clear ba rn hap r2 hL2 hX hXX hlen
          gi_wp2_with (gi_at_builtin; refine appendC_run rfl _ _ 39 rfl _ _ _ _ rfl rfl HAP.out ?_)
          refine ⟨HX.out.from_ _, HX.out.its _, RB2.out, .slice a3 n3 c3, ?_⟩
          rw [List.filter_append, List.filter_cons, List.filter_nil, HEMP.out, if_pos (by simp)]
          exact HLL.out
end Go.Proofs.Ytlemipnplgbckaa
