import Derived.Test.YtlamppplnojpbaaKc
import Derived.Laws.AppendOwn
import Derived.ChangeKeysEq
import Derived.Maps.RangeWalk
import Derived.Maps.OwnIn
import Derived.Maps.AppendAt
import Derived.RangeFuncNested
import Derived.RangeFuncBound
import Derived.RangeFuncCalls
import Derived.RangeFuncLeaves
import Derived.Shelf.Abstract
import Derived.Shelf.RegionOpen
import Derived.WalkKit
import Derived.WalkMore
import Derived.OwnWalkIn
import Derived.TacticsInMore
import Derived.LoopNIn
import Derived.LoopIn
import Derived.WalkSpells
import Derived.WalkLawsBesides
import Derived.BigQuiet
import Derived.Deep.QuietTactic
import Derived.Lib.Hide
import Derived.Deep.RegionHeld3
import Derived.StillTailTactics
import Derived.Deep.LoopGhost
import Derived.Maps.OwnSet
import Derived.Lib.IndexAny
import Derived.Sort.QuietThIn
import Derived.Sort.QuietTacIn
import Derived.Sort.BigQuietIn
namespace Go.Proofs.Ytlamppplnojpbaa
open Go.RowKit Go.Shelf
attribute [local go_sem] Oper.semAt_some
section
variable {F : Fence} {n : Nat} {P : Program} {Q : Exit → Act → World → Prop}
theorem wpOpIn_of_list {ops : Array Oper} {i : Nat} {o : Oper} {K : Act → World → Prop} {a : Act} {w : World} (ho : ops[i]? = some o) (h : wpListIn F n P ops (Exit.then K Q) [o] a w) : wpOpIn F n P ops Q i K a w := by
  unfold wpOpIn
  simp only [ho]
  unfold wpListIn at h
  split
  · rename_i hw
    rw [if_pos hw] at h
    exact uponIn_then h
  · rename_i hw
    rw [if_neg hw] at h; exact h
/-- a region whose order is open, by an invariant over what has come up -/
theorem wpIn_region_inv {id : Nat} {a : Act} {w : World} {l : List Oper} (hm : P.follows .mixedOrders = true) (hd : waitsB l = true) (I : List Bool → Act → World → Prop) (h0 : I (List.replicate l.length false) a w.drew)
    (hstep : ∀ (i : Nat) (o : Oper) (bs : List Bool) (a : Act) (w : World), l[i]? = some o → I bs a w → bs.length = l.length → bs[i]? = some false → (∀ e ∈ o.after, Region.binds .any e = true → bs.getD e.on false = true) →
      wpOpIn F n P l.toArray Q i (fun a' w' => I (bs.set i true) a' w') a w)
    (hend : ∀ a w, I (List.replicate l.length true) a w → Q .normal a w) : (Code.region id l.toArray true).wpIn F n P Q a w := by
  refine wpIn_region_any hm ?_
  have key : ∀ (fuel : Nat) (bs : List Bool) (a : Act) (w : World), bs.length = l.length → (bs.filter (! ·)).length ≤ fuel → I bs a w → wpAnyIn F n P .any l.toArray Q fuel bs.toArray a w := by
    intro fuel
    induction fuel with
    | zero =>
      intro bs a w hl hf hI
      have hall : bs = List.replicate l.length true := by
        rw [List.eq_replicate_iff]
        refine ⟨hl, fun b hb => ?_⟩
        cases b with
        | true => rfl
        | false =>
          have : false ∈ bs.filter (! ·) := List.mem_filter.2 ⟨hb, rfl⟩
          have := List.length_pos_of_mem this; omega
      subst hall
      refine ⟨?_, hend a w hI⟩
      cases hr : Region.ready .any l.toArray (List.replicate l.length true).toArray with
      | nil => rfl
      | cons j js =>
        have hj : j ∈ Region.ready .any l.toArray (List.replicate l.length true).toArray := by rw [hr]; exact List.mem_cons_self
        obtain ⟨h1, o, h2, _⟩ := mem_ready.1 hj
        have hlt : j < l.length := by have := (List.getElem?_eq_some_iff.1 (by simpa using h2 : l[j]? = some o)).1; exact this
        simp [Array.getD, hlt] at h1
    | succ fuel ih =>
      intro bs a w hl hf hI
      have hset : ∀ (i : Nat), (bs.toArray.setIfInBounds i true) = (bs.set i true).toArray := fun i => by simp
      by_cases hall : bs = List.replicate l.length true
      · subst hall
        refine ⟨fun _ => hend a w hI, fun j hj => ?_⟩
        obtain ⟨h1, o, h2, _⟩ := mem_ready.1 hj
        have hlt : j < l.length := by have := (List.getElem?_eq_some_iff.1 (by simpa using h2 : l[j]? = some o)).1; exact this
        simp [Array.getD, hlt] at h1
      · refine ⟨fun hr => ?_, fun j hj => ?_⟩
        · exfalso
          have hex : ∃ b ∈ bs, (!b) = true := by
            false_or_by_contra
            rename_i hno
            refine hall (List.eq_replicate_iff.2 ⟨hl, fun b hb => ?_⟩)
            cases b with
            | true => rfl
            | false => exact absurd ⟨false, hb, rfl⟩ hno
          have hlt : bs.findIdx (! ·) < bs.length := List.findIdx_lt_length.2 hex
          have hf0 : bs[bs.findIdx (! ·)] = false := by have := List.findIdx_getElem (w := hlt); simpa using this
          have hlt2 : bs.findIdx (! ·) < l.length := by omega
          have hmem : bs.findIdx (! ·) ∈ Region.ready .any l.toArray bs.toArray := by
            refine mem_ready.2 ⟨by simp [Array.getD, hlt, hf0], l[bs.findIdx (! ·)], by simp [hlt2], fun e he _ => ?_⟩
            unfold waitsB at hd
            rw [List.all_eq_true] at hd
            have h1 := hd _ (List.mem_range.2 hlt2)
            rw [List.getElem?_eq_getElem hlt2] at h1
            simp only [Option.map_some, Option.getD_some] at h1
            have h2 := (Array.all_eq_true'.1 h1) e he
            have h3 := of_decide_eq_true h2
            have h4 : e.on < bs.length := by omega
            have h5 := List.not_of_lt_findIdx h3
            simp [Array.getD, h4]
            simpa using h5
          rw [hr] at hmem; cases hmem
        · obtain ⟨h1, o, h2, h3⟩ := mem_ready.1 hj
          have h2' : l[j]? = some o := by simpa using h2
          have hlt : j < l.length := (List.getElem?_eq_some_iff.1 h2').1
          have hb : bs[j]? = some false := by
            rw [List.getElem?_eq_getElem (by omega)]
            simp [Array.getD, show j < bs.length by omega] at h1
            rw [h1]
          refine wpOpIn_mono (fun a' w' h => ?_) (hstep j o bs a w h2' hI hl hb (fun e he hb => by have := h3 e he hb; rw [List.getD_eq_getElem?_getD]; simp only [Array.getD, List.size_toArray] at this; split at this <;> simp_all))
          rw [hset]
          have := filter_set bs j hb
          exact ih _ _ _ (by simpa using hl) (by omega) h
  have := key l.length (List.replicate l.length false) a w.drew (by simp) (by simp) h0
  simpa using this
/-- the same, with the slots that the region writes told apart -/
theorem wpIn_region_slots {id : Nat} {a : Act} {w : World} {l : List Oper} (hm : P.follows .mixedOrders = true) (hd : waitsB l = true) (slots : List Nat) (J : List Bool → List Value → World → Prop)
    (h0 : ∃ vs, a = putAll a slots vs ∧ J (List.replicate l.length false) vs w.drew)
    (hstep : ∀ (i : Nat) (o : Oper) (bs : List Bool) (vs : List Value) (w : World) (K : Act → World → Prop), l[i]? = some o → J bs vs w → bs.length = l.length → bs[i]? = some false → (∀ e ∈ o.after, Region.binds .any e = true → bs.getD e.on false = true) →
      (∀ vs' w', J (bs.set i true) vs' w' → K (putAll a slots vs') w') → wpOpIn F n P l.toArray Q i K (putAll a slots vs) w)
    (hend : ∀ vs w, J (List.replicate l.length true) vs w → Q .normal (putAll a slots vs) w) : (Code.region id l.toArray true).wpIn F n P Q a w := by
  refine wpIn_region_inv hm hd (fun bs a' w' => ∃ vs, a' = putAll a slots vs ∧ J bs vs w') h0 ?_ ?_
  · rintro i o bs a' w' ho ⟨vs, rfl, hJ⟩ hl hb hw
    exact hstep i o bs vs w' _ ho hJ hl hb hw (fun vs' w'' h => ⟨vs', rfl, h⟩)
  · rintro a' w' ⟨vs, rfl, hJ⟩
    exact hend vs w' hJ
end
section
variable {F : Fence} {n : Nat} {P : Program} {Q : Exit → Act → World → Prop}
/-- a region whose order is open and whose operations each put one value, whatever has come up besides what they wait for -/
theorem wpIn_region_det {id : Nat} {a : Act} {w : World} {l : List Oper} (hm : P.follows .mixedOrders = true) (hd : waitsB l = true) (slots : List Nat) (val : List Value) (C : World → Prop) (hvl : val.length = l.length)
    (h0 : ∃ vs, a = putAll a slots vs ∧ vs.length = l.length) (hC : C w.drew)
    (hstep : ∀ (i : Nat) (o : Oper) (vs : List Value) (w : World) (K : Act → World → Prop), l[i]? = some o → C w → vs.length = l.length → (∀ e ∈ o.after, Region.binds .any e = true → vs[e.on]? = val[e.on]?) →
      (∀ w', C w' → K (putAll a slots (vs.set i (val.getD i undef))) w') → wpOpIn F n P l.toArray Q i K (putAll a slots vs) w)
    (hend : ∀ w, C w → Q .normal (putAll a slots val) w) : (Code.region id l.toArray true).wpIn F n P Q a w := by
  obtain ⟨vs0, e0, el0⟩ := h0
  refine wpIn_region_slots hm hd slots (fun (bs : List Bool) (vs : List Value) w => C w ∧ vs.length = l.length ∧ ∀ i : Nat, bs[i]? = some true → vs[i]? = val[i]?) ⟨vs0, e0, hC, el0, fun i hi => ?_⟩ ?_ ?_
  · rw [List.getElem?_replicate] at hi
    split at hi <;> simp at hi
  · rintro i o bs vs w K ho ⟨hc, hl, hv⟩ hbl hb hw hK
    refine hstep i o vs w K ho hc hl (fun e he hbe => ?_) (fun w' hc' => hK _ _ ⟨hc', by rw [List.length_set]; exact hl, fun j hj => ?_⟩)
    · have h := hw e he hbe
      rw [List.getD_eq_getElem?_getD] at h
      refine hv _ ?_
      cases h2 : bs[e.on]? with
      | none => rw [h2] at h; simp at h
      | some b => rw [h2] at h; simp at h; rw [h]
    · by_cases hij : i = j
      · subst hij
        have hlt : i < l.length := (List.getElem?_eq_some_iff.1 ho).1
        rw [List.getElem?_set_self (by omega), List.getD_eq_getElem?_getD, List.getElem?_eq_getElem (by omega)]; rfl
      · rw [List.getElem?_set_ne hij] at hj ⊢
        exact hv j hj
  · rintro vs w ⟨hc, hl, hv⟩
    have : vs = val := by
      refine List.ext_getElem? fun i => ?_
      by_cases hi : i < l.length
      · exact hv i (by rw [List.getElem?_replicate, if_pos hi])
      · rw [List.getElem?_eq_none (by omega), List.getElem?_eq_none (by omega)]
    subst this
    exact hend w hc
end
section
variable {F : Fence} {n : Nat} {P : Program} {Q : Exit → Act → World → Prop}
/-- each operation of a region puts its value, whatever has come up besides what it waits for -/
def detSteps (F : Fence) (n : Nat) (P : Program) (Q : Exit → Act → World → Prop) (ops : Array Oper) (a : Act) (slots : List Nat) (val : List Value) (C : World → Prop) (len : Nat) : List Oper → Nat → Prop
  | [], _ => True
  | o :: rest, i => (∀ (vs : List Value) (w : World) (K : Act → World → Prop), C w → vs.length = len → (∀ e ∈ o.after, Region.binds .any e = true → vs[e.on]? = val[e.on]?) →
      (∀ w', C w' → K (putAll a slots (vs.set i (val.getD i undef))) w') → wpListIn F n P ops (Exit.then K Q) [o] (putAll a slots vs) w) ∧ detSteps F n P Q ops a slots val C len rest (i + 1)
theorem detSteps_get {ops : Array Oper} {a : Act} {slots : List Nat} {val : List Value} {C : World → Prop} {len : Nat} : ∀ {l : List Oper} {k i : Nat} {o : Oper}, detSteps F n P Q ops a slots val C len l k → l[i]? = some o →
    ∀ (vs : List Value) (w : World) (K : Act → World → Prop), C w → vs.length = len → (∀ e ∈ o.after, Region.binds .any e = true → vs[e.on]? = val[e.on]?) →
      (∀ w', C w' → K (putAll a slots (vs.set (k + i) (val.getD (k + i) undef))) w') → wpListIn F n P ops (Exit.then K Q) [o] (putAll a slots vs) w
  | [], _, _, _, _, h => by simp at h
  | o :: rest, k, 0, o', hd, h => by
    simp at h; subst h
    exact hd.1
  | o :: rest, k, i + 1, o', hd, h => by
    have := detSteps_get (l := rest) (k := k + 1) (i := i) hd.2 (by simpa using h)
    rw [show k + 1 + i = k + (i + 1) by omega] at this
    exact this
theorem wpIn_region_det2 {id : Nat} {a : Act} {w : World} {l : List Oper} (hm : P.follows .mixedOrders = true) (hd : waitsB l = true) (slots : List Nat) (val : List Value) (C : World → Prop) (hvl : val.length = l.length)
    (h0 : ∃ vs, a = putAll a slots vs ∧ vs.length = l.length) (hC : C w.drew) (len : Nat) (hlen : l.length = len)
    (hsteps : detSteps F n P Q l.toArray a slots val C len l 0)
    (hend : ∀ w, C w → Q .normal (putAll a slots val) w) : (Code.region id l.toArray true).wpIn F n P Q a w := by
  refine wpIn_region_det hm hd slots val C hvl h0 hC ?_ hend
  intro i o vs w K ho hc hl hw hK
  refine wpOpIn_of_list (by simpa using ho) ?_
  have := detSteps_get hsteps ho vs w K hc (by omega) hw (by simpa using hK)
  exact this
end
theorem len6 {vs : List Value} (h : vs.length = 6) : ∃ x0 x1 x2 x3 x4 x5, vs = [x0, x1, x2, x3, x4, x5] := by
  obtain ⟨x0, r0, rfl, h0⟩ := len_cons h
  obtain ⟨x1, r1, rfl, h1⟩ := len_cons h0
  obtain ⟨x2, r2, rfl, h2⟩ := len_cons h1
  obtain ⟨x3, r3, rfl, h3⟩ := len_cons h2
  obtain ⟨x4, r4, rfl, h4⟩ := len_cons h3
  obtain ⟨x5, r5, rfl, h5⟩ := len_cons h4
  obtain rfl := List.eq_nil_of_length_eq_zero h5
  exact ⟨_, _, _, _, _, _, rfl⟩
/-- the steps that change a filling -/
def stepsF (P F : List Int) (ss : List (Int × Int)) : List (Int × Int) := ss.filter fun x => !decide (afterF P F x.1 x.2 = F)
theorem stepsF_snoc (P F : List Int) (pre : List (Int × Int)) (x : Int × Int) : stepsF P F (pre ++ [x]) = if afterF P F x.1 x.2 = F then stepsF P F pre else stepsF P F pre ++ [x] := by
  unfold stepsF
  rw [List.filter_append]
  by_cases h : afterF P F x.1 x.2 = F
  · rw [if_pos h]; simp [h]
  · rw [if_neg h]; simp [h]
theorem asq_keep {w W W2 : World} {pre : List (Int × Int)} {v v' : Value} {x : Int × Int} (h : Asq w pre v W) (hg : (W.alloc (.cells #[.int .i64 x.1, .int .i64 x.2] 48)).grownBy W2 v.ownBlock) :
    ∀ g, g < W.heap.size → g ≠ w.heap.size → (∀ cs, W.heap[g]? ≠ some (.cells cs 48 (0, 0))) → (W2.setCell ⟨w.heap.size, 0, none⟩ v').heap[g]? = W.heap[g]? := fun g hlt h1 h2 => by
  have ba := (Below.refl W.heap.size W).alloc (Nat.le_refl _) (.cells #[.int .i64 x.1, .int .i64 x.2] 48)
  have G := one_set W2 w.heap.size 0 v'
  have hsz : W.heap.size + 1 ≤ W2.heap.size := by have := hg.size; rw [size_al] at this; exact this
  rw [G.block g (by omega) (fun e => by have := Option.some.inj e; omega), hg.block g (by rw [size_al]; omega) (fun e => by
    rcases h.own.2 with ⟨rfl, _⟩ | ⟨g', cap, cur, rfl, hb', hh, _⟩
    · cases e
    · cases e; exact h2 _ hh), ba.block g hlt]
theorem asq_row {w W W2 : World} {pre : List (Int × Int)} {v v' : Value} {x : Int × Int} (h : Asq w pre v W) (hg : (W.alloc (.cells #[.int .i64 x.1, .int .i64 x.2] 48)).grownBy W2 v.ownBlock) {g : Nat} {E : TypeId} {vs : List Value} (hr : Row W g E vs) (hE : E ≠ 48) (h27 : E ≠ 27) :
    Row (W2.setCell ⟨w.heap.size, 0, none⟩ v') g E vs := by
  refine (asq_keep h hg g hr.lt (fun e => ?_) (fun cs hc => ?_)).trans hr
  · subst e
    have h2 : W.heap[w.heap.size]? = some (.cells [v].toArray 27 (0, 0)) := h.row
    rw [show W.heap[w.heap.size]? = _ from hr] at h2; cases h2; exact h27 rfl
  · rw [show W.heap[g]? = _ from hr] at hc; cases hc; exact hE rfl
set_option maxRecDepth 100000 in
set_option maxHeartbeats 400000 in
theorem Steps_err (zs fs : List Int) (v u1 : Value) (cl : Bool) (w : World) (hv : SlI w v zs) (hl : zs.length ≤ 1000000) (h1 : SlI w u1 fs) (k : Int) (he : errA zs [fs] = k) (hk : k ≠ 0) :
    Calls Try.prog 25 #[v, u1, .bool cl] w fun e w' => e = .returned (.tuple #[.slice none 0 0, .int .i64 k]) ∧ Below w.heap.size w w' := by
  have HC := Lib.hid (check1 hv hl h1)
  rw [he] at HC
  have hd : (k != 0) = true := by simp; exact hk
  obtain ⟨a1, c1, e1⟩ : ∃ a1 c1, u1 = .slice a1 fs.length c1 := by obtain ⟨a, c, h, _⟩ := h1; exact ⟨a, c, h⟩
  clear hv hl he h1
  generalize fs.length = k1 at *
  subst e1
  refine callsIn_wide.1 (callsIn_of_wp_marks (F := Fence.wide) (n := 4) Try.func25 rfl trivial ?_ rfl)
  simp only [Try.ntmps25, List.size_toArray, List.length_cons, List.length_nil, Nat.reduceAdd, Nat.reduceSub, Array.replicate_succ, Array.replicate_zero, List.push_toArray, List.append_toArray, List.nil_append, List.cons_append]
  gi_wp2_with fail
  refine ⟨trivial, (callsIn_wide.2 HC.out).mono ?_⟩
  rintro e w1 ⟨rfl, hb⟩
  have HB := Lib.hid hb
  clear hb HC
  gi_wp2_with fail
  refine leaves_marks (B := w1.heap.size) (fun X => Below w.heap.size w X) (lasts_below _ _ _ HB.out.size (Nat.le_refl _)) ?_ [] _ (marks_nil _ _) HB.out
  intro X hX
  refine ⟨.tuple #[.slice none 0 0, .int .i64 k], ?_, rfl, hX⟩
  simp [results, Try.results25, go_sem]
set_option maxRecDepth 100000 in
set_option maxHeartbeats 2000000 in
theorem Steps_ok (zs fs : List Int) (v u1 : Value) (cl : Bool) (w : World) (hv : SlI w v zs) (hl : zs.length ≤ 1000000) (h1 : SlI w u1 fs) (he : errA zs [fs] = 0) :
    Calls Try.prog 25 #[v, u1, .bool cl] w fun e w' => ∃ s, e = .returned (.tuple #[s, .int .i64 0]) ∧ OwnP w' w.heap.size s (stepsF (padF zs) (padF fs) (ssF cl zs.length)) ∧ Below w.heap.size w w' := by
  obtain ⟨hj, hfits⟩ := errA_ok he
  obtain ⟨hfit, hd1, hfl⟩ := fits_pad hj (hfits fs (by simp))
  have HC := Lib.hid (check1 hv hl h1)
  rw [he] at HC
  obtain ⟨hz1, hz4, p0, p1, p2, p3, hp, hjv, b0, b1, b2, b3⟩ := jugs_open hj
  obtain ⟨f0, f1, f2, f3, hf⟩ := agg4 (padF fs) (padF_len fs)
  rw [hp, hf] at hfit ⊢
  obtain ⟨n, hn0⟩ : ∃ n, zs.length = n := ⟨_, rfl⟩
  rw [hn0] at hjv ⊢
  have hn : n ≤ 4 := by omega
  unfold ssF
  have hst := stepsV_any (n : Int) p0 p1 p2 p3 cl
  rw [show (if cl = true then (0 : Int) else -1) = lsF cl from rfl] at hst
  have HST := Lib.hid hst
  have HLS := Lib.hid (lsF_ok cl)
  have HM := Lib.hid (mF_ok cl n)
  generalize lsF cl = ls at *
  generalize mF cl n = m at *
  have HFIT := Lib.hid hfit
  have HJ0 := Lib.hid (fun (W : World) (hb : Below w.heap.size w W) => jugsOf_any zs v W (hv.grow hb) hz4)
  have HF0 := Lib.hid (fun (W : World) (hb : Below w.heap.size w W) => fillingOf_any fs u1 W (h1.grow hb) hfl)
  rw [hjv] at HJ0
  rw [hf] at HF0
  simp only [aggI, List.map_cons, List.map_nil, encI] at HF0
  obtain ⟨a1, c1, e1⟩ : ∃ a1 c1, u1 = .slice a1 fs.length c1 := by obtain ⟨a, c, h, _⟩ := h1; exact ⟨a, c, h⟩
  obtain ⟨i0, hi, hz0, hz1', hz2⟩ := info_parts info48
  clear hp hj hjv b0 b1 b2 b3 h1 hz1 hz4 hn0 hst hfit hv hfits hfl hf he hl hd1
  generalize fs.length = k1 at *
  subst e1
  refine callsIn_wide.1 (callsIn_of_wp_marks (F := Fence.wide) (n := 4) Try.func25 rfl trivial ?_ rfl)
  simp only [Try.ntmps25, List.size_toArray, List.length_cons, List.length_nil, Nat.reduceAdd, Nat.reduceSub, Array.replicate_succ, Array.replicate_zero, List.push_toArray, List.append_toArray, List.nil_append, List.cons_append]
  gi_wp2_with fail
  refine ⟨trivial, (callsIn_wide.2 HC.out).mono ?_⟩
  rintro e w1 ⟨rfl, hb⟩
  have HB1 := Lib.hid hb
  clear hb HC
  gi_wp2_with fail
  refine ⟨trivial, (callsIn_wide.2 (HJ0.out w1 HB1.out)).mono ?_⟩
  rintro e w2 ⟨rfl, hb⟩
  have HB2 := Lib.hid (Below.andThen HB1.out hb (Nat.le_refl _))
  clear hb HJ0
  gi_wp2_with fail
  refine ⟨trivial, (callsIn_wide.2 (HF0.out w2 HB2.out)).mono ?_⟩
  rintro e w3 ⟨rfl, hb⟩
  have hB3 := Below.andThen HB2.out hb (Nat.le_refl _)
  clear hb HF0
  have bj := (Below.refl w3.heap.size w3).alloc (Nat.le_refl _) (.cells #[.int .i64 (n : Int), .int .i64 p0, .int .i64 p1, .int .i64 p2, .int .i64 p3] 80)
  have zj := size_al w3 (.cells #[.int .i64 (n : Int), .int .i64 p0, .int .i64 p1, .int .i64 p2, .int .i64 p3] 80)
  have rj := Row.new w3 80 [.int .i64 (n : Int), .int .i64 p0, .int .i64 p1, .int .i64 p2, .int .i64 p3]
  obtain ⟨w4, hw4⟩ : ∃ w4, w3.alloc (.cells #[.int .i64 (n : Int), .int .i64 p0, .int .i64 p1, .int .i64 p2, .int .i64 p3] 80) = w4 := ⟨_, rfl⟩
  have bf := (Below.refl w4.heap.size w4).alloc (Nat.le_refl _) (.cells #[.int .i64 f0, .int .i64 f1, .int .i64 f2, .int .i64 f3] 77)
  have zf := size_al w4 (.cells #[.int .i64 f0, .int .i64 f1, .int .i64 f2, .int .i64 f3] 77)
  have rf := Row.new w4 77 [.int .i64 f0, .int .i64 f1, .int .i64 f2, .int .i64 f3]
  obtain ⟨w5, hw5⟩ : ∃ w5, w4.alloc (.cells #[.int .i64 f0, .int .i64 f1, .int .i64 f2, .int .i64 f3] 77) = w5 := ⟨_, rfl⟩
  have blst := (Below.refl w5.heap.size w5).alloc (Nat.le_refl _) (.cells #[.slice none 0 0] 27)
  have rlst := Row.new w5 27 [.slice none 0 0]
  obtain ⟨w6, hw6⟩ : ∃ w6, w5.alloc (.cells #[.slice none 0 0] 27) = w6 := ⟨_, rfl⟩
  rw [hw4] at bj zj rj
  rw [hw5] at bf zf rf
  rw [hw6] at blst rlst
  have hB6 := Below.andThen (Below.andThen (Below.andThen hB3 bj (Nat.le_refl _)) bf (Nat.le_refl _)) blst (Nat.le_refl _)
  have hB5 := Below.andThen (Below.andThen hB3 bj (Nat.le_refl _)) bf (Nat.le_refl _)
  have rj6 := (rj.below bf rj.lt).below blst (rj.below bf rj.lt).lt
  have rf6 := rf.below blst rf.lt
  have HB6 := Lib.hid hB6
  have HB5 := Lib.hid hB5
  have RJ6 := Lib.hid rj6
  have RF6 := Lib.hid rf6
  have AS6 := Lib.hid (show Asq w5 [] (.slice none 0 0) w6 from ⟨rlst, World.ownsRow_nil _ _ _ _, blst⟩)
  have HW := Lib.hid (And.intro hw4 (And.intro hw5 hw6))
  have HZ := Lib.hid (And.intro zj zf)
  have cj : ∀ i vv, ([.int .i64 (n : Int), .int .i64 p0, .int .i64 p1, .int .i64 p2, .int .i64 p3] : List Value)[i]? = some vv → w6.cell? ⟨w3.heap.size, i, none⟩ = some vv := fun i vv h => by rw [rj6.cell i]; exact h
  have j0 := cj 0 _ rfl
  have j1 := cj 1 _ rfl
  have j2 := cj 2 _ rfl
  have j3 := cj 3 _ rfl
  have j4 := cj 4 _ rfl
  rw [← hw6, ← hw5, ← hw4] at j0 j1 j2 j3 j4
  clear cj hB3 bj zj rj bf zf rf blst rlst hB6 hB5 rj6 rf6 hw4 hw5 hw6
  gi_wp2_with fail
  rw [HW.out.1, HW.out.2.1, HW.out.2.2]
  refine ⟨trivial, (callsIn_wide.2 (HST.out w6)).mono ?_⟩
  rintro e w7 ⟨x, rfl, ⟨bl, bj, rfl, hrl, hrj⟩, hb⟩
  clear j0 j1 j2 j3 j4
  have HRL := Lib.hid hrl
  have HRJ := Lib.hid hrj
  have RJ7 := Lib.hid (RJ6.out.below hb RJ6.out.lt)
  have RF7 := Lib.hid (RF6.out.below hb RF6.out.lt)
  have AS7 := Lib.hid (lasts_asq w6.heap.size w5 _ _ AS6.out.bw.size w6 w7 none AS6.out ⟨hb.os, hb.tape, hb.output, hb.size, fun k hk _ => hb.block k hk⟩ (fun r e => by cases e))
  have HB7 := Lib.hid (Below.andThen HB6.out hb (Nat.le_refl _))
  have HS5 := Lib.hid (show w4.heap.size = w3.heap.size + 1 ∧ w5.heap.size = w4.heap.size + 1 from HZ.out)
  clear hrl hrj hb RJ6 RF6 AS6 HB6
  gi_wp2_with fail
  rw [← HS5.out.1, ← HS5.out.2]
  refine range_steps2 (nf := 4) bl bj n (by omega) hn p0 p1 p2 p3 ls m HLS.out HM.out rfl HRL.out.lt HRJ.out.lt HRL.out HRJ.out
    (fun pre W' => ∃ v', Asq w5 (stepsF [p0, p1, p2, p3] [f0, f1, f2, f3] pre) v' W' ∧ Row W' w3.heap.size 80 [.int .i64 (n : Int), .int .i64 p0, .int .i64 p1, .int .i64 p2, .int .i64 p3] ∧ Row W' w4.heap.size 77 [.int .i64 f0, .int .i64 f1, .int .i64 f2, .int .i64 f3] ∧ Row W' bl 3 [.int .i64 ls] ∧ Row W' bj 80 [.int .i64 (n : Int), .int .i64 p0, .int .i64 p1, .int .i64 p2, .int .i64 p3])
    (fun _ _ _ => False) ?hI ?hIx ?h0 (fun x a' W' => ∃ q, a' = { tmps := #[v, .slice a1 k1 c1, .bool cl, undef, undef, undef, .slice none 0 0, .int .i64 0, .int .i64 0, .pointer (some ⟨w3.heap.size, 0, none⟩), .pointer (some ⟨w4.heap.size, 0, none⟩), .pointer (some ⟨w5.heap.size, 0, none⟩), .pointer (some ⟨q, 0, none⟩), v, .slice a1 k1 c1, .slice (some ⟨w.heap.size, 0, none⟩) 1 1, .int .i64 0, .int .i64 0, .bool false, undef, v, .agg #[.int .i64 (n : Int), .int .i64 p0, .int .i64 p1, .int .i64 p2, .int .i64 p3], .slice a1 k1 c1, .agg #[.int .i64 f0, .int .i64 f1, .int .i64 f2, .int .i64 f3], .agg #[.int .i64 (n : Int), .int .i64 p0, .int .i64 p1, .int .i64 p2, .int .i64 p3], .bool cl, .func (.func 70) #[] #[.pointer (some ⟨bl, 0, none⟩), .pointer (some ⟨bj, 0, none⟩)], .agg #[.int .i64 x.1, .int .i64 x.2], undef, undef, undef, undef, undef, undef, undef, undef, undef, undef, undef], defers := [] } ∧ Row W' q 48 [.int .i64 x.1, .int .i64 x.2]) ?hR ?assign ?body ?done ?stop
  case hI => exact fun pre W1 W2 row ⟨v', h1, h2, h3, h4, h5⟩ hg hr => ⟨v', lasts_asq w7.heap.size w5 _ _ (by have := AS7.out.bw.size; have := AS7.out.row.lt; omega) W1 W2 row h1 hg hr, lasts_row _ _ _ _ W1 W2 row h2 hg hr, lasts_row _ _ _ _ W1 W2 row h3 hg hr, lasts_row _ _ _ _ W1 W2 row h4 hg hr, lasts_row _ _ _ _ W1 W2 row h5 hg hr⟩
  case hIx => exact fun c pre => lasts_pure _ _
  case h0 => exact ⟨_, AS7.out, RJ7.out, RF7.out, HRL.out, HRJ.out⟩
  case hR => exact fun x a' W1 W2 row ⟨q, h1, h2⟩ hg hr => ⟨q, h1, lasts_row _ _ _ _ W1 W2 row h2 hg hr⟩
  case assign =>
    intro l x W1 K hs hK
    have hk := hK _ _ ⟨_, rfl, Row.new W1 48 [.int .i64 x.1, .int .i64 x.2]⟩ ((Below.refl W1.heap.size W1).alloc (Nat.le_refl _) _)
    have HKk := Lib.hid hk
    clear hk hK
    dsimp only [encS]
    simp only [List.setIfInBounds_toArray, List.set_cons_succ, List.set_cons_zero]
    gi_wp2
    exact HKk.out
  case body =>
    rintro l x pre a' W1 hx hpl hs1 ⟨v', hA, hJ, hF, hL, hB⟩ ⟨q, rfl, h48⟩
    have hxb := mem_step hx
    have fa := HFIT.out.after (f := x.1) (t := x.2) (by have := HM.out; have := HLS.out; omega) (by have := HM.out; have := HLS.out; omega) hxb.2.2.2.2
    have hca : ∀ W, Calls Try.prog 54 #[.agg #[.int .i64 (n : Int), .int .i64 p0, .int .i64 p1, .int .i64 p2, .int .i64 p3], .agg #[.int .i64 f0, .int .i64 f1, .int .i64 f2, .int .i64 f3], .agg #[.int .i64 x.1, .int .i64 x.2]] W fun e w' => e = .returned (aggI (afterF [p0, p1, p2, p3] [f0, f1, f2, f3] x.1 x.2)) ∧ Below W.heap.size W w' := fun W => after_any n [p0, p1, p2, p3] [f0, f1, f2, f3] rfl rfl HFIT.out.2 x.1 x.2 (by have := HM.out; have := HLS.out; omega) (by have := HM.out; have := HLS.out; omega) hxb.2.2.2.2 W
    obtain ⟨y0, y1, y2, y3, hy⟩ := agg4 _ fa.1
    have hsn := stepsF_snoc [p0, p1, p2, p3] [f0, f1, f2, f3] pre x
    rw [hy] at hca hsn
    simp only [aggI, List.map_cons, List.map_nil, encI] at hca
    have HAF := Lib.hid hca
    have heq := fun W => eq77 y0 y1 y2 y3 f0 f1 f2 f3 W
    have hpx : (if [y0, y1, y2, y3] = [f0, f1, f2, f3] then stepsF [p0, p1, p2, p3] [f0, f1, f2, f3] pre else stepsF [p0, p1, p2, p3] [f0, f1, f2, f3] pre ++ [x]) = (if decide ([y0, y1, y2, y3] = [f0, f1, f2, f3]) = true then stepsF [p0, p1, p2, p3] [f0, f1, f2, f3] pre else stepsF [p0, p1, p2, p3] [f0, f1, f2, f3] pre ++ [x]) := by simp
    rw [hpx] at hsn
    generalize decide ([y0, y1, y2, y3] = [f0, f1, f2, f3]) = eqb at *
    have HEQ := Lib.hid heq
    have HSNC := Lib.hid hsn
    have RJW := Lib.hid hJ
    have RFW := Lib.hid hF
    have RLW := Lib.hid hL
    have RBW := Lib.hid hB
    have R48 := Lib.hid h48
    have ASW := Lib.hid hA
    have HPL := Lib.hid (show pre.length < 25 by have h2 : m * m ≤ 5 * 5 := Nat.mul_le_mul (by have := HM.out; have := HLS.out; omega) (by have := HM.out; have := HLS.out; omega); omega)
    clear hxb fa hca hy heq hpx hsn hJ hF hL hB h48 hA hx hpl
    gi_wp2_with fail
    refine wpIn_region_det2 (by kernel_rfl) (by kernel_rfl) [28, 29, 30, 31, 32, 33] [.agg #[.int .i64 (n : Int), .int .i64 p0, .int .i64 p1, .int .i64 p2, .int .i64 p3], .agg #[.int .i64 f0, .int .i64 f1, .int .i64 f2, .int .i64 f3], .agg #[.int .i64 x.1, .int .i64 x.2], .agg #[.int .i64 y0, .int .i64 y1, .int .i64 y2, .int .i64 y3], .agg #[.int .i64 f0, .int .i64 f1, .int .i64 f2, .int .i64 f3], .bool (!eqb)] (fun W => Below W1.heap.size W1 W) rfl ⟨[undef, undef, undef, undef, undef, undef], by simp only [putAll, Act.put, List.setIfInBounds_toArray, List.set_cons_succ, List.set_cons_zero], rfl⟩ (Below.refl _ _).drew 6 rfl ?steps ?fin
    case steps =>
      simp only [detSteps]
      refine ⟨?_, ?_, ?_, ?_, ?_, ?_, trivial⟩
      · rintro vs W K hc hvl hw hK
        obtain ⟨x0, x1, x2, x3, x4, x5, rfl⟩ := len6 hvl
        have HK := Lib.hid hK
        have HC' := Lib.hid hc
        have HW := Lib.hid hw
        clear hK hc hw hvl
        simp only [putAll, Act.put, List.setIfInBounds_toArray, List.set_cons_succ, List.set_cons_zero]
        have rr := RJW.out.below HC'.out RJW.out.lt
        have j0 : W.cell? ⟨w3.heap.size, 0, none⟩ = some (.int .i64 (n : Int)) := rr.cell 0
        have j1 : W.cell? ⟨w3.heap.size, 1, none⟩ = some (.int .i64 p0) := rr.cell 1
        have j2 : W.cell? ⟨w3.heap.size, 2, none⟩ = some (.int .i64 p1) := rr.cell 2
        have j3 : W.cell? ⟨w3.heap.size, 3, none⟩ = some (.int .i64 p2) := rr.cell 3
        have j4 : W.cell? ⟨w3.heap.size, 4, none⟩ = some (.int .i64 p3) := rr.cell 4
        clear HW
        clear rr
        gi_wp2_with fail
        have fin := HK.out W HC'.out
        simp only [putAll, Act.put, List.setIfInBounds_toArray, List.set_cons_succ, List.set_cons_zero, List.getD_cons_succ, List.getD_cons_zero] at fin
        exact fin
      · rintro vs W K hc hvl hw hK
        obtain ⟨x0, x1, x2, x3, x4, x5, rfl⟩ := len6 hvl
        have HK := Lib.hid hK
        have HC' := Lib.hid hc
        have HW := Lib.hid hw
        clear hK hc hw hvl
        simp only [putAll, Act.put, List.setIfInBounds_toArray, List.set_cons_succ, List.set_cons_zero]
        have rr := RFW.out.below HC'.out RFW.out.lt
        have j0 : W.cell? ⟨w4.heap.size, 0, none⟩ = some (.int .i64 f0) := rr.cell 0
        have j1 : W.cell? ⟨w4.heap.size, 1, none⟩ = some (.int .i64 f1) := rr.cell 1
        have j2 : W.cell? ⟨w4.heap.size, 2, none⟩ = some (.int .i64 f2) := rr.cell 2
        have j3 : W.cell? ⟨w4.heap.size, 3, none⟩ = some (.int .i64 f3) := rr.cell 3
        clear HW
        clear rr
        gi_wp2_with fail
        have fin := HK.out W HC'.out
        simp only [putAll, Act.put, List.setIfInBounds_toArray, List.set_cons_succ, List.set_cons_zero, List.getD_cons_succ, List.getD_cons_zero] at fin
        exact fin
      · rintro vs W K hc hvl hw hK
        obtain ⟨x0, x1, x2, x3, x4, x5, rfl⟩ := len6 hvl
        have HK := Lib.hid hK
        have HC' := Lib.hid hc
        have HW := Lib.hid hw
        clear hK hc hw hvl
        simp only [putAll, Act.put, List.setIfInBounds_toArray, List.set_cons_succ, List.set_cons_zero]
        have rr := R48.out.below HC'.out R48.out.lt
        have j0 : W.cell? ⟨q, 0, none⟩ = some (.int .i64 x.1) := rr.cell 0
        have j1 : W.cell? ⟨q, 1, none⟩ = some (.int .i64 x.2) := rr.cell 1
        clear HW
        clear rr
        gi_wp2_with fail
        have fin := HK.out W HC'.out
        simp only [putAll, Act.put, List.setIfInBounds_toArray, List.set_cons_succ, List.set_cons_zero, List.getD_cons_succ, List.getD_cons_zero] at fin
        exact fin
      · rintro vs W K hc hvl hw hK
        obtain ⟨x0, x1, x2, x3, x4, x5, rfl⟩ := len6 hvl
        have HK := Lib.hid hK
        have HC' := Lib.hid hc
        have HW := Lib.hid hw
        clear hK hc hw hvl
        obtain rfl : x0 = .agg #[.int .i64 (n : Int), .int .i64 p0, .int .i64 p1, .int .i64 p2, .int .i64 p3] := st_get (HW.out ⟨0, .data⟩ (by simp) rfl) rfl rfl
        obtain rfl : x1 = .agg #[.int .i64 f0, .int .i64 f1, .int .i64 f2, .int .i64 f3] := st_get (HW.out ⟨1, .data⟩ (by simp) rfl) rfl rfl
        obtain rfl : x2 = .agg #[.int .i64 x.1, .int .i64 x.2] := st_get (HW.out ⟨2, .data⟩ (by simp) rfl) rfl rfl
        simp only [putAll, Act.put, List.setIfInBounds_toArray, List.set_cons_succ, List.set_cons_zero]
        clear HW
        gi_wp2_with fail
        refine ⟨trivial, ?_⟩
        refine (CallsIn.inRound l (callsIn_wide.2 (HAF.out W))).mono ?_
        rintro e W' ⟨rfl, hb'⟩
        have HB' := Lib.hid hb'
        clear hb'
        gi_wp2_with fail
        have fin := HK.out W' (Below.andThen HC'.out HB'.out (Nat.le_refl _))
        simp only [putAll, Act.put, List.setIfInBounds_toArray, List.set_cons_succ, List.set_cons_zero, List.getD_cons_succ, List.getD_cons_zero] at fin
        exact fin
      · rintro vs W K hc hvl hw hK
        obtain ⟨x0, x1, x2, x3, x4, x5, rfl⟩ := len6 hvl
        have HK := Lib.hid hK
        have HC' := Lib.hid hc
        have HW := Lib.hid hw
        clear hK hc hw hvl
        simp only [putAll, Act.put, List.setIfInBounds_toArray, List.set_cons_succ, List.set_cons_zero]
        have rr := RFW.out.below HC'.out RFW.out.lt
        have j0 : W.cell? ⟨w4.heap.size, 0, none⟩ = some (.int .i64 f0) := rr.cell 0
        have j1 : W.cell? ⟨w4.heap.size, 1, none⟩ = some (.int .i64 f1) := rr.cell 1
        have j2 : W.cell? ⟨w4.heap.size, 2, none⟩ = some (.int .i64 f2) := rr.cell 2
        have j3 : W.cell? ⟨w4.heap.size, 3, none⟩ = some (.int .i64 f3) := rr.cell 3
        clear HW
        clear rr
        gi_wp2_with fail
        have fin := HK.out W HC'.out
        simp only [putAll, Act.put, List.setIfInBounds_toArray, List.set_cons_succ, List.set_cons_zero, List.getD_cons_succ, List.getD_cons_zero] at fin
        exact fin
      · rintro vs W K hc hvl hw hK
        obtain ⟨x0, x1, x2, x3, x4, x5, rfl⟩ := len6 hvl
        have HK := Lib.hid hK
        have HC' := Lib.hid hc
        have HW := Lib.hid hw
        clear hK hc hw hvl
        obtain rfl : x3 = .agg #[.int .i64 y0, .int .i64 y1, .int .i64 y2, .int .i64 y3] := st_get (HW.out ⟨3, .data⟩ (by simp) rfl) rfl rfl
        obtain rfl : x4 = .agg #[.int .i64 f0, .int .i64 f1, .int .i64 f2, .int .i64 f3] := st_get (HW.out ⟨4, .data⟩ (by simp) rfl) rfl rfl
        simp only [putAll, Act.put, List.setIfInBounds_toArray, List.set_cons_succ, List.set_cons_zero]
        clear HW
        gi_wp2_with fail
        rw [HEQ.out, Result.andThen_ok]
        gi_wp2_with fail
        have fin := HK.out W HC'.out
        simp only [putAll, Act.put, List.setIfInBounds_toArray, List.set_cons_succ, List.set_cons_zero, List.getD_cons_succ, List.getD_cons_zero] at fin
        exact fin
    case fin =>
      intro W hbw
      have HBW := Lib.hid hbw
      clear hbw
      simp only [putAll, Act.put, List.setIfInBounds_toArray, List.set_cons_succ, List.set_cons_zero]
      have hasq := lasts_asq W1.heap.size w5 _ _ (by have := ASW.out.bw.size; have := ASW.out.row.lt; omega) W1 W none ASW.out ⟨HBW.out.os, HBW.out.tape, HBW.out.output, HBW.out.size, fun k hk _ => HBW.out.block k hk⟩ (fun r e => by cases e)
      have rj := RJW.out.below HBW.out RJW.out.lt
      have rf := RFW.out.below HBW.out RFW.out.lt
      have rl := RLW.out.below HBW.out RLW.out.lt
      have rb := RBW.out.below HBW.out RBW.out.lt
      have r48 := R48.out.below HBW.out R48.out.lt
      cases eqb with
      | true =>
        rw [if_pos rfl] at HSNC
        have HAL := Lib.hid (And.intro hasq (And.intro rj (And.intro rf (And.intro rl rb))))
        clear hasq rj rf rl rb r48
        gi_wp2_with fail
        exact ⟨keeps_below HBW.out, Keeps2.of_below HBW.out RLW.out.lt RBW.out.lt, ⟨_, by rw [HSNC.out]; exact HAL.out.1⟩, HAL.out.2⟩
      | false =>
        rw [if_neg (by simp)] at HSNC
        have ba := (Below.refl W.heap.size W).alloc (Nat.le_refl _) (.cells #[.int .i64 x.1, .int .i64 x.2] 48)
        have rn := Row.new W 48 [.int .i64 x.1, .int .i64 x.2]
        have hll : (stepsF [p0, p1, p2, p3] [f0, f1, f2, f3] pre).length ≤ 25 := Nat.le_trans (List.length_filter_le _ _) (Nat.le_of_lt HPL.out)
        generalize stepsF [p0, p1, p2, p3] [f0, f1, f2, f3] pre = sl at *
        obtain ⟨v7, W2, hap, ho2, hg2, _, hblk⟩ := run_append_own_at (P := Try.prog) (W.alloc (.cells #[.int .i64 x.1, .int .i64 x.2] 48)) (w5.heap.size + 1) 27 27 48 i0 (.agg #[.int .i64 0, .int .i64 0]) 2 16 Try.underlying27 hi hz0 hz1' hz2 rfl (by decide) v' sl.length (flatP sl) (hasq.own.alloc _)
          ⟨W.heap.size, 0, none⟩ 1 1 [.int .i64 x.1, .int .i64 x.2] rfl (fun j u hj => by rw [Go.WideShapes.add_plain]; simp only [Nat.zero_add]; rw [Row.cell rn]; exact hj) (by simp [Value.oneCell']) (by unfold maxLen; omega) (by omega) (by rw [size_al]; have := hasq.row.lt; omega)
        obtain ⟨g7, cap7, hv7⟩ : ∃ g7 cap7, v7 = .slice (some ⟨g7, 0, none⟩) (sl.length + 1) cap7 := by
          rcases ho2.2 with ⟨_, h⟩ | ⟨g, cap, cur, h, _⟩
          · omega
          · exact ⟨g, cap, h⟩
        subst hv7
        have hst := asq_step (r := w4.heap.size) (b := w4.heap.size) hasq ho2 hg2 (by have := HS5.out.2; omega) (by have := HS5.out.2; omega)
        have kr := fun (g : Nat) (E : TypeId) (vs : List Value) (hr : Row W g E vs) (h1 : E ≠ 48) (h2 : E ≠ 27) => asq_row (v' := .slice (some ⟨g7, 0, none⟩) (sl.length + 1) cap7) hasq hg2 hr h1 h2
        have HAL := Lib.hid (And.intro hst.1 (And.intro (kr _ _ _ rj (by decide) (by decide)) (And.intro (kr _ _ _ rf (by decide) (by decide)) (And.intro (kr _ _ _ rl (by decide) (by decide)) (kr _ _ _ rb (by decide) (by decide))))))
        have HKF := Lib.hid hst.2.2
        have c0 : W.cell? ⟨w5.heap.size, 0, none⟩ = some v' := hasq.row.cell 0
        have s0 : W.cell? ⟨q, 0, none⟩ = some (.int .i64 x.1) := r48.cell 0
        have s1 : W.cell? ⟨q, 1, none⟩ = some (.int .i64 x.2) := r48.cell 1
        have r2 : Row W2 w5.heap.size 27 [v'] := (hasq.row.below ba hasq.row.lt).kept hg2 (fun e => by
          have := (hasq.own.lt w5.heap.size e.symm).1; omega)
        have c2 : W2.cell? ⟨w5.heap.size, 0, none⟩ = some v' := r2.cell 0
        have k2 := frozen_of_row W2 w5.heap.size 0 _ _ r2
        have HAP := Lib.hid hap
        clear hst hap ho2 hg2 hblk hasq rj rf rl rb r48 rn ba r2 kr hll
        gi_wp2_with (gi_at_builtin; refine wpListIn_append_run rfl _ _ 27 rfl _ _ _ _ rfl rfl HAP.out ?_)
        refine ⟨(keeps_below HBW.out).trans ⟨HKF.out.size, fun k o hB => HKF.out.same k o (by have := AS7.out.bw.size; omega)⟩, ⟨?_, ?_, ?_⟩, _, by rw [HSNC.out]; exact HAL.out.1, HAL.out.2⟩
        · exact Nat.le_trans HBW.out.size HKF.out.size
        · rw [show W1.heap[bl]? = _ from RLW.out]; exact HAL.out.2.2.2.1
        · rw [show W1.heap[bj]? = _ from RBW.out]; exact HAL.out.2.2.2.2
  case done =>
    rintro D W1 hD ⟨v', hA, _⟩ hK
    have c0 : W1.cell? ⟨w5.heap.size, 0, none⟩ = some v' := hA.row.cell 0
    have HA := Lib.hid hA
    have HK := Lib.hid hK
    have HD := Lib.hid hD
    clear hA hK hD
    dsimp only
    simp only [Exit.inBlock]
    gi_wp2_with fail
    have hws := AS7.out.bw.size
    have hwl := AS7.out.row.lt
    refine leaves_marks (B := D) (fun X => OwnP X w.heap.size v' (stepsF [p0, p1, p2, p3] [f0, f1, f2, f3] (stepsL ls m)) ∧ Below w.heap.size w X)
      ((lasts_owns _ _ _ _ _ _ _).and (lasts_below _ _ _ (by have := HD.out; have := HB5.out.size; omega) (Nat.le_refl _))) ?_ [{ target := .collected D, args := #[] }] _ ⟨[D], rfl, by simp, fun E hE => by rw [List.mem_singleton.1 hE]; exact ⟨Nat.le_refl _, HK.out⟩⟩ ⟨?_, Below.andThen HB5.out HA.out.bw (Nat.le_refl _)⟩
    · rintro X ⟨ho, hb⟩
      refine ⟨.tuple #[v', .int .i64 0], ?_, v', rfl, ho, hb⟩
      simp [results, Try.results25, go_sem]
    · have h := HA.out.own
      rw [flatP_flat] at h
      exact owns_mono h (by have := HB5.out.size; omega)
  case stop =>
    rintro D c pre W1 hD _ hf
    exact hf.elim
end Go.Proofs.Ytlamppplnojpbaa
