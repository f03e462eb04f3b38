import Derived.Test.YtlamppplnojpbaaJr
import Derived.Laws.AppendOwn
import Derived.Maps.OwnIn
import Derived.Maps.AppendAt
import Derived.RangeFuncNested
import Derived.RangeFuncBound
import Derived.RangeFuncCalls
import Derived.RangeFuncLeaves
import Derived.Shelf.Abstract
import Derived.Shelf.RegionOpen
import Derived.WalkKit
import Derived.WalkMore
import Derived.OwnWalkIn
import Derived.TacticsInMore
import Derived.LoopNIn
import Derived.LoopIn
import Derived.WalkSpells
import Derived.WalkLawsBesides
import Derived.BigQuiet
import Derived.Deep.QuietTactic
import Derived.Lib.Hide
import Derived.Deep.RegionHeld3
import Derived.StillTailTactics
import Derived.Deep.LoopGhost
import Derived.Maps.OwnSet
import Derived.Lib.IndexAny
import Derived.Sort.QuietThIn
import Derived.Sort.QuietTacIn
import Derived.Sort.BigQuietIn
namespace Go.Proofs.Ytlamppplnojpbaa
open Go.RowKit Go.Shelf
attribute [local go_sem] Oper.semAt_some
/-- slots that have been written -/
def putAll (a : Act) : List Nat → List Value → Act
  | s :: ss, v :: vs => putAll (a.put (some s) v) ss vs
  | _, _ => a

section
variable {P : Program} {Q : Exit → Act → World → Prop}
theorem upon_then {o : Oper} {a : Act} {w : World} {next K : Act → World → Prop} (h : o.wp P a w next (Exit.then K Q)) : o.wp P a w next Q := by
  unfold Oper.wp at *
  generalize (execOp a.eval o).run P w = r at *
  cases r with
  | ok x w' => cases x <;> exact h
  | halt x w' => cases x <;> exact h
theorem wpOp_of_list {ops : Array Oper} {i : Nat} {o : Oper} {K : Act → World → Prop} {a : Act} {w : World} (ho : ops[i]? = some o) (h : wpList P ops (Exit.then K Q) [o] a w) : wpOp P ops Q i K a w := by
  unfold wpOp
  simp only [ho]
  unfold wpList at h
  split
  · rename_i hw
    rw [if_pos hw] at h
    exact h.imp (fun h => upon_then h) (fun h => h)
  · rename_i hw
    rw [if_neg hw] at h; exact h
end
/-- each operation waits for earlier ones alone, of the edges that bind -/
def waitsC (l : List Oper) : Bool := (List.range l.length).all fun i => ((l[i]?).map fun o => o.after.all fun e => !Region.binds .any e || decide (e.on < i)).getD true
section
variable {P : Program} {Q : Exit → Act → World → Prop}
/-- a region whose order is open, by an invariant over what has come up -/
theorem wp_region_inv2 {id : Nat} {a : Act} {w : World} {l : List Oper} (hm : P.follows .mixedOrders = true) (hd : waitsC l = true) (I : List Bool → Act → World → Prop) (h0 : I (List.replicate l.length false) a w.drew)
    (hstep : ∀ (i : Nat) (o : Oper) (bs : List Bool) (a : Act) (w : World), l[i]? = some o → I bs a w → bs.length = l.length → bs[i]? = some false → (∀ e ∈ o.after, Region.binds .any e = true → bs.getD e.on false = true) →
      wpOp P l.toArray Q i (fun a' w' => I (bs.set i true) a' w') a w)
    (hend : ∀ a w, I (List.replicate l.length true) a w → Q .normal a w) : (Code.region id l.toArray true).wp P Q a w := by
  refine wp_region_any hm ?_
  have key : ∀ (fuel : Nat) (bs : List Bool) (a : Act) (w : World), bs.length = l.length → (bs.filter (! ·)).length ≤ fuel → I bs a w → wpAny P .any l.toArray Q fuel bs.toArray a w := by
    intro fuel
    induction fuel with
    | zero =>
      intro bs a w hl hf hI
      have hall : bs = List.replicate l.length true := by
        rw [List.eq_replicate_iff]
        refine ⟨hl, fun b hb => ?_⟩
        cases b with
        | true => rfl
        | false =>
          have : false ∈ bs.filter (! ·) := List.mem_filter.2 ⟨hb, rfl⟩
          have := List.length_pos_of_mem this; omega
      subst hall
      refine ⟨?_, hend a w hI⟩
      cases hr : Region.ready .any l.toArray (List.replicate l.length true).toArray with
      | nil => rfl
      | cons j js =>
        have hj : j ∈ Region.ready .any l.toArray (List.replicate l.length true).toArray := by rw [hr]; exact List.mem_cons_self
        obtain ⟨h1, o, h2, _⟩ := mem_ready.1 hj
        have hlt : j < l.length := by have := (List.getElem?_eq_some_iff.1 (by simpa using h2 : l[j]? = some o)).1; exact this
        simp [Array.getD, hlt] at h1
    | succ fuel ih =>
      intro bs a w hl hf hI
      have hset : ∀ (i : Nat), (bs.toArray.setIfInBounds i true) = (bs.set i true).toArray := fun i => by simp
      by_cases hall : bs = List.replicate l.length true
      · subst hall
        refine ⟨fun _ => hend a w hI, fun j hj => ?_⟩
        obtain ⟨h1, o, h2, _⟩ := mem_ready.1 hj
        have hlt : j < l.length := by have := (List.getElem?_eq_some_iff.1 (by simpa using h2 : l[j]? = some o)).1; exact this
        simp [Array.getD, hlt] at h1
      · refine ⟨fun hr => ?_, fun j hj => ?_⟩
        · exfalso
          have hex : ∃ b ∈ bs, (!b) = true := by
            false_or_by_contra
            rename_i hno
            refine hall (List.eq_replicate_iff.2 ⟨hl, fun b hb => ?_⟩)
            cases b with
            | true => rfl
            | false => exact absurd ⟨false, hb, rfl⟩ hno
          have hlt : bs.findIdx (! ·) < bs.length := List.findIdx_lt_length.2 hex
          have hf0 : bs[bs.findIdx (! ·)] = false := by have := List.findIdx_getElem (w := hlt); simpa using this
          have hlt2 : bs.findIdx (! ·) < l.length := by omega
          have hmem : bs.findIdx (! ·) ∈ Region.ready .any l.toArray bs.toArray := by
            refine mem_ready.2 ⟨by simp [Array.getD, hlt, hf0], l[bs.findIdx (! ·)], by simp [hlt2], fun e he hbd => ?_⟩
            unfold waitsC at hd
            rw [List.all_eq_true] at hd
            have h1 := hd _ (List.mem_range.2 hlt2)
            rw [List.getElem?_eq_getElem hlt2] at h1
            simp only [Option.map_some, Option.getD_some] at h1
            have h2 := (Array.all_eq_true'.1 h1) e he
            rw [hbd] at h2
            have h3 : e.on < bs.findIdx (! ·) := by simpa using h2
            have h4 : e.on < bs.length := by omega
            have h5 := List.not_of_lt_findIdx h3
            simp [Array.getD, h4]
            simpa using h5
          rw [hr] at hmem; cases hmem
        · obtain ⟨h1, o, h2, h3⟩ := mem_ready.1 hj
          have h2' : l[j]? = some o := by simpa using h2
          have hlt : j < l.length := (List.getElem?_eq_some_iff.1 h2').1
          have hb : bs[j]? = some false := by
            rw [List.getElem?_eq_getElem (by omega)]
            simp [Array.getD, show j < bs.length by omega] at h1
            rw [h1]
          refine wpOp_mono (fun a' w' h => ?_) (hstep j o bs a w h2' hI hl hb (fun e he hb => by have := h3 e he hb; rw [List.getD_eq_getElem?_getD]; simp only [Array.getD, List.size_toArray] at this; split at this <;> simp_all))
          rw [hset]
          have := filter_set bs j hb
          exact ih _ _ _ (by simpa using hl) (by omega) h
  have := key l.length (List.replicate l.length false) a w.drew (by simp) (by simp) h0
  simpa using this
/-- the same, with the slots that the region writes told apart -/
theorem wp_region_slots2 {id : Nat} {a : Act} {w : World} {l : List Oper} (hm : P.follows .mixedOrders = true) (hd : waitsC l = true) (slots : List Nat) (J : List Bool → List Value → World → Prop)
    (h0 : ∃ vs, a = putAll a slots vs ∧ J (List.replicate l.length false) vs w.drew)
    (hstep : ∀ (i : Nat) (o : Oper) (bs : List Bool) (vs : List Value) (w : World) (K : Act → World → Prop), l[i]? = some o → J bs vs w → bs.length = l.length → bs[i]? = some false → (∀ e ∈ o.after, Region.binds .any e = true → bs.getD e.on false = true) →
      (∀ vs' w', J (bs.set i true) vs' w' → K (putAll a slots vs') w') → wpOp P l.toArray Q i K (putAll a slots vs) w)
    (hend : ∀ vs w, J (List.replicate l.length true) vs w → Q .normal (putAll a slots vs) w) : (Code.region id l.toArray true).wp P Q a w := by
  refine wp_region_inv2 hm hd (fun bs a' w' => ∃ vs, a' = putAll a slots vs ∧ J bs vs w') h0 ?_ ?_
  · rintro i o bs a' w' ho ⟨vs, rfl, hJ⟩ hl hb hw
    exact hstep i o bs vs w' _ ho hJ hl hb hw (fun vs' w'' h => ⟨vs', rfl, h⟩)
  · rintro a' w' ⟨vs, rfl, hJ⟩
    exact hend vs w' hJ
end
section
variable {P : Program} {Q : Exit → Act → World → Prop}
/-- what has come up holds with what it waits for -/
def closedB (l : List Oper) (bs : List Bool) : Prop := ∀ (j : Nat) (o : Oper), l[j]? = some o → bs[j]? = some true → ∀ e ∈ o.after, Region.binds .any e = true → bs[e.on]? = some true
/-- each operation puts one value, and the world is told by what has come up -/
def stSteps (P : Program) (Q : Exit → Act → World → Prop) (l : List Oper) (a : Act) (slots : List Nat) (val : List Value) (wf : List Bool → World) (len : Nat) : List Oper → Nat → Prop
  | [], _ => True
  | o :: rest, i => (∀ (vs : List Value) (bs : List Bool) (K : Act → World → Prop), vs.length = len → bs.length = len → closedB l bs → bs[i]? = some false → (∀ e ∈ o.after, Region.binds .any e = true → bs[e.on]? = some true ∧ vs[e.on]? = val[e.on]?) →
      K (putAll a slots (vs.set i (val.getD i undef))) (wf (bs.set i true)) → wpList P l.toArray (Exit.then K Q) [o] (putAll a slots vs) (wf bs)) ∧ stSteps P Q l a slots val wf len rest (i + 1)
theorem stSteps_get {l0 : List Oper} {a : Act} {slots : List Nat} {val : List Value} {wf : List Bool → World} {len : Nat} : ∀ {l : List Oper} {k i : Nat} {o : Oper}, stSteps P Q l0 a slots val wf len l k → l[i]? = some o →
    ∀ (vs : List Value) (bs : List Bool) (K : Act → World → Prop), vs.length = len → bs.length = len → closedB l0 bs → bs[k + i]? = some false → (∀ e ∈ o.after, Region.binds .any e = true → bs[e.on]? = some true ∧ vs[e.on]? = val[e.on]?) →
      K (putAll a slots (vs.set (k + i) (val.getD (k + i) undef))) (wf (bs.set (k + i) true)) → wpList P l0.toArray (Exit.then K Q) [o] (putAll a slots vs) (wf bs)
  | [], _, _, _, _, h => by simp at h
  | o :: rest, k, 0, o', hd, h => by
    simp at h; subst h
    exact hd.1
  | o :: rest, k, i + 1, o', hd, h => by
    have := stSteps_get (l := rest) (k := k + 1) (i := i) hd.2 (by simpa using h)
    rw [show k + 1 + i = k + (i + 1) by omega] at this
    exact this
theorem wp_region_st {id : Nat} {a : Act} {w : World} {l : List Oper} (hm : P.follows .mixedOrders = true) (hd : waitsC l = true) (slots : List Nat) (val : List Value) (wf : List Bool → World) (len : Nat) (hlen : l.length = len) (hvl : val.length = len)
    (h0 : ∃ vs, a = putAll a slots vs ∧ vs.length = len) (hw0 : wf (List.replicate len false) = w.drew)
    (hsteps : stSteps P Q l a slots val wf len l 0)
    (hend : Q .normal (putAll a slots val) (wf (List.replicate len true))) : (Code.region id l.toArray true).wp P Q a w := by
  obtain ⟨vs0, e0, el0⟩ := h0
  refine wp_region_slots2 hm hd slots (fun (bs : List Bool) (vs : List Value) W => W = wf bs ∧ bs.length = len ∧ vs.length = len ∧ closedB l bs ∧ ∀ i : Nat, bs[i]? = some true → vs[i]? = val[i]?) ⟨vs0, e0, by rw [hlen]; exact hw0.symm, by rw [List.length_replicate]; exact hlen, el0, fun j o hj hb => ?_, fun i hi => ?_⟩ ?_ ?_
  · rw [List.getElem?_replicate] at hb
    split at hb <;> simp at hb
  · rw [List.getElem?_replicate] at hi
    split at hi <;> simp at hi
  · rintro i o bs vs W K ho ⟨rfl, hbl, hl, hcl, hv⟩ _ hb hw hK
    have hdep : ∀ e ∈ o.after, Region.binds .any e = true → bs[e.on]? = some true := fun e he hbe => by
      have h := hw e he hbe
      rw [List.getD_eq_getElem?_getD] at h
      cases h2 : bs[e.on]? with
      | none => rw [h2] at h; simp at h
      | some b => rw [h2] at h; simp at h; rw [h]
    have hi : i < len := by rw [← hlen]; exact (List.getElem?_eq_some_iff.1 ho).1
    refine wpOp_of_list (by simpa using ho) ?_
    refine stSteps_get hsteps ho vs bs K hl hbl hcl (by simpa using hb) (fun e he hbe => ⟨hdep e he hbe, hv _ (hdep e he hbe)⟩) ?_
    rw [Nat.zero_add]
    refine hK _ _ ⟨rfl, by rw [List.length_set]; exact hbl, by rw [List.length_set]; exact hl, fun j o' hj hbj e he hbe => ?_, fun j hj => ?_⟩
    · by_cases hij : i = j
      · subst hij
        rw [ho] at hj; cases hj
        have := hdep e he hbe
        by_cases hie : i = e.on
        · rw [← hie, List.getElem?_set_self (by omega)]
        · rw [List.getElem?_set_ne hie]; exact this
      · rw [List.getElem?_set_ne hij] at hbj
        have := hcl j o' hj hbj e he hbe
        by_cases hie : i = e.on
        · rw [← hie, List.getElem?_set_self (by omega)]
        · rw [List.getElem?_set_ne hie]; exact this
    · by_cases hij : i = j
      · subst hij
        rw [List.getElem?_set_self (by omega), List.getD_eq_getElem?_getD, List.getElem?_eq_getElem (by omega)]; rfl
      · rw [List.getElem?_set_ne hij] at hj ⊢
        exact hv j hj
  · rintro vs W ⟨rfl, hbl, hl, hcl, hv⟩
    have : vs = val := by
      refine List.ext_getElem? fun i => ?_
      by_cases hi : i < len
      · exact hv i (by rw [List.getElem?_replicate, if_pos (by omega)])
      · rw [List.getElem?_eq_none (by omega), List.getElem?_eq_none (by omega)]
    subst this
    rw [hlen]
    exact hend
end
theorem st_get {vs val : List Value} {n : Nat} (h : vs[n]? = val[n]?) {x y : Value} (hx : vs[n]? = some x) (hy : val[n]? = some y) : x = y := by
  rw [hx, hy] at h; cases h; rfl
abbrev Pt := Int × Int
def ptAt (ps : List Pt) (i : Nat) : Pt := ps.getD i (0, 0)
theorem ptAt_lt {ps : List Pt} {i : Nat} (h : i < ps.length) : ptAt ps i = ps[i] := by
  unfold ptAt; simp [h]
/-- the points of ps lie at block b from offset o on, two numbers each -/
structure PtsAt (w : World) (b o : Nat) (ps : List Pt) : Prop where
  lt : b < w.heap.size
  x : ∀ i (h : i < ps.length), w.cell? ⟨b, o + i * 2, none⟩ = some (.int .i64 ps[i].1)
  y : ∀ i (h : i < ps.length), w.cell? ⟨b, o + i * 2 + 1, none⟩ = some (.int .i64 ps[i].2)
theorem PtsAt.below {B : Nat} {w w' : World} {b o : Nat} {ps : List Pt} (h : PtsAt w b o ps) (hb : Below B w w') (hB : b < B) : PtsAt w' b o ps :=
  ⟨Nat.lt_of_lt_of_le h.lt hb.size, fun i hi => below_at hb hB (h.x i hi), fun i hi => below_at hb hB (h.y i hi)⟩
theorem PtsAt.grow {w w' : World} {b o : Nat} {ps : List Pt} (h : PtsAt w b o ps) (hb : Below w.heap.size w w') : PtsAt w' b o ps := h.below hb h.lt

def flat : List Pt → List Value
  | [] => []
  | p :: ps => .int .i64 p.1 :: .int .i64 p.2 :: flat ps
theorem flat_get : ∀ (ps : List Pt) (i : Nat) (h : i < ps.length), (flat ps)[i * 2]? = some (.int .i64 ps[i].1) ∧ (flat ps)[i * 2 + 1]? = some (.int .i64 ps[i].2)
  | p :: ps, 0, _ => ⟨rfl, rfl⟩
  | p :: ps, i + 1, h => by
    have := flat_get ps i (by simpa using h)
    rw [show (i + 1) * 2 = i * 2 + 2 by omega]
    simpa [flat] using this
theorem flat_length : ∀ ps : List Pt, (flat ps).length = ps.length * 2
  | [] => rfl
  | p :: ps => by simp [flat, flat_length ps]; omega
/-- a slice of the call's own, of points -/
def OwnP (W : World) (n₀ : Nat) (v : Value) (ps : List Pt) : Prop := W.ownsRow n₀ 48 2 v ps.length (flat ps)
theorem OwnP.open {W : World} {n₀ : Nat} {v : Value} {ps : List Pt} (h : OwnP W n₀ v ps) : ∃ a c, v = .slice a ps.length c ∧ (a = none ∧ c = 0 ∧ ps = [] ∨ ∃ g, n₀ ≤ g ∧ a = some ⟨g, 0, none⟩ ∧ PtsAt W g 0 ps ∧ ps.length ≤ c) := by
  have h0 := h
  rcases h.2 with ⟨rfl, hn⟩ | ⟨g, cap, cur, rfl, hg, hgb, hc, _⟩
  · have : ps = [] := List.eq_nil_of_length_eq_zero hn
    subst this
    exact ⟨none, 0, rfl, .inl ⟨rfl, rfl, rfl⟩⟩
  · have hlt := (Array.getElem?_eq_some_iff.1 hgb).1
    refine ⟨_, _, rfl, .inr ⟨g, hg, rfl, ⟨hlt, fun i hi => ?_, fun i hi => ?_⟩, hc⟩⟩
    · have := World.ownsRow.cells h0 (g := g) rfl (i * 2) _ (flat_get ps i hi).1
      rw [Go.WideShapes.add_plain] at this
      simpa using this
    · have := World.ownsRow.cells h0 (g := g) rfl (i * 2 + 1) _ (flat_get ps i hi).2
      rw [Go.WideShapes.add_plain] at this
      simpa using this
theorem own_grow {W W' : World} {n₀ e s k : Nat} {u : Value} {xs : List Value} (h : W.ownsRow n₀ e s u k xs) (hb : Below W.heap.size W W') : W'.ownsRow n₀ e s u k xs :=
  h.kept (row := none) ⟨hb.os, hb.tape, hb.output, hb.size, fun k hk _ => hb.block k hk⟩ (by
    cases h : u.ownBlock with
    | none => exact .inl rfl
    | some g => right; simp)
/-- a slice of the call's own, with its block named -/
def OwnG (W : World) (n₀ g c : Nat) (ps : List Pt) : Prop := OwnP W n₀ (.slice (some ⟨g, 0, none⟩) ps.length c) ps
theorem OwnG.pts {W : World} {n₀ g c : Nat} {ps : List Pt} (h : OwnG W n₀ g c ps) (h1 : ps ≠ []) : PtsAt W g 0 ps ∧ ps.length ≤ c ∧ n₀ ≤ g := by
  obtain ⟨a', c', he, h⟩ := OwnP.open h
  cases he
  rcases h with ⟨_, _, h⟩ | ⟨g', hg, h1, h2, h3⟩
  · exact absurd h h1
  · cases h1; exact ⟨h2, h3, hg⟩
theorem OwnG.heap {W : World} {n₀ g c : Nat} {ps : List Pt} (h : OwnG W n₀ g c ps) : ∃ cur : Array Value, W.heap[g]? = some (.cells cur 48 (0, 0)) ∧ n₀ ≤ g ∧ ps.length ≤ c ∧ c ≤ maxLen ∧ cur.size = c * 2 ∧ cur.toList.take (ps.length * 2) = flat ps := by
  rcases h.2 with ⟨h, _⟩ | ⟨g', cap, cur, he, hg, hgb, hc, h5, h6, h7⟩
  · cases h
  · cases he; exact ⟨cur, hgb, hg, hc, h5, h6, h7⟩
theorem OwnG.frozen {W : World} {n₀ g c : Nat} {ps : List Pt} (h : OwnG W n₀ g c ps) (i : Nat) : W.frozen? ⟨g, i, none⟩ = false := by
  obtain ⟨cur, hh, _⟩ := h.heap
  simp [World.frozen?, hh]
theorem flat_set : ∀ (ps : List Pt) (i : Nat) (p : Pt), flat (ps.set i p) = ((flat ps).set (i * 2) (.int .i64 p.1)).set (i * 2 + 1) (.int .i64 p.2)
  | [], _, _ => rfl
  | q :: ps, 0, p => by simp [flat]
  | q :: ps, i + 1, p => by
    rw [List.set_cons_succ, flat, flat_set ps i p, show (i + 1) * 2 = i * 2 + 1 + 1 by omega]
    simp [flat]
theorem setCell_heap (W : World) (g i : Nat) (v : Value) (cur : Array Value) (h : W.heap[g]? = some (.cells cur 48 (0, 0))) : (W.setCell ⟨g, i, none⟩ v).heap[g]? = some (.cells (cur.setIfInBounds i v) 48 (0, 0)) := by
  have hlt := (Array.getElem?_eq_some_iff.1 h).1
  obtain ⟨_, he⟩ := Array.getElem?_eq_some_iff.1 h
  simp [World.setCell, hlt, Array.getElem_modify, he]
theorem OwnG.set {W : World} {n₀ g c : Nat} {ps : List Pt} (h : OwnG W n₀ g c ps) (i : Nat) (_hi : i < ps.length) (x y : Int) :
    OwnG ((W.setCell ⟨g, i * 2, none⟩ (.int .i64 x)).setCell ⟨g, i * 2 + 1, none⟩ (.int .i64 y)) n₀ g c (ps.set i (x, y)) := by
  obtain ⟨cur, hh, h1, h2, h3, h4, h5⟩ := h.heap
  have hs := setCell_heap _ g (i * 2 + 1) (.int .i64 y) _ (setCell_heap W g (i * 2) (.int .i64 x) cur hh)
  refine ⟨by rw [flat_length], .inr ⟨g, c, _, rfl, h1, hs, by rw [List.length_set]; exact h2, h3, by simp [h4], ?_⟩⟩
  rw [flat_set, ← h5, List.length_set]
  simp only [Array.toList_setIfInBounds]
  rw [List.take_set, List.take_set]
/-- a world that changes with the operations s1 and s2 -/
def swapG (s1 s2 : Nat) (W0 W1 W2 : World) (bs : List Bool) : World := if bs[s2]? = some true then W2 else if bs[s1]? = some true then W1 else W0
theorem swapG_pure {s1 s2 : Nat} {W0 W1 W2 : World} {bs : List Bool} {i : Nat} (h1 : i ≠ s1) (h2 : i ≠ s2) : swapG s1 s2 W0 W1 W2 (bs.set i true) = swapG s1 s2 W0 W1 W2 bs := by
  unfold swapG; rw [List.getElem?_set_ne h1, List.getElem?_set_ne h2]
theorem swapG_0 {s1 s2 : Nat} {W0 W1 W2 : World} {bs : List Bool} (h1 : bs[s1]? ≠ some true) (h2 : bs[s2]? ≠ some true) : swapG s1 s2 W0 W1 W2 bs = W0 := by
  unfold swapG; rw [if_neg h2, if_neg h1]
theorem swapG_1 {s1 s2 : Nat} {W0 W1 W2 : World} {bs : List Bool} (h1 : bs[s1]? = some true) (h2 : bs[s2]? ≠ some true) : swapG s1 s2 W0 W1 W2 bs = W1 := by
  unfold swapG; rw [if_neg h2, if_pos h1]
theorem swapG_2 {s1 s2 : Nat} {W0 W1 W2 : World} {bs : List Bool} (h2 : bs[s2]? = some true) : swapG s1 s2 W0 W1 W2 bs = W2 := by
  unfold swapG; rw [if_pos h2]
theorem len16 {vs : List Value} (h : vs.length = 16) : ∃ x0 x1 x2 x3 x4 x5 x6 x7 x8 x9 x10 x11 x12 x13 x14 x15, vs = [x0, x1, x2, x3, x4, x5, x6, x7, x8, x9, x10, x11, x12, x13, x14, x15] := by
  match vs, h with
  | [x0, x1, x2, x3, x4, x5, x6, x7, x8, x9, x10, x11, x12, x13, x14, x15], _ => exact ⟨_, _, _, _, _, _, _, _, _, _, _, _, _, _, _, _, rfl⟩
/-- two points exchanged -/
def exch (L : List Pt) (i j : Nat) : List Pt := (L.set i (ptAt L j)).set j (ptAt L i)
theorem exch_len (L : List Pt) (i j : Nat) : (exch L i j).length = L.length := by unfold exch; rw [List.length_set, List.length_set]
theorem exch_at {L : List Pt} {i j : Nat} (hi : i < L.length) (hj : j < L.length) (_h : i ≠ j) (k : Nat) : ptAt (exch L i j) k = if k = j then ptAt L i else if k = i then ptAt L j else ptAt L k := by
  unfold exch
  show ((L.set i (ptAt L j)).set j (ptAt L i)).getD k (0, 0) = _
  rw [List.getD_eq_getElem?_getD]
  by_cases h1 : k = j
  · subst h1; rw [List.getElem?_set_self (by rw [List.length_set]; omega), if_pos rfl]; rfl
  · rw [List.getElem?_set_ne (fun e => h1 e.symm), if_neg h1]
    by_cases h2 : k = i
    · subst h2; rw [List.getElem?_set_self hi, if_pos rfl]; rfl
    · rw [List.getElem?_set_ne (fun e => h2 e.symm), if_neg h2]
      unfold ptAt; rw [List.getD_eq_getElem?_getD]
/-- the outer k points on both sides have changed places -/
def Half2 (ps L : List Pt) (k : Nat) : Prop := L.length = ps.length ∧ ∀ t, t < ps.length → ptAt L t = if t < k ∨ ps.length - 1 - k < t then ptAt ps (ps.length - 1 - t) else ptAt ps t
theorem Half2.start (ps : List Pt) : Half2 ps ps 0 := ⟨rfl, fun t ht => by rw [if_neg (by omega)]⟩
theorem Half2.step {ps L : List Pt} {k : Nat} (h : Half2 ps L k) (hk : k < ps.length - 1 - k) : Half2 ps (exch L k (ps.length - 1 - k)) (k + 1) := by
  have hL := h.1
  refine ⟨by rw [exch_len, hL], fun t ht => ?_⟩
  rw [exch_at (by omega) (by omega) (by omega)]
  have hk1 := h.2 k (by omega)
  have hk2 := h.2 (ps.length - 1 - k) (by omega)
  rw [if_neg (by omega)] at hk1 hk2
  by_cases h1 : t = ps.length - 1 - k
  · rw [if_pos h1, if_pos (by omega), hk1]; congr 1; omega
  · rw [if_neg h1]
    by_cases h2 : t = k
    · rw [if_pos h2, if_pos (by omega), hk2, h2]
    · rw [if_neg h2, h.2 t ht]
      by_cases h3 : t < k ∨ ps.length - 1 - k < t
      · rw [if_pos h3, if_pos (by omega)]
      · rw [if_neg h3, if_neg (by omega)]
theorem Half2.stop {ps L : List Pt} {k : Nat} (h : Half2 ps L k) (hk : ps.length - 1 - k ≤ k) (hk2 : k ≤ ps.length - 1) : L = ps.reverse := by
  refine List.ext_getElem (by rw [h.1, List.length_reverse]) fun t h1 h2 => ?_
  have ht : t < ps.length := by rw [← h.1]; exact h1
  have e := h.2 t ht
  rw [ptAt_lt h1] at e
  rw [e, List.getElem_reverse, ← ptAt_lt]
  split
  · rfl
  · congr 1; omega
theorem grown_set (w : World) (a : Addr) (u : Value) : w.grownBy (w.setCell a u) (some a.block) := ⟨rfl, rfl, rfl, by simp [World.setCell], fun k _ h => Below.heap_setCell _ _ _ _ (fun e => h (by rw [e]))⟩
theorem grown_drew (w : World) (row : Option Nat) : w.grownBy w.drew row := ⟨rfl, rfl, rfl, Nat.le_refl _, fun _ _ _ => rfl⟩
set_option maxRecDepth 100000 in
set_option maxHeartbeats 4000000 in
theorem reverse_any (ps : List Pt) (g c n₀ : Nat) (w : World) (ho : OwnG w n₀ g c ps) (_hn0 : n₀ ≤ w.heap.size) (h1 : 1 ≤ ps.length) (h12 : ps.length ≤ 1000000) :
    Calls Try.prog 73 #[.slice (some ⟨g, 0, none⟩) ps.length c] w fun e w' => (∃ v, e = .returned v) ∧ OwnG w' n₀ g c ps.reverse ∧ Below n₀ w w' ∧ w.grownBy w' (some g) := by
  obtain ⟨N, hN⟩ : ∃ N, ps.length = N := ⟨_, rfl⟩
  have HN := Lib.hid hN
  have HO := Lib.hid ho
  rw [hN] at h1 h12 ⊢
  have e0 : IntKind.i64.wrap ((N : Int) - 1) = (N : Int) - 1 := i64_of _ (by omega) (by omega)
  clear hN ho
  go_enter Try.func73, Try.ntmps73
  go_wp2_with fail
  go_loopw [2, 3] (fun i jv wr => ∃ (k : Nat) (L : List Pt), i = .int .i64 (k : Int) ∧ jv = .int .i64 ((N : Int) - 1 - (k : Int)) ∧ k ≤ N - 1 ∧ Hid (Half2 ps L k) ∧ Hid (OwnG wr n₀ g c L) ∧ Hid (Below n₀ w wr ∧ w.grownBy wr (some g))) (fun i _ _ => N - (intOf i).toNat)
  case atStart => exact ⟨0, ps, rfl, by simp, by omega, Lib.hid (Half2.start ps), HO, Lib.hid ⟨Below.refl _ _, ⟨rfl, rfl, rfl, Nat.le_refl _, fun _ _ _ => rfl⟩⟩⟩
  case round =>
    clear HO
    obtain ⟨k, L, rfl, rfl, hkN, HS, HO, HB⟩ := hrel
    by_cases hlt : k < N - 1 - k
    · have hd : decide ((k : Int) < (N : Int) - 1 - (k : Int)) = true := decide_eq_true (by omega)
      obtain ⟨j, hj⟩ : ∃ j, N - 1 - k = j := ⟨_, rfl⟩
      have ej : (N : Int) - 1 - (k : Int) = (j : Int) := by omega
      have hLN : L.length = N := by rw [HS.out.1, HN.out]
      have hne : L ≠ [] := fun h => by rw [h] at hLN; simp at hLN; omega
      obtain ⟨hpt, hcc, hg0⟩ := HO.out.pts hne
      have hkn : k < L.length := by omega
      have hjn : j < L.length := by omega
      have xj := hpt.x j hjn
      have yj := hpt.y j hjn
      have xk := hpt.x k hkn
      have yk := hpt.y k hkn
      rw [Nat.zero_add] at xj yj xk yk
      rw [← ptAt_lt hjn] at xj yj
      rw [← ptAt_lt hkn] at xk yk
      have HSTP := Lib.hid (show Half2 ps (exch L k j) (k + 1) by
        have h := HS.out.step (by rw [HN.out]; exact hlt)
        rw [HN.out, hj] at h; exact h)
      have HSW := Lib.hid (show exch L k j = (L.set k (ptAt L j)).set j (ptAt L k) from rfl)
      have HJ := Lib.hid (And.intro hkn hjn)
      have en : (N : Int) - 1 - ((k + 1 : Nat) : Int) = (j : Int) - 1 := by omega
      have EN := Lib.hid en
      have ew : IntKind.i64.wrap ((j : Int) - 1) = (j : Int) - 1 := i64_of _ (by omega) (by omega)
      generalize ptAt L k = pa at *
      generalize ptAt L j = pb at *
      obtain ⟨a1, a2⟩ := pa
      obtain ⟨b1, b2⟩ := pb
      dsimp only at xj yj xk yk
      rw [ej] at hd ⊢
      have C2 := Lib.hid (And.intro xk (And.intro yk (And.intro xj yj)))
      have hlt2 : k < j := by omega
      have hjN : j ≤ N - 1 := by omega
      clear hpt hLN hne xj yj xk yk hkn hjn HS hj en ej
      go_wp2_with fail
      obtain ⟨W0, hW0⟩ : ∃ W0, W0 = wr.drew := ⟨_, rfl⟩
      have HW0 := Lib.hid hW0
      have O0 : OwnG W0 n₀ g c L := by rw [hW0]; exact own_grow HO.out ((Below.refl wr.heap.size wr).drew)
      have C0 := Lib.hid (show W0.cell? ⟨g, k * 2, none⟩ = some (.int .i64 a1) ∧ W0.cell? ⟨g, k * 2 + 1, none⟩ = some (.int .i64 a2) ∧ W0.cell? ⟨g, j * 2, none⟩ = some (.int .i64 b1) ∧ W0.cell? ⟨g, j * 2 + 1, none⟩ = some (.int .i64 b2) by rw [hW0]; exact C2.out)
      have FZ0 := Lib.hid (fun i => O0.frozen i)
      have O1 := O0.set k HJ.out.1 b1 b2
      obtain ⟨W1, hW1⟩ : ∃ W1, W1 = (W0.setCell ⟨g, k * 2, none⟩ (.int .i64 b1)).setCell ⟨g, k * 2 + 1, none⟩ (.int .i64 b2) := ⟨_, rfl⟩
      have HW1 := Lib.hid hW1
      rw [← hW1] at O1
      have FZ1 := Lib.hid (fun i => O1.frozen i)
      have hl1 : j < (L.set k (b1, b2)).length := by rw [List.length_set]; exact HJ.out.2
      have hne1 : (L.set k (b1, b2)) ≠ [] := fun h => by rw [h] at hl1; simp at hl1
      have C1 := Lib.hid (show (∃ v, W1.cell? ⟨g, j * 2, none⟩ = some v) ∧ (∃ v, W1.cell? ⟨g, j * 2 + 1, none⟩ = some v) by
        obtain ⟨hp1, _, _⟩ := O1.pts hne1
        have h1 := hp1.x j hl1
        have h2 := hp1.y j hl1
        rw [Nat.zero_add] at h1 h2
        exact ⟨⟨_, h1⟩, ⟨_, h2⟩⟩)
      have O2 := O1.set j hl1 a1 a2
      obtain ⟨W2, hW2⟩ : ∃ W2, W2 = (W1.setCell ⟨g, j * 2, none⟩ (.int .i64 a1)).setCell ⟨g, j * 2 + 1, none⟩ (.int .i64 a2) := ⟨_, rfl⟩
      have HW2 := Lib.hid hW2
      rw [← hW2, ← HSW.out] at O2
      have HO3 := Lib.hid O2
      have HB3a : Below n₀ w W2 := by
        rw [hW2]
        refine Below.setCell (p := ⟨g, j * 2 + 1, none⟩) (Below.setCell (p := ⟨g, j * 2, none⟩) ?_ hg0 _) hg0 _
        rw [hW1]
        refine Below.setCell (p := ⟨g, k * 2 + 1, none⟩) (Below.setCell (p := ⟨g, k * 2, none⟩) ?_ hg0 _) hg0 _
        rw [hW0]; exact HB.out.1.drew
      have HB3b : w.grownBy W2 (some g) := by
        rw [hW2, hW1, hW0]
        exact ((((HB.out.2.trans (grown_drew wr (some g))).trans (grown_set _ ⟨g, k * 2, none⟩ _)).trans (grown_set _ ⟨g, k * 2 + 1, none⟩ _)).trans (grown_set _ ⟨g, j * 2, none⟩ _)).trans (grown_set _ ⟨g, j * 2 + 1, none⟩ _)
      have HB3 := Lib.hid (And.intro HB3a HB3b)
      clear HB3a HB3b
      clear hW0 hW1 hW2 O0 O1 O2 hl1 hne1 HO HB C2 HSW HJ
      refine wp_region_st (by kernel_rfl) (by kernel_rfl) [14, 15, 16, 17, 18, 19, 20, 21, 22, 23, 24, 25, 26, 40, 27, 41] [.slice (some ⟨g, 0, none⟩) N c, .int .i64 (k : Int), .slice (some ⟨g, 0, none⟩) N c, .int .i64 (j : Int), .slice (some ⟨g, 0, none⟩) N c, .int .i64 (j : Int), .pointer (some ⟨g, j * 2, none⟩), .agg #[.int .i64 b1, .int .i64 b2], .slice (some ⟨g, 0, none⟩) N c, .int .i64 (k : Int), .pointer (some ⟨g, k * 2, none⟩), .agg #[.int .i64 a1, .int .i64 a2], .pointer (some ⟨g, k * 2, none⟩), undef, .pointer (some ⟨g, j * 2, none⟩), undef] (swapG 13 15 W0 W1 W2) 16 rfl rfl ⟨[u14, u15, u16, u17, u18, u19, u20, u21, u22, u23, u24, u25, u26, undef, u27, undef], by simp only [putAll, Act.put, List.setIfInBounds_toArray, List.set_cons_succ, List.set_cons_zero, List.set_nil], rfl⟩ (by rw [swapG_0 (by simp) (by simp), HW0.out]) ?steps ?fin
      case steps =>
        simp only [stSteps]
        refine ⟨?_, ?_, ?_, ?_, ?_, ?_, ?_, ?_, ?_, ?_, ?_, ?_, ?_, ?_, ?_, ?_, trivial⟩
        · rintro vs bs K hvl hbl hcl hb hw hK
          obtain ⟨x0, x1, x2, x3, x4, x5, x6, x7, x8, x9, x10, x11, x12, x13, x14, x15, rfl⟩ := len16 hvl
          have HK := Lib.hid hK
          have HW := Lib.hid hw
          have HCL := Lib.hid hcl
          have HBB := Lib.hid (And.intro hb hbl)
          clear hK hw hvl hcl hb hbl
          simp only [putAll, Act.put, List.setIfInBounds_toArray, List.set_cons_succ, List.set_cons_zero, List.set_nil]
          have fin0 := HK.out
          rw [swapG_pure (by decide) (by decide)] at fin0
          have FIN := Lib.hid fin0
          clear fin0 HW HCL HBB HK
          generalize swapG 13 15 W0 W1 W2 bs = W at *
          go_wp2_with fail
          have fin := FIN.out
          simp only [List.getD_cons_zero, putAll, Act.put, List.setIfInBounds_toArray, List.set_cons_succ, List.set_cons_zero, List.set_nil] at fin
          exact fin
        · rintro vs bs K hvl hbl hcl hb hw hK
          obtain ⟨x0, x1, x2, x3, x4, x5, x6, x7, x8, x9, x10, x11, x12, x13, x14, x15, rfl⟩ := len16 hvl
          have HK := Lib.hid hK
          have HW := Lib.hid hw
          have HCL := Lib.hid hcl
          have HBB := Lib.hid (And.intro hb hbl)
          clear hK hw hvl hcl hb hbl
          simp only [putAll, Act.put, List.setIfInBounds_toArray, List.set_cons_succ, List.set_cons_zero, List.set_nil]
          have fin0 := HK.out
          rw [swapG_pure (by decide) (by decide)] at fin0
          have FIN := Lib.hid fin0
          clear fin0 HW HCL HBB HK
          generalize swapG 13 15 W0 W1 W2 bs = W at *
          go_wp2_with fail
          have fin := FIN.out
          simp only [List.getD_cons_succ, List.getD_cons_zero, putAll, Act.put, List.setIfInBounds_toArray, List.set_cons_succ, List.set_cons_zero, List.set_nil] at fin
          exact fin
        · rintro vs bs K hvl hbl hcl hb hw hK
          obtain ⟨x0, x1, x2, x3, x4, x5, x6, x7, x8, x9, x10, x11, x12, x13, x14, x15, rfl⟩ := len16 hvl
          have HK := Lib.hid hK
          have HW := Lib.hid hw
          have HCL := Lib.hid hcl
          have HBB := Lib.hid (And.intro hb hbl)
          clear hK hw hvl hcl hb hbl
          simp only [putAll, Act.put, List.setIfInBounds_toArray, List.set_cons_succ, List.set_cons_zero, List.set_nil]
          have fin0 := HK.out
          rw [swapG_pure (by decide) (by decide)] at fin0
          have FIN := Lib.hid fin0
          clear fin0 HW HCL HBB HK
          generalize swapG 13 15 W0 W1 W2 bs = W at *
          go_wp2_with fail
          have fin := FIN.out
          simp only [List.getD_cons_succ, List.getD_cons_zero, putAll, Act.put, List.setIfInBounds_toArray, List.set_cons_succ, List.set_cons_zero, List.set_nil] at fin
          exact fin
        · rintro vs bs K hvl hbl hcl hb hw hK
          obtain ⟨x0, x1, x2, x3, x4, x5, x6, x7, x8, x9, x10, x11, x12, x13, x14, x15, rfl⟩ := len16 hvl
          have HK := Lib.hid hK
          have HW := Lib.hid hw
          have HCL := Lib.hid hcl
          have HBB := Lib.hid (And.intro hb hbl)
          clear hK hw hvl hcl hb hbl
          simp only [putAll, Act.put, List.setIfInBounds_toArray, List.set_cons_succ, List.set_cons_zero, List.set_nil]
          have fin0 := HK.out
          rw [swapG_pure (by decide) (by decide)] at fin0
          have FIN := Lib.hid fin0
          clear fin0 HW HCL HBB HK
          generalize swapG 13 15 W0 W1 W2 bs = W at *
          go_wp2_with fail
          have fin := FIN.out
          simp only [List.getD_cons_succ, List.getD_cons_zero, putAll, Act.put, List.setIfInBounds_toArray, List.set_cons_succ, List.set_cons_zero, List.set_nil] at fin
          exact fin
        · rintro vs bs K hvl hbl hcl hb hw hK
          obtain ⟨x0, x1, x2, x3, x4, x5, x6, x7, x8, x9, x10, x11, x12, x13, x14, x15, rfl⟩ := len16 hvl
          have HK := Lib.hid hK
          have HW := Lib.hid hw
          have HCL := Lib.hid hcl
          have HBB := Lib.hid (And.intro hb hbl)
          clear hK hw hvl hcl hb hbl
          simp only [putAll, Act.put, List.setIfInBounds_toArray, List.set_cons_succ, List.set_cons_zero, List.set_nil]
          have fin0 := HK.out
          rw [swapG_pure (by decide) (by decide)] at fin0
          have FIN := Lib.hid fin0
          clear fin0 HW HCL HBB HK
          generalize swapG 13 15 W0 W1 W2 bs = W at *
          go_wp2_with fail
          have fin := FIN.out
          simp only [List.getD_cons_succ, List.getD_cons_zero, putAll, Act.put, List.setIfInBounds_toArray, List.set_cons_succ, List.set_cons_zero, List.set_nil] at fin
          exact fin
        · rintro vs bs K hvl hbl hcl hb hw hK
          obtain ⟨x0, x1, x2, x3, x4, x5, x6, x7, x8, x9, x10, x11, x12, x13, x14, x15, rfl⟩ := len16 hvl
          have HK := Lib.hid hK
          have HW := Lib.hid hw
          have HCL := Lib.hid hcl
          have HBB := Lib.hid (And.intro hb hbl)
          clear hK hw hvl hcl hb hbl
          simp only [putAll, Act.put, List.setIfInBounds_toArray, List.set_cons_succ, List.set_cons_zero, List.set_nil]
          have fin0 := HK.out
          rw [swapG_pure (by decide) (by decide)] at fin0
          have FIN := Lib.hid fin0
          clear fin0 HW HCL HBB HK
          generalize swapG 13 15 W0 W1 W2 bs = W at *
          go_wp2_with fail
          have fin := FIN.out
          simp only [List.getD_cons_succ, List.getD_cons_zero, putAll, Act.put, List.setIfInBounds_toArray, List.set_cons_succ, List.set_cons_zero, List.set_nil] at fin
          exact fin
        · rintro vs bs K hvl hbl hcl hb hw hK
          obtain ⟨x0, x1, x2, x3, x4, x5, x6, x7, x8, x9, x10, x11, x12, x13, x14, x15, rfl⟩ := len16 hvl
          have HK := Lib.hid hK
          have HW := Lib.hid hw
          have HCL := Lib.hid hcl
          have HBB := Lib.hid (And.intro hb hbl)
          clear hK hw hvl hcl hb hbl
          obtain rfl : x4 = .slice (some ⟨g, 0, none⟩) N c := st_get (HW.out ⟨4, .data⟩ (by simp) rfl).2 rfl rfl
          obtain rfl : x5 = .int .i64 (j : Int) := st_get (HW.out ⟨5, .data⟩ (by simp) rfl).2 rfl rfl
          simp only [putAll, Act.put, List.setIfInBounds_toArray, List.set_cons_succ, List.set_cons_zero, List.set_nil]
          have fin0 := HK.out
          rw [swapG_pure (by decide) (by decide)] at fin0
          have FIN := Lib.hid fin0
          clear fin0 HW HCL HBB HK
          generalize swapG 13 15 W0 W1 W2 bs = W at *
          go_wp2_with fail
          have fin := FIN.out
          simp only [List.getD_cons_succ, List.getD_cons_zero, putAll, Act.put, List.setIfInBounds_toArray, List.set_cons_succ, List.set_cons_zero, List.set_nil] at fin
          exact fin
        · rintro vs bs K hvl hbl hcl hb hw hK
          obtain ⟨x0, x1, x2, x3, x4, x5, x6, x7, x8, x9, x10, x11, x12, x13, x14, x15, rfl⟩ := len16 hvl
          have HK := Lib.hid hK
          have HW := Lib.hid hw
          have HCL := Lib.hid hcl
          have HBB := Lib.hid (And.intro hb hbl)
          clear hK hw hvl hcl hb hbl
          obtain rfl : x6 = .pointer (some ⟨g, j * 2, none⟩) := st_get (HW.out ⟨6, .data⟩ (by simp) rfl).2 rfl rfl
          simp only [putAll, Act.put, List.setIfInBounds_toArray, List.set_cons_succ, List.set_cons_zero, List.set_nil]
          have n13 : bs[13]? ≠ some true := fun h => by
            have := HCL.out 13 _ rfl h ⟨7, .data⟩ (by simp) rfl
            rw [HBB.out.1] at this; cases this
          have n15 : bs[15]? ≠ some true := fun h => n13 (HCL.out 15 _ rfl h ⟨13, .chain⟩ (by simp) rfl)
          have e0 : swapG 13 15 W0 W1 W2 bs = W0 := swapG_0 n13 n15
          have fin0 := HK.out
          rw [swapG_pure (by decide) (by decide), e0] at fin0
          have FIN := Lib.hid fin0
          rw [e0]
          clear fin0 e0 n13 n15 HW HCL HBB HK
          obtain ⟨k0, k1, k2, k3⟩ := C0.out
          go_wp2_with fail
          have fin := FIN.out
          simp only [List.getD_cons_succ, List.getD_cons_zero, putAll, Act.put, List.setIfInBounds_toArray, List.set_cons_succ, List.set_cons_zero, List.set_nil] at fin
          exact fin
        · rintro vs bs K hvl hbl hcl hb hw hK
          obtain ⟨x0, x1, x2, x3, x4, x5, x6, x7, x8, x9, x10, x11, x12, x13, x14, x15, rfl⟩ := len16 hvl
          have HK := Lib.hid hK
          have HW := Lib.hid hw
          have HCL := Lib.hid hcl
          have HBB := Lib.hid (And.intro hb hbl)
          clear hK hw hvl hcl hb hbl
          simp only [putAll, Act.put, List.setIfInBounds_toArray, List.set_cons_succ, List.set_cons_zero, List.set_nil]
          have fin0 := HK.out
          rw [swapG_pure (by decide) (by decide)] at fin0
          have FIN := Lib.hid fin0
          clear fin0 HW HCL HBB HK
          generalize swapG 13 15 W0 W1 W2 bs = W at *
          go_wp2_with fail
          have fin := FIN.out
          simp only [List.getD_cons_succ, List.getD_cons_zero, putAll, Act.put, List.setIfInBounds_toArray, List.set_cons_succ, List.set_cons_zero, List.set_nil] at fin
          exact fin
        · rintro vs bs K hvl hbl hcl hb hw hK
          obtain ⟨x0, x1, x2, x3, x4, x5, x6, x7, x8, x9, x10, x11, x12, x13, x14, x15, rfl⟩ := len16 hvl
          have HK := Lib.hid hK
          have HW := Lib.hid hw
          have HCL := Lib.hid hcl
          have HBB := Lib.hid (And.intro hb hbl)
          clear hK hw hvl hcl hb hbl
          simp only [putAll, Act.put, List.setIfInBounds_toArray, List.set_cons_succ, List.set_cons_zero, List.set_nil]
          have fin0 := HK.out
          rw [swapG_pure (by decide) (by decide)] at fin0
          have FIN := Lib.hid fin0
          clear fin0 HW HCL HBB HK
          generalize swapG 13 15 W0 W1 W2 bs = W at *
          go_wp2_with fail
          have fin := FIN.out
          simp only [List.getD_cons_succ, List.getD_cons_zero, putAll, Act.put, List.setIfInBounds_toArray, List.set_cons_succ, List.set_cons_zero, List.set_nil] at fin
          exact fin
        · rintro vs bs K hvl hbl hcl hb hw hK
          obtain ⟨x0, x1, x2, x3, x4, x5, x6, x7, x8, x9, x10, x11, x12, x13, x14, x15, rfl⟩ := len16 hvl
          have HK := Lib.hid hK
          have HW := Lib.hid hw
          have HCL := Lib.hid hcl
          have HBB := Lib.hid (And.intro hb hbl)
          clear hK hw hvl hcl hb hbl
          obtain rfl : x8 = .slice (some ⟨g, 0, none⟩) N c := st_get (HW.out ⟨8, .data⟩ (by simp) rfl).2 rfl rfl
          obtain rfl : x9 = .int .i64 (k : Int) := st_get (HW.out ⟨9, .data⟩ (by simp) rfl).2 rfl rfl
          simp only [putAll, Act.put, List.setIfInBounds_toArray, List.set_cons_succ, List.set_cons_zero, List.set_nil]
          have fin0 := HK.out
          rw [swapG_pure (by decide) (by decide)] at fin0
          have FIN := Lib.hid fin0
          clear fin0 HW HCL HBB HK
          generalize swapG 13 15 W0 W1 W2 bs = W at *
          go_wp2_with fail
          have fin := FIN.out
          simp only [List.getD_cons_succ, List.getD_cons_zero, putAll, Act.put, List.setIfInBounds_toArray, List.set_cons_succ, List.set_cons_zero, List.set_nil] at fin
          exact fin
        · rintro vs bs K hvl hbl hcl hb hw hK
          obtain ⟨x0, x1, x2, x3, x4, x5, x6, x7, x8, x9, x10, x11, x12, x13, x14, x15, rfl⟩ := len16 hvl
          have HK := Lib.hid hK
          have HW := Lib.hid hw
          have HCL := Lib.hid hcl
          have HBB := Lib.hid (And.intro hb hbl)
          clear hK hw hvl hcl hb hbl
          obtain rfl : x10 = .pointer (some ⟨g, k * 2, none⟩) := st_get (HW.out ⟨10, .data⟩ (by simp) rfl).2 rfl rfl
          simp only [putAll, Act.put, List.setIfInBounds_toArray, List.set_cons_succ, List.set_cons_zero, List.set_nil]
          have n13 : bs[13]? ≠ some true := fun h => by
            have := HCL.out 13 _ rfl h ⟨11, .phase⟩ (by simp) rfl
            rw [HBB.out.1] at this; cases this
          have n15 : bs[15]? ≠ some true := fun h => n13 (HCL.out 15 _ rfl h ⟨13, .chain⟩ (by simp) rfl)
          have e0 : swapG 13 15 W0 W1 W2 bs = W0 := swapG_0 n13 n15
          have fin0 := HK.out
          rw [swapG_pure (by decide) (by decide), e0] at fin0
          have FIN := Lib.hid fin0
          rw [e0]
          clear fin0 e0 n13 n15 HW HCL HBB HK
          obtain ⟨k0, k1, k2, k3⟩ := C0.out
          go_wp2_with fail
          have fin := FIN.out
          simp only [List.getD_cons_succ, List.getD_cons_zero, putAll, Act.put, List.setIfInBounds_toArray, List.set_cons_succ, List.set_cons_zero, List.set_nil] at fin
          exact fin
        · rintro vs bs K hvl hbl hcl hb hw hK
          obtain ⟨x0, x1, x2, x3, x4, x5, x6, x7, x8, x9, x10, x11, x12, x13, x14, x15, rfl⟩ := len16 hvl
          have HK := Lib.hid hK
          have HW := Lib.hid hw
          have HCL := Lib.hid hcl
          have HBB := Lib.hid (And.intro hb hbl)
          clear hK hw hvl hcl hb hbl
          obtain rfl : x0 = .slice (some ⟨g, 0, none⟩) N c := st_get (HW.out ⟨0, .data⟩ (by simp) rfl).2 rfl rfl
          obtain rfl : x1 = .int .i64 (k : Int) := st_get (HW.out ⟨1, .data⟩ (by simp) rfl).2 rfl rfl
          simp only [putAll, Act.put, List.setIfInBounds_toArray, List.set_cons_succ, List.set_cons_zero, List.set_nil]
          have fin0 := HK.out
          rw [swapG_pure (by decide) (by decide)] at fin0
          have FIN := Lib.hid fin0
          clear fin0 HW HCL HBB HK
          generalize swapG 13 15 W0 W1 W2 bs = W at *
          go_wp2_with fail
          have fin := FIN.out
          simp only [List.getD_cons_succ, List.getD_cons_zero, putAll, Act.put, List.setIfInBounds_toArray, List.set_cons_succ, List.set_cons_zero, List.set_nil] at fin
          exact fin
        · rintro vs bs K hvl hbl hcl hb hw hK
          obtain ⟨x0, x1, x2, x3, x4, x5, x6, x7, x8, x9, x10, x11, x12, x13, x14, x15, rfl⟩ := len16 hvl
          have HK := Lib.hid hK
          have HW := Lib.hid hw
          have HCL := Lib.hid hcl
          have HBB := Lib.hid (And.intro hb hbl)
          clear hK hw hvl hcl hb hbl
          obtain rfl : x12 = .pointer (some ⟨g, k * 2, none⟩) := st_get (HW.out ⟨12, .data⟩ (by simp) rfl).2 rfl rfl
          obtain rfl : x7 = .agg #[.int .i64 b1, .int .i64 b2] := st_get (HW.out ⟨7, .data⟩ (by simp) rfl).2 rfl rfl
          simp only [putAll, Act.put, List.setIfInBounds_toArray, List.set_cons_succ, List.set_cons_zero, List.set_nil]
          have n13 : bs[13]? ≠ some true := fun h => by rw [HBB.out.1] at h; cases h
          have n15 : bs[15]? ≠ some true := fun h => n13 (HCL.out 15 _ rfl h ⟨13, .chain⟩ (by simp) rfl)
          have e0 : swapG 13 15 W0 W1 W2 bs = W0 := swapG_0 n13 n15
          have fin0 := HK.out
          rw [swapG_1 (by rw [List.getElem?_set_self (by rw [HBB.out.2]; omega)]) (by rw [List.getElem?_set_ne (by decide)]; exact n15), HW1.out] at fin0
          have FIN := Lib.hid fin0
          rw [e0]
          clear fin0 e0 n13 n15 HW HCL HBB HK
          obtain ⟨k0, k1, k2, k3⟩ := C0.out
          have f0 := FZ0.out (k * 2)
          have f1 := FZ0.out (k * 2 + 1)
          go_wp2_with fail
          have fin := FIN.out
          simp only [List.getD_cons_succ, List.getD_cons_zero, putAll, Act.put, List.setIfInBounds_toArray, List.set_cons_succ, List.set_cons_zero, List.set_nil] at fin
          exact fin
        · rintro vs bs K hvl hbl hcl hb hw hK
          obtain ⟨x0, x1, x2, x3, x4, x5, x6, x7, x8, x9, x10, x11, x12, x13, x14, x15, rfl⟩ := len16 hvl
          have HK := Lib.hid hK
          have HW := Lib.hid hw
          have HCL := Lib.hid hcl
          have HBB := Lib.hid (And.intro hb hbl)
          clear hK hw hvl hcl hb hbl
          obtain rfl : x2 = .slice (some ⟨g, 0, none⟩) N c := st_get (HW.out ⟨2, .data⟩ (by simp) rfl).2 rfl rfl
          obtain rfl : x3 = .int .i64 (j : Int) := st_get (HW.out ⟨3, .data⟩ (by simp) rfl).2 rfl rfl
          simp only [putAll, Act.put, List.setIfInBounds_toArray, List.set_cons_succ, List.set_cons_zero, List.set_nil]
          have fin0 := HK.out
          rw [swapG_pure (by decide) (by decide)] at fin0
          have FIN := Lib.hid fin0
          clear fin0 HW HCL HBB HK
          generalize swapG 13 15 W0 W1 W2 bs = W at *
          go_wp2_with fail
          have fin := FIN.out
          simp only [List.getD_cons_succ, List.getD_cons_zero, putAll, Act.put, List.setIfInBounds_toArray, List.set_cons_succ, List.set_cons_zero, List.set_nil] at fin
          exact fin
        · rintro vs bs K hvl hbl hcl hb hw hK
          obtain ⟨x0, x1, x2, x3, x4, x5, x6, x7, x8, x9, x10, x11, x12, x13, x14, x15, rfl⟩ := len16 hvl
          have HK := Lib.hid hK
          have HW := Lib.hid hw
          have HCL := Lib.hid hcl
          have HBB := Lib.hid (And.intro hb hbl)
          clear hK hw hvl hcl hb hbl
          obtain rfl : x14 = .pointer (some ⟨g, j * 2, none⟩) := st_get (HW.out ⟨14, .data⟩ (by simp) rfl).2 rfl rfl
          obtain rfl : x11 = .agg #[.int .i64 a1, .int .i64 a2] := st_get (HW.out ⟨11, .data⟩ (by simp) rfl).2 rfl rfl
          simp only [putAll, Act.put, List.setIfInBounds_toArray, List.set_cons_succ, List.set_cons_zero, List.set_nil]
          have p13 : bs[13]? = some true := (HW.out ⟨13, .chain⟩ (by simp) rfl).1
          have n15 : bs[15]? ≠ some true := fun h => by rw [HBB.out.1] at h; cases h
          have e0 : swapG 13 15 W0 W1 W2 bs = W1 := swapG_1 p13 n15
          have fin0 := HK.out
          rw [swapG_2 (by rw [List.getElem?_set_self (by rw [HBB.out.2]; omega)]), HW2.out] at fin0
          have FIN := Lib.hid fin0
          rw [e0]
          clear fin0 e0 p13 n15 HW HCL HBB HK
          obtain ⟨⟨y0, k0⟩, ⟨y1, k1⟩⟩ := C1.out
          have f0 := FZ1.out (j * 2)
          have f1 := FZ1.out (j * 2 + 1)
          go_wp2_with fail
          have fin := FIN.out
          simp only [List.getD_cons_succ, List.getD_cons_zero, putAll, Act.put, List.setIfInBounds_toArray, List.set_cons_succ, List.set_cons_zero, List.set_nil] at fin
          exact fin
      case fin =>
        rw [swapG_2 (by simp)]
        simp only [putAll, Act.put, List.setIfInBounds_toArray, List.set_cons_succ, List.set_cons_zero, List.set_nil]
        go_wp2_with fail
        refine ⟨⟨k + 1, _, by simp, by rw [EN.out], by omega, HSTP, HO3, HB3⟩, ?_⟩
        simp [intOf]; omega
    · have hd : decide ((k : Int) < (N : Int) - 1 - (k : Int)) = false := decide_eq_false (by omega)
      have HE := Lib.hid (HS.out.stop (by rw [HN.out]; omega) (by rw [HN.out]; omega))
      go_wp2_with fail
      go_end0
      exact ⟨⟨_, rfl⟩, by rw [← HE.out]; exact HO.out, HB.out.1, HB.out.2⟩
theorem flatP_flat : ∀ ps : List (Int × Int), flatP ps = flat ps
  | [] => rfl
  | p :: ps => by
    have h := flatP_flat ps
    unfold flatP at h ⊢
    rw [List.flatMap_cons, h, flat]; rfl
end Go.Proofs.Ytlamppplnojpbaa
