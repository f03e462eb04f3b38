import Derived.Test.YtlemipnplgbckaaProg
import Derived.Test.YtlemipnplgbckaaRows
import Derived.Laws.AppendOwn
import Derived.ChangeKeysEq
import Derived.Maps.RangeWalk
import Derived.Maps.OwnIn
import Derived.Maps.AppendAt
import Derived.RangeFuncNested
import Derived.RangeFuncBound
import Derived.RangeFuncCalls
import Derived.RangeFuncLeaves
import Derived.Shelf.Abstract
import Derived.Shelf.RegionOpen
import Derived.WalkKit
import Derived.WalkMore
import Derived.OwnWalkIn
import Derived.TacticsInMore
import Derived.LoopNIn
import Derived.LoopIn
import Derived.WalkSpells
import Derived.WalkLawsBesides
import Derived.BigQuiet
import Derived.Deep.QuietTactic
import Derived.Lib.Hide
import Derived.Deep.RegionHeld3
import Derived.StillTailTactics
import Derived.Deep.LoopGhost
import Derived.Maps.OwnSet
import Derived.Lib.IndexAny
import Derived.Sort.QuietThIn
import Derived.Sort.QuietTacIn
import Derived.Sort.BigQuietIn
import Derived.Laws.OwnMore
import Derived.DeepKeys4
import Derived.Maps.Views
import Derived.Maps.OwnOps
import Derived.Laws.OwnMore
import Derived.Deep.DeepCutAuto
import Derived.ChangeKeysEq
namespace Go.Proofs.Ytlemipnplgbckaa
def Bd (B x : Int) : Prop := -B ≤ x ∧ x ≤ B
theorem Bd.mono {B C x : Int} (h : Bd B x) (hc : B ≤ C) : Bd C x := ⟨by have := h.1; omega, by have := h.2; omega⟩
theorem Bd.add {B C x y : Int} (h : Bd B x) (k : Bd C y) : Bd (B + C) (x + y) := by
  unfold Bd at *; omega
theorem Bd.sub {B C x y : Int} (h : Bd B x) (k : Bd C y) : Bd (B + C) (x - y) := by
  unfold Bd at *; omega
theorem Bd.neg {B x : Int} (h : Bd B x) : Bd B (-x) := by
  unfold Bd at *; omega
theorem Bd.abs {B x : Int} : Bd B x ↔ (x.natAbs : Int) ≤ B := by unfold Bd; omega
theorem Bd.mul {B C x y : Int} (h : Bd B x) (k : Bd C y) : Bd (B * C) (x * y) := by
  rw [Bd.abs] at *
  rw [Int.natAbs_mul, Int.natCast_mul]
  exact Int.mul_le_mul h k (by omega) (by omega)
theorem Bd.tdiv {B x g : Int} (h : Bd B x) : Bd B (x.tdiv g) := by
  rw [Bd.abs] at *
  have : (x.tdiv g).natAbs ≤ x.natAbs := by
    rw [Int.natAbs_tdiv]; exact Nat.div_le_self _ _
  omega
open Go.RowKit Go.Shelf
attribute [local go_sem] Oper.semAt_some
theorem i64_of (x : Int) (h : -4611686018427387904 ≤ x) (h' : x ≤ 4611686018427387903) : IntKind.i64.wrap x = x :=
  IntWalk.i64_in _ (by omega)
theorem i64_bd {x B : Int} (h : Bd B x) (hB : B ≤ 4611686018427387903) : IntKind.i64.wrap x = x := by
  unfold Bd at h; exact i64_of x (by omega) (by omega)
theorem ret_bool {a b : Bool} (h : a = b) : Ending.returned (.bool a) = .returned (.bool b) := by rw [h]
theorem ret_int {k : IntKind} {a b : Int} (h : a = b) : Ending.returned (.int k a) = .returned (.int k b) := by rw [h]
theorem drewN_drewN (w : World) (a b : Nat) : (w.drewN a).drewN b = w.drewN (a + b) := by
  unfold World.drewN; simp [Nat.add_assoc]
theorem drew_drewN (w : World) (a : Nat) : (w.drewN a).drew = w.drewN (a + 1) := by
  unfold World.drewN World.drew; simp [Nat.add_assoc]
theorem below_at {B : Nat} {w w' : World} (hb : Below B w w') {b o : Nat} {v : Value} (hg : b < B) (h : w.cell? ⟨b, o, none⟩ = some v) : w'.cell? ⟨b, o, none⟩ = some v := (hb.cell (p := ⟨b, o, none⟩) hg).trans h
theorem Below.andThen {B : Nat} {w W W' : World} (h : Below B w W) (h' : Below W.heap.size W W') (hB : B ≤ w.heap.size) : Below B w W' :=
  h.trans (h'.mono (Nat.le_trans hB h.size))
theorem Below.al {B : Nat} {w W : World} (h : Below B w W) (hB : B ≤ w.heap.size) (o : Obj) : Below B w (W.alloc o) := h.alloc (Nat.le_trans hB h.size) _
theorem cell_al (w : World) (cs : Array Value) (t : TypeId) (b o : Nat) : (w.alloc (.cells cs t)).cell? ⟨b, o, none⟩ = if b = w.heap.size then cs[o]? else w.cell? ⟨b, o, none⟩ := by
  by_cases h : b = w.heap.size
  · subst h; rw [if_pos rfl, cell_of_row _ _ _ cs t (0, 0) (heap_alloc_new w _)]
  · rw [if_neg h]
    exact World.cell?_of_block (w := w) (a := ⟨b, o, none⟩) (by show (w.heap.push _)[b]? = _; rw [Array.getElem?_push, if_neg h])
theorem frozen_al (w : World) (cs : Array Value) (t : TypeId) (b o : Nat) : (w.alloc (.cells cs t)).frozen? ⟨b, o, none⟩ = if b = w.heap.size then false else w.frozen? ⟨b, o, none⟩ := by
  by_cases h : b = w.heap.size
  · subst h; rw [if_pos rfl, frozen_of_row _ _ _ cs t (heap_alloc_new w _)]
  · rw [if_neg h]
    exact World.frozen?_of_block (w := w) (a := ⟨b, o, none⟩) (by show (w.heap.push _)[b]? = _; rw [Array.getElem?_push, if_neg h])
theorem size_al (w : World) (o : Obj) : (w.alloc o).heap.size = w.heap.size + 1 := by simp

def Row (w : World) (g : Nat) (E : TypeId) (vs : List Value) : Prop := w.heap[g]? = some (.cells vs.toArray E (0, 0))
theorem Row.cell {w : World} {g : Nat} {E : TypeId} {vs : List Value} (h : Row w g E vs) (i : Nat) : w.cell? ⟨g, i, none⟩ = vs[i]? := by
  rw [cell_of_row w g i _ _ _ h]; simp
theorem Row.lt {w : World} {g : Nat} {E : TypeId} {vs : List Value} (h : Row w g E vs) : g < w.heap.size :=
  (Array.getElem?_eq_some_iff.1 h).1
theorem Row.below {B : Nat} {w w' : World} {g : Nat} {E : TypeId} {vs : List Value} (h : Row w g E vs) (hb : Below B w w') (hg : g < B) : Row w' g E vs := by
  unfold Row; rw [hb.block g hg]; exact h
theorem Row.new (w : World) (E : TypeId) (vs : List Value) : Row (w.alloc (.cells vs.toArray E)) w.heap.size E vs :=
  heap_alloc_new w _

def encI (x : Int) : Value := .int .i64 x
structure IntsAt (w : World) (b o : Nat) (zs : List Int) : Prop where
  lt : zs = [] ∨ b < w.heap.size
  at_ : ∀ i (h : i < zs.length), w.cell? ⟨b, o + i, none⟩ = some (.int .i64 zs[i])

theorem IntsAt.below {B : Nat} {w w' : World} {b o : Nat} {zs : List Int} (h : IntsAt w b o zs) (hb : Below B w w') (hB : b < B) : IntsAt w' b o zs :=
  ⟨h.lt.imp id (fun x => Nat.lt_of_lt_of_le x hb.size), fun i hi => below_at hb hB (h.at_ i hi)⟩

/-- a world that holds all that w holds -/
structure Kl (w : World) where
  W : World
  h : Below w.heap.size w W

theorem wp_region_below {P : Program} {id : Nat} {Q : Exit → Act → World → Prop} {a : Act} {w : World} {l : List Oper} (hm : P.follows .mixedOrders = true) (hB : Region.lexB .any l.toArray = true)
    (h : wpQuiet P l.toArray (fun w' => ∃ n : Kl w, w' = n.W) (fun a' => ∀ w', (∃ n : Kl w, w' = n.W) → Q .normal a' w') l a) : (Code.region id l.toArray true).wp P Q a w :=
  wp_region_quiet (C := fun w' => ∃ n : Kl w, w' = n.W) hm hB ⟨⟨w.drew, (Below.refl _ _).drew⟩, rfl⟩ (by simpa using h)
theorem Kl.call {P : Program} {f : FuncId} {args : Array Value} {w : World} {x : Kl w} {v : Value}
    (h : Calls P f args x.W fun e w' => e = .returned v ∧ Below x.W.heap.size x.W w') : Calls P f args x.W fun e w'' => e = .returned v ∧ ∃ n : Kl w, w'' = n.W :=
  h.mono fun _ w' ⟨he, hb⟩ => ⟨he, ⟨w', Below.andThen x.h hb (Nat.le_refl _)⟩, rfl⟩
theorem Kl.cell {w : World} {b o : Nat} {v : Value} (hb : b < w.heap.size) (h : w.cell? ⟨b, o, none⟩ = some v) (x : Kl w) : x.W.cell? ⟨b, o, none⟩ = some v := below_at x.h hb h
instance (w : World) : Nonempty (Kl w) := ⟨⟨w, Below.refl _ _⟩⟩
theorem filter_set : ∀ (bs : List Bool) (j : Nat), bs[j]? = some false → ((bs.set j true).filter (! ·)).length + 1 = (bs.filter (! ·)).length
  | [], j, h => by simp at h
  | b :: bs, 0, h => by simp at h; subst h; simp
  | b :: bs, j + 1, h => by
    have := filter_set bs j (by simpa using h)
    cases b <;> simp at this ⊢ <;> omega
def SlI (w : World) (v : Value) (zs : List Int) : Prop := ∃ a c, v = .slice a zs.length c ∧ zs.length ≤ c ∧ (zs = [] ∨ ∃ b o, a = some ⟨b, o, none⟩ ∧ b < w.heap.size ∧ IntsAt w b o zs)
theorem SlI.grow {w w' : World} {v : Value} {zs : List Int} (h : SlI w v zs) (hb : Below w.heap.size w w') : SlI w' v zs := by
  obtain ⟨a, c, rfl, hc, h⟩ := h
  refine ⟨a, c, rfl, hc, h.imp id ?_⟩
  rintro ⟨b, o, rfl, hl, hi⟩
  exact ⟨b, o, rfl, Nat.lt_of_lt_of_le hl hb.size, hi.below hb hl⟩
theorem getD_lt {zs : List Int} {i : Nat} (h : i < zs.length) : zs.getD i 0 = zs[i] := by simp [List.getD, h]
def aggI (fs : List Int) : Value := .agg (fs.map encI).toArray
theorem Row.set {w : World} {g : Nat} {E : TypeId} {vs : List Value} (h : Row w g E vs) (i : Nat) (v : Value) : Row (w.setCell ⟨g, i, none⟩ v) g E (vs.set i v) := by
  unfold Row
  have := heap_setCell_same w g i vs.toArray E v h
  rw [this]; simp
theorem setRow_ne (W : World) (g : Nat) (cs : Array Value) (k : Nat) (hk : k ≠ g) : (W.setRow g cs).heap[k]? = W.heap[k]? := by
  simp only [World.setRow, Array.getElem?_modify]
  rw [if_neg (by omega)]
theorem getI (F : List Int) (i : Nat) (h : i < F.length) : (F.map encI)[i]? = some (.int .i64 (F.getD i 0)) := by
  rw [List.getElem?_map, List.getElem?_eq_getElem h]; simp [encI, List.getD, h]
theorem Row.other {W : World} {g g' : Nat} {E : TypeId} {vs : List Value} (h : Row W g E vs) (i : Nat) (v : Value) (hne : g ≠ g') : Row (W.setCell ⟨g', i, none⟩ v) g E vs := by
  unfold Row; rw [Below.heap_setCell _ _ _ _ hne]; exact h
section
variable {F : Fence} {n : Nat} {P : Program} {Q : Exit → Act → World → Prop}
theorem uponIn_then {o : Oper} {a : Act} {w : World} {next K : Act → World → Prop} (h : o.wpIn F n P a w next (Exit.then K Q)) : o.wpIn F n P a w next Q := by
  unfold Oper.wpIn at *
  refine ⟨h.1, ?_⟩
  have h := h.2
  generalize (o.semAt F.round a.eval).run P w = r at *
  cases r with
  | ok x w' => cases x <;> exact h
  | halt x w' => cases x <;> exact h
theorem getD_toArray (l : List Bool) (j : Nat) (d : Bool) : l.toArray.getD j d = l[j]?.getD d := by
  simp [Array.getD_eq_getD_getElem?]
/-- each operation waits for earlier ones alone -/
def waitsB (l : List Oper) : Bool := (List.range l.length).all fun i => ((l[i]?).map fun o => o.after.all fun e => decide (e.on < i)).getD true
def noGuardB (l : List Oper) : Bool := l.all fun o => o.guard.isNone
def onB (l : List Oper) (i j : Nat) : Bool := ((l[i]?).map fun o => o.after.any fun e => e.on == j && Region.binds .any e).getD false
/-- each of the first m operations is waited for by a later one, the m-th included -/
def feedsB (l : List Oper) (m : Nat) : Bool := (List.range m).all fun j => (List.range (m + 1)).any fun i => decide (j < i) && onB l i j
/-- behind the m-th each waits for the one ahead of it -/
def chainB (l : List Oper) (m : Nat) : Bool := (List.range l.length).all fun i => decide (i ≤ m) || onB l i (i - 1)
theorem onB_spec {l : List Oper} {i j : Nat} (h : onB l i j = true) {o : Oper} (ho : l[i]? = some o) : ∃ e ∈ o.after, Region.binds .any e = true ∧ e.on = j := by
  unfold onB at h
  rw [ho] at h
  simp only [Option.map_some, Option.getD_some, Array.any_eq_true'] at h
  obtain ⟨e, he, h2⟩ := h
  simp only [Bool.and_eq_true, beq_iff_eq] at h2
  exact ⟨e, he, h2.2, h2.1⟩
theorem wpOpIn_of_cut {l : List Oper} {m i : Nat} {K K' K2 : Act → World → Prop} {a : Act} {w : World} (hg : noGuardB l = true) (hi : i < m) (hm : m ≤ l.length) (hK : ∀ a w, K a w → K' a w)
    (h : wpOpIn F n P (l.take m).toArray (Exit.then K2 Q) i K a w) : wpOpIn F n P l.toArray Q i K' a w := by
  have ho : l[i]? = some l[i] := List.getElem?_eq_getElem (by omega)
  have h1 : (l.take m).toArray[i]? = some l[i] := by simp [hi]
  have h2 : l.toArray[i]? = some l[i] := by simp
  have hg1 : (l[i]'(by omega)).guard = none := by
    unfold noGuardB at hg
    rw [List.all_eq_true] at hg
    have := hg _ (List.getElem_mem (show i < l.length by omega))
    simpa using this
  unfold wpOpIn at *
  simp only [h1] at h
  simp only [h2]
  simp only [Region.wanted, hg1, if_true] at h ⊢
  exact Oper.wpIn_mono hK (uponIn_then h)
/-- the operations behind the m-th come one after the other -/
theorem wpAnyIn_tail {l : List Oper} (hd : waitsB l = true) (m : Nat) (hc : chainB l m = true) : ∀ (r k : Nat) (a : Act) (w : World), m ≤ k → k + r = l.length →
    wpOpsIn F n P l.toArray Q (List.range' k r) a w → wpAnyIn F n P .any l.toArray Q r (List.replicate k true ++ List.replicate r false).toArray a w
  | 0, k, a, w, hm, hk, h => by
    have h' : Q .normal a w := by simpa [wpOpsIn] using h
    refine ⟨?_, h'⟩
    cases hr : Region.ready .any l.toArray (List.replicate k true ++ List.replicate 0 false).toArray with
    | nil => rfl
    | cons j js =>
      have hj : j ∈ Region.ready .any l.toArray (List.replicate k true ++ List.replicate 0 false).toArray := by rw [hr]; exact List.mem_cons_self
      obtain ⟨h1, o, h2, _⟩ := mem_ready.1 hj
      have hlt : j < l.length := by have := (List.getElem?_eq_some_iff.1 (by simpa using h2 : l[j]? = some o)).1; exact this
      simp [Array.getD, show j < k by omega] at h1
  | r + 1, k, a, w, hm, hk, h => by
    have hget : ∀ j d, (List.replicate k true ++ List.replicate (r + 1) false).toArray.getD j d = if j < k then true else if j < l.length then false else d := fun j d => by
      rw [getD_toArray, List.getElem?_append, List.length_replicate, List.getElem?_replicate, List.getElem?_replicate]
      by_cases h1 : j < k
      · simp [h1]
      · by_cases h2 : j < l.length
        · simp [h1, h2, show j - k < r + 1 by omega]
        · simp [h1, h2, show ¬ j - k < r + 1 by omega]
    have hw := hd
    unfold waitsB at hw
    rw [List.all_eq_true] at hw
    have hready : ∀ j, j ∈ Region.ready .any l.toArray (List.replicate k true ++ List.replicate (r + 1) false).toArray ↔ j = k := fun j => by
      rw [mem_ready]
      constructor
      · rintro ⟨h1, o, h2, h3⟩
        have h2' : l[j]? = some o := by simpa using h2
        have hlt := (List.getElem?_eq_some_iff.1 h2').1
        rw [hget] at h1
        have hjk : ¬ j < k := fun h => by simp [h] at h1
        false_or_by_contra
        rename_i hne
        have hch := hc
        unfold chainB at hch
        rw [List.all_eq_true] at hch
        have := hch j (List.mem_range.2 hlt)
        simp only [Bool.or_eq_true, decide_eq_true_eq] at this
        rcases this with h | h
        · omega
        · obtain ⟨e, he, hb, hon⟩ := onB_spec h h2'
          have := h3 e he hb
          rw [hget, hon] at this
          have h5 : ¬ j - 1 < k := by omega
          simp [h5] at this
      · rintro rfl
        have hlt : j < l.length := by omega
        refine ⟨by rw [hget]; simp [hlt], l[j], by simp [hlt], fun e he hb => ?_⟩
        have h1 := hw j (List.mem_range.2 hlt)
        rw [List.getElem?_eq_getElem hlt] at h1
        simp only [Option.map_some, Option.getD_some] at h1
        have h2 := of_decide_eq_true ((Array.all_eq_true'.1 h1) e he)
        rw [hget]; simp [h2]
    refine ⟨fun hr => ?_, fun j hj => ?_⟩
    · have := (hready k).2 rfl
      rw [hr] at this; cases this
    · obtain rfl := (hready j).1 hj
      rw [List.range'_succ, wpOpsIn_cons] at h
      refine wpOpIn_mono (fun a' w' h' => ?_) h
      have := wpAnyIn_tail hd m hc r (j + 1) a' w' (by omega) (by omega) h'
      have e : (List.replicate j true ++ List.replicate (r + 1) false).toArray.setIfInBounds j true = (List.replicate (j + 1) true ++ List.replicate r false).toArray := by
        rw [List.setIfInBounds_toArray, List.set_append, if_neg (by simp), List.replicate_succ (n := r)]
        simp [List.replicate_succ']
      rw [e]; exact this
set_option maxHeartbeats 1600000 in
/-- **a region whose first m operations all come ahead of the rest, which come one after the other** -/
theorem wpAnyIn_cut {l : List Oper} (m : Nat) (hm : m < l.length) (hg : noGuardB l = true) (hd : waitsB l = true) (hf : feedsB l m = true) (hc : chainB l m = true) :
    ∀ (fuel : Nat) (bs : List Bool) (a : Act) (w : World), bs.length = m → (bs.filter (! ·)).length ≤ fuel →
      (∀ i o, l[i]? = some o → bs.getD i false = true → ∀ e ∈ o.after, Region.binds .any e = true → bs.getD e.on false = true) →
      wpAnyIn F n P .any (l.take m).toArray (Exit.then (wpOpsIn F n P l.toArray Q (List.range' m (l.length - m))) Q) fuel bs.toArray a w →
      wpAnyIn F n P .any l.toArray Q (fuel + (l.length - m)) (bs ++ List.replicate (l.length - m) false).toArray a w := by
  have hw := hd
  unfold waitsB at hw
  rw [List.all_eq_true] at hw
  -- what waits for what
  have hwait : ∀ i (hi : i < l.length), ∀ e ∈ l[i].after, e.on < i := fun i hi e he => by
    have h1 := hw i (List.mem_range.2 hi)
    rw [List.getElem?_eq_getElem hi] at h1
    simp only [Option.map_some, Option.getD_some] at h1
    exact of_decide_eq_true ((Array.all_eq_true'.1 h1) e he)
  have hfeed : ∀ j, j < m → ∃ i, j < i ∧ i ≤ m ∧ ∃ o, l[i]? = some o ∧ ∃ e ∈ o.after, Region.binds .any e = true ∧ e.on = j := fun j hj => by
    have h1 := hf
    unfold feedsB at h1
    rw [List.all_eq_true] at h1
    have h2 := h1 j (List.mem_range.2 hj)
    rw [List.any_eq_true] at h2
    obtain ⟨i, hi, h3⟩ := h2
    simp only [Bool.and_eq_true, decide_eq_true_eq] at h3
    have hi2 := List.mem_range.1 hi
    exact ⟨i, h3.1, by omega, l[i]'(by omega), List.getElem?_eq_getElem (by omega), onB_spec h3.2 (List.getElem?_eq_getElem (by omega))⟩
  have hgetD : ∀ (bs : List Bool), bs.length = m → ∀ j d, (bs ++ List.replicate (l.length - m) false).toArray.getD j d = if j < m then bs.getD j false else if j < l.length then false else d := fun bs hl j d => by
    have h0 : m + (l.length - m) = l.length := by omega
    rw [getD_toArray, List.getElem?_append, hl, List.getElem?_replicate, List.getD_eq_getElem?_getD]
    by_cases h1 : j < m
    · simp [h1, show j < bs.length by omega]
    · by_cases h2 : j < l.length
      · simp [h1, h2, show j - m < l.length - m by omega]
      · simp [h1, h2, show ¬ j - m < l.length - m by omega]
  have hgetP : ∀ (bs : List Bool), bs.length = m → ∀ j d, bs.toArray.getD j d = if j < m then bs.getD j false else d := fun bs hl j d => by
    rw [getD_toArray, List.getD_eq_getElem?_getD]
    by_cases h1 : j < m
    · simp [h1, show j < bs.length by omega]
    · simp [h1, show ¬ j < bs.length by omega]
  -- the m-th waits for all
  have hall : ∀ (bs : List Bool), bs.length = m → (∀ i o, l[i]? = some o → bs.getD i false = true → ∀ e ∈ o.after, Region.binds .any e = true → bs.getD e.on false = true) →
      (∀ e ∈ (l[m]'hm).after, Region.binds .any e = true → bs.getD e.on false = true) → bs = List.replicate m true := fun bs hl hcl hmm => by
    have key : ∀ d j, m - j ≤ d → j < m → bs.getD j false = true := by
      intro d
      induction d with
      | zero => intro j h1 h2; omega
      | succ d ih =>
        intro j h1 h2
        obtain ⟨i, h3, h4, o, ho, e, he, hb, rfl⟩ := hfeed j h2
        by_cases h5 : i = m
        · subst h5
          rw [List.getElem?_eq_getElem hm] at ho; cases ho
          exact hmm e he hb
        · exact hcl i o ho (ih i (by omega) (by omega)) e he hb
    rw [List.eq_replicate_iff]
    refine ⟨hl, fun b hb => ?_⟩
    obtain ⟨j, hj, rfl⟩ := List.getElem_of_mem hb
    have := key m j (by omega) (by omega)
    simpa [hj] using this
  -- what is ready here and there
  have hrd : ∀ (bs : List Bool), bs.length = m → ∀ j, j < m → (j ∈ Region.ready .any l.toArray (bs ++ List.replicate (l.length - m) false).toArray ↔ j ∈ Region.ready .any (l.take m).toArray bs.toArray) := fun bs hl j hj => by
    have hjl : j < l.length := by omega
    have e1 : l.toArray[j]? = some l[j] := by simp [hjl]
    have e2 : (l.take m).toArray[j]? = some l[j] := by simp [hj, hjl]
    rw [mem_ready, mem_ready, hgetD bs hl, hgetP bs hl, e1, e2]
    simp only [hj, if_true, Option.some.injEq, exists_eq_left']
    constructor
    · rintro ⟨h1, h2⟩
      refine ⟨h1, fun e he hb => ?_⟩
      have := h2 e he hb
      rw [hgetD bs hl] at this
      have h3 := hwait j hjl e he
      rw [hgetP bs hl]
      simpa [show e.on < m by omega] using this
    · rintro ⟨h1, h2⟩
      refine ⟨h1, fun e he hb => ?_⟩
      have := h2 e he hb
      rw [hgetP bs hl] at this
      have h3 := hwait j hjl e he
      rw [hgetD bs hl]
      simpa [show e.on < m by omega] using this
  have hdone : ∀ (bs : List Bool), bs.length = m → (∀ i o, l[i]? = some o → bs.getD i false = true → ∀ e ∈ o.after, Region.binds .any e = true → bs.getD e.on false = true) →
      bs ≠ List.replicate m true → ∃ j, j < m ∧ j ∈ Region.ready .any (l.take m).toArray bs.toArray := fun bs hl hcl hne => by
    have hex : ∃ b ∈ bs, (!b) = true := by
      false_or_by_contra
      rename_i hno
      refine hne (List.eq_replicate_iff.2 ⟨hl, fun b hb => ?_⟩)
      cases b with
      | true => rfl
      | false => exact absurd ⟨false, hb, rfl⟩ hno
    have hlt : bs.findIdx (! ·) < bs.length := List.findIdx_lt_length.2 hex
    have hf0 : bs[bs.findIdx (! ·)] = false := by have := List.findIdx_getElem (w := hlt); simpa using this
    have hlt2 : bs.findIdx (! ·) < l.length := by omega
    refine ⟨bs.findIdx (! ·), by omega, mem_ready.2 ⟨by rw [hgetP bs hl]; simp [show bs.findIdx (! ·) < m by omega, hlt, hf0], l[bs.findIdx (! ·)], by simp [show bs.findIdx (! ·) < m by omega, hlt2], fun e he _ => ?_⟩⟩
    have h3 := hwait _ hlt2 e he
    have h4 : e.on < bs.length := by omega
    have h5 := List.not_of_lt_findIdx h3
    rw [hgetP bs hl]
    simp [show e.on < m by omega, h4]
    simpa using h5
  -- at the end of the first part
  have hend : ∀ (fuel : Nat) (a : Act) (w : World), wpAnyIn F n P .any (l.take m).toArray (Exit.then (wpOpsIn F n P l.toArray Q (List.range' m (l.length - m))) Q) fuel (List.replicate m true).toArray a w →
      wpAnyIn F n P .any l.toArray Q (fuel + (l.length - m)) (List.replicate m true ++ List.replicate (l.length - m) false).toArray a w := fun fuel a w h => by
    have hnil : Region.ready .any (l.take m).toArray (List.replicate m true).toArray = [] := by
      cases hr : Region.ready .any (l.take m).toArray (List.replicate m true).toArray with
      | nil => rfl
      | cons j js =>
        have hj : j ∈ Region.ready .any (l.take m).toArray (List.replicate m true).toArray := by rw [hr]; exact List.mem_cons_self
        obtain ⟨h1, o, h2, _⟩ := mem_ready.1 hj
        have hlt : j < m := by
          have := (List.getElem?_eq_some_iff.1 (by simpa using h2 : (l.take m)[j]? = some o)).1
          rw [List.length_take] at this; omega
        rw [hgetP _ (by simp)] at h1
        simp [hlt] at h1
    have hQ : wpOpsIn F n P l.toArray Q (List.range' m (l.length - m)) a w := by
      cases fuel with
      | zero => exact h.2
      | succ f => exact h.1 hnil
    have := wpAnyIn_tail hd m hc (l.length - m) m a w (Nat.le_refl _) (by omega) hQ
    -- more fuel does no harm
    have more : ∀ (r d : Nat) (ls : Array Bool) (a : Act) (w : World), wpAnyIn F n P .any l.toArray Q r ls a w → wpAnyIn F n P .any l.toArray Q (d + r) ls a w := by
      intro r
      induction r with
      | zero =>
        intro d ls a w h
        cases d with
        | zero => exact h
        | succ d => exact ⟨fun _ => h.2, fun i hi => by rw [h.1] at hi; cases hi⟩
      | succ r ih =>
        intro d ls a w h
        exact ⟨h.1, fun i hi => wpOpIn_mono (fun a' w' h' => ih d _ a' w' h') (h.2 i hi)⟩
    exact more _ fuel _ _ _ this
  intro fuel
  induction fuel with
  | zero =>
    intro bs a w hl hc0 hcl h
    have hall2 : bs = List.replicate m true := by
      false_or_by_contra
      rename_i hne
      obtain ⟨j, _, hj⟩ := hdone bs hl hcl hne
      rw [h.1] at hj; cases hj
    subst hall2
    exact hend 0 a w h
  | succ fuel ih =>
    intro bs a w hl hc0 hcl h
    by_cases hall2 : bs = List.replicate m true
    · subst hall2; exact hend _ a w h
    · rw [Nat.succ_add]
      refine ⟨fun hr => ?_, fun j hj => ?_⟩
      · obtain ⟨j, hj, hj2⟩ := hdone bs hl hcl hall2
        rw [← hrd bs hl j hj, hr] at hj2; cases hj2
      · obtain ⟨h1, o, h2, h3⟩ := mem_ready.1 hj
        have h2' : l[j]? = some o := by simpa using h2
        have hjl := (List.getElem?_eq_some_iff.1 h2').1
        by_cases hjm : j < m
        · have hset : (bs ++ List.replicate (l.length - m) false).toArray.setIfInBounds j true = (bs.set j true ++ List.replicate (l.length - m) false).toArray := by
            rw [List.setIfInBounds_toArray, List.set_append, if_pos (by omega)]
          rw [hset]
          have hb : bs[j]? = some false := by
            rw [hgetD bs hl] at h1
            rw [List.getElem?_eq_getElem (by omega)]
            simp [hjm, hl] at h1
            rw [h1]
          refine wpOpIn_of_cut hg hjm (by omega) (fun a' w' h' => ?_) (h.2 j ((hrd bs hl j hjm).1 hj))
          refine ih (bs.set j true) a' w' (by simpa using hl) ?_ ?_ ?_
          · have := filter_set bs j hb; omega
          · intro i o' ho' hi e he hbe
            have hse : ∀ x, bs.getD x false = true → (bs.set j true).getD x false = true := fun x hx => by
              rw [List.getD_eq_getElem?_getD] at hx ⊢
              rw [List.getElem?_set]
              by_cases hjx : j = x
              · subst hjx
                rw [if_pos rfl, if_pos (by omega)]; rfl
              · rw [if_neg hjx]; exact hx
            by_cases hij : i = j
            · subst hij
              rw [h2'] at ho'; cases ho'
              have := h3 e he hbe
              rw [hgetD bs hl] at this
              have h5 := hwait i hjl
              rw [List.getElem?_eq_getElem hjl] at h2'; cases h2'
              have h6 := h5 e he
              exact hse _ (by simpa [show e.on < m by omega] using this)
            · refine hse _ (hcl i o' ho' ?_ e he hbe)
              rw [List.getD_eq_getElem?_getD, List.getElem?_set_ne (Ne.symm hij)] at hi
              rw [List.getD_eq_getElem?_getD]; exact hi
          · rw [List.setIfInBounds_toArray] at h'; exact h'
        · exfalso
          have hclm : ∀ e ∈ (l[m]'hm).after, Region.binds .any e = true → bs.getD e.on false = true := fun e he hb => by
            by_cases hjm2 : j = m
            · subst hjm2
              rw [List.getElem?_eq_getElem hjl] at h2'; cases h2'
              have := h3 e he hb
              rw [hgetD bs hl] at this
              have h6 := hwait j hjl e he
              simpa [h6] using this
            · have hch := hc
              unfold chainB at hch
              rw [List.all_eq_true] at hch
              have := hch j (List.mem_range.2 hjl)
              simp only [Bool.or_eq_true, decide_eq_true_eq] at this
              rcases this with h | h
              · omega
              · obtain ⟨e', he', hb', hon⟩ := onB_spec h h2'
                have := h3 e' he' hb'
                rw [hgetD bs hl, hon] at this
                simp [show ¬ j - 1 < m by omega] at this
          exact hall2 (hall bs hl hcl hclm)
/-- **A REGION THAT DRAWS ITS ORDER: its first m operations are quiet, the rest, behind all of them, comes one after the other.** -/
theorem wpIn_region_cut {id : Nat} {a : Act} {w : World} {l : List Oper} {C : World → Prop} (m : Nat) (hro : F.round = none) (hpm : P.follows .mixedOrders = true)
    (hck : (decide (m < l.length) && (noGuardB l && (waitsB l && (feedsB l m && (chainB l m && Region.lexB .any (l.take m).toArray))))) = true) (hC : C w.drew)
    (h : wpQuietIn F n P (l.take m).toArray C (fun a' => ∀ w', C w' → wpListIn F n P l.toArray Q (l.drop m) a' w') (l.take m) a) : (Code.region id l.toArray true).wpIn F n P Q a w := by
  simp only [Bool.and_eq_true, decide_eq_true_eq] at hck
  obtain ⟨hm, hg, hd, hf, hc, hB⟩ := hck
  simp only [Region.lexB, Bool.and_eq_true] at hB
  refine wpIn_region_any hpm ?_
  have hlen : (l.take m).length = m := by rw [List.length_take]; omega
  have h1 := wpAnyQIn_lex (F := F) (n := n) (C := C) (md := .any) hB.1 (l.take m) 0 (Array.replicate (l.take m).toArray.size false) a (by simp) (by simpa using hB.2) h
  have h2 := wpAnyIn_of_quiet (Q' := Exit.then (wpOpsIn F n P l.toArray Q (List.range' m (l.length - m))) Q) hro (fun a w' hw' hq => by
    show wpOpsIn F n P l.toArray Q (List.range' m (l.length - m)) a w'
    have e := wpOpsIn_eq_wpListIn (F := F) (n := n) (P := P) (Q := Q) (ops := l.toArray) (l.drop m) m (fun j => by simp)
    rw [List.length_drop] at e
    rw [e]; exact hq w' hw') _ _ _ w.drew hC h1
  have e1 : Array.replicate (l.take m).toArray.size false = (List.replicate m false).toArray := by simp [hlen]
  have e2 : (l.take m).length = m := hlen
  rw [e1, e2] at h2
  have h3 := wpAnyIn_cut m hm hg hd hf hc m (List.replicate m false) a w.drew (by simp) (by simp) (fun i o _ hi => by
    exfalso
    rw [List.getD_eq_getElem?_getD] at hi
    by_cases h : i < m <;> simp [h] at hi) h2
  have e3 : m + (l.length - m) = l.length := by omega
  have e4 : (List.replicate m false ++ List.replicate (l.length - m) false) = List.replicate l.length false := by rw [List.replicate_append_replicate, e3]
  rw [e3, e4] at h3
  simpa using h3
end

def Lasts (B : Nat) (I : World → Prop) : Prop :=
  ∀ W W' row, I W → W.grownBy W' row → (∀ r, row = some r → B ≤ r ∧ ∃ o : Obj, W.heap[r]? = some o ∧ o.isCells = false) → I W'
theorem Lasts.put {B : Nat} {I : World → Prop} (h : Lasts B I) {W : World} {l : Nat} {o : Obj} (o' : Obj) (hi : I W) (hB : B ≤ l) (hl : W.heap[l]? = some o) (ho : o.isCells = false) : I (W.putObj l o') :=
  h W _ (some l) hi (grownBy_putObj' W l o') (fun r e => by cases e; exact ⟨hB, o, hl, ho⟩)
theorem Lasts.grow {B : Nat} {I : World → Prop} (h : Lasts B I) {W W' : World} (hi : I W) (hb : Below W.heap.size W W') : I W' :=
  h W W' none hi ⟨hb.os, hb.tape, hb.output, hb.size, fun k hk _ => hb.block k hk⟩ (fun r e => by cases e)
theorem Lasts.and {B : Nat} {I I' : World → Prop} (h : Lasts B I) (h' : Lasts B I') : Lasts B (fun W => I W ∧ I' W) := fun W W' row hi hg hr => ⟨h W W' row hi.1 hg hr, h' W W' row hi.2 hg hr⟩
theorem lasts_pure (B : Nat) (p : Prop) : Lasts B (fun _ => p) := fun _ _ _ hi _ _ => hi
theorem lasts_size (B m : Nat) : Lasts B (fun W => m ≤ W.heap.size) := fun _ _ _ hi hg _ => Nat.le_trans hi hg.size
theorem lasts_below (B n₀ : Nat) (w : World) (hB : n₀ ≤ B) (hw : n₀ ≤ w.heap.size) : Lasts B (fun W => Below n₀ w W) := fun _ _ _ hi hg hr =>
  hi.grown hg (Nat.le_trans hw hi.size) (fun k e => Nat.le_trans hB (hr k e).1)
theorem lasts_row (B g : Nat) (E : TypeId) (vs : List Value) : Lasts B (fun W => Row W g E vs) := fun W W' row hi hg hr => by
  show W'.heap[g]? = _
  rw [hg.block g (Row.lt hi) (fun e => by
    obtain ⟨_, o, ho, hc⟩ := hr g e.symm
    rw [show W.heap[g]? = _ from hi] at ho; cases ho; cases hc)]
  exact hi
theorem lasts_cell (B : Nat) (a : Addr) (v : Value) : Lasts B (fun W => W.cell? a = some v) := fun _ _ _ hi hg hr => cell_kept hi hg (fun r e => (hr r e).2)
theorem Lasts.own {B : Nat} {β : Type} {I : β → World → Prop} (h : ∀ s, Lasts B (I s)) : OwnFrom B I := fun s W W' row hi hg hr => h s W W' row hi hg hr
theorem Row.kept {W W' : World} {g : Nat} {E : TypeId} {vs : List Value} {row : Option Nat} (h : Row W g E vs) (hg : W.grownBy W' row) (hne : some g ≠ row) : Row W' g E vs := by
  show W'.heap[g]? = _
  rw [hg.block g h.lt hne]
  exact h
theorem one_set (W : World) (b i : Nat) (v : Value) : W.grownBy (W.setCell ⟨b, i, none⟩ v) (some b) :=
  ⟨rfl, rfl, rfl, (KeepsWalks.setCell W _ v).size, fun k _ hk => Below.heap_setCell _ _ _ k (fun e => hk (by rw [e]))⟩
def putAll (a : Act) : List Nat → List Value → Act
  | s :: ss, v :: vs => putAll (a.put (some s) v) ss vs
  | _, _ => a

section
variable {P : Program} {Q : Exit → Act → World → Prop}
theorem upon_then {o : Oper} {a : Act} {w : World} {next K : Act → World → Prop} (h : o.wp P a w next (Exit.then K Q)) : o.wp P a w next Q := by
  unfold Oper.wp at *
  generalize (execOp a.eval o).run P w = r at *
  cases r with
  | ok x w' => cases x <;> exact h
  | halt x w' => cases x <;> exact h
theorem wpOp_of_list {ops : Array Oper} {i : Nat} {o : Oper} {K : Act → World → Prop} {a : Act} {w : World} (ho : ops[i]? = some o) (h : wpList P ops (Exit.then K Q) [o] a w) : wpOp P ops Q i K a w := by
  unfold wpOp
  simp only [ho]
  unfold wpList at h
  split
  · rename_i hw
    rw [if_pos hw] at h
    exact h.imp (fun h => upon_then h) (fun h => h)
  · rename_i hw
    rw [if_neg hw] at h; exact h
end
/-- each operation waits for earlier ones alone, of the edges that bind -/
def waitsC (l : List Oper) : Bool := (List.range l.length).all fun i => ((l[i]?).map fun o => o.after.all fun e => !Region.binds .any e || decide (e.on < i)).getD true
section
variable {P : Program} {Q : Exit → Act → World → Prop}
/-- a region whose order is open, by an invariant over what has come up -/
theorem wp_region_inv2 {id : Nat} {a : Act} {w : World} {l : List Oper} (hm : P.follows .mixedOrders = true) (hd : waitsC l = true) (I : List Bool → Act → World → Prop) (h0 : I (List.replicate l.length false) a w.drew)
    (hstep : ∀ (i : Nat) (o : Oper) (bs : List Bool) (a : Act) (w : World), l[i]? = some o → I bs a w → bs.length = l.length → bs[i]? = some false → (∀ e ∈ o.after, Region.binds .any e = true → bs.getD e.on false = true) →
      wpOp P l.toArray Q i (fun a' w' => I (bs.set i true) a' w') a w)
    (hend : ∀ a w, I (List.replicate l.length true) a w → Q .normal a w) : (Code.region id l.toArray true).wp P Q a w := by
  refine wp_region_any hm ?_
  have key : ∀ (fuel : Nat) (bs : List Bool) (a : Act) (w : World), bs.length = l.length → (bs.filter (! ·)).length ≤ fuel → I bs a w → wpAny P .any l.toArray Q fuel bs.toArray a w := by
    intro fuel
    induction fuel with
    | zero =>
      intro bs a w hl hf hI
      have hall : bs = List.replicate l.length true := by
        rw [List.eq_replicate_iff]
        refine ⟨hl, fun b hb => ?_⟩
        cases b with
        | true => rfl
        | false =>
          have : false ∈ bs.filter (! ·) := List.mem_filter.2 ⟨hb, rfl⟩
          have := List.length_pos_of_mem this; omega
      subst hall
      refine ⟨?_, hend a w hI⟩
      cases hr : Region.ready .any l.toArray (List.replicate l.length true).toArray with
      | nil => rfl
      | cons j js =>
        have hj : j ∈ Region.ready .any l.toArray (List.replicate l.length true).toArray := by rw [hr]; exact List.mem_cons_self
        obtain ⟨h1, o, h2, _⟩ := mem_ready.1 hj
        have hlt : j < l.length := by have := (List.getElem?_eq_some_iff.1 (by simpa using h2 : l[j]? = some o)).1; exact this
        simp [Array.getD, hlt] at h1
    | succ fuel ih =>
      intro bs a w hl hf hI
      have hset : ∀ (i : Nat), (bs.toArray.setIfInBounds i true) = (bs.set i true).toArray := fun i => by simp
      by_cases hall : bs = List.replicate l.length true
      · subst hall
        refine ⟨fun _ => hend a w hI, fun j hj => ?_⟩
        obtain ⟨h1, o, h2, _⟩ := mem_ready.1 hj
        have hlt : j < l.length := by have := (List.getElem?_eq_some_iff.1 (by simpa using h2 : l[j]? = some o)).1; exact this
        simp [Array.getD, hlt] at h1
      · refine ⟨fun hr => ?_, fun j hj => ?_⟩
        · exfalso
          have hex : ∃ b ∈ bs, (!b) = true := by
            false_or_by_contra
            rename_i hno
            refine hall (List.eq_replicate_iff.2 ⟨hl, fun b hb => ?_⟩)
            cases b with
            | true => rfl
            | false => exact absurd ⟨false, hb, rfl⟩ hno
          have hlt : bs.findIdx (! ·) < bs.length := List.findIdx_lt_length.2 hex
          have hf0 : bs[bs.findIdx (! ·)] = false := by have := List.findIdx_getElem (w := hlt); simpa using this
          have hlt2 : bs.findIdx (! ·) < l.length := by omega
          have hmem : bs.findIdx (! ·) ∈ Region.ready .any l.toArray bs.toArray := by
            refine mem_ready.2 ⟨by simp [Array.getD, hlt, hf0], l[bs.findIdx (! ·)], by simp [hlt2], fun e he hbd => ?_⟩
            unfold waitsC at hd
            rw [List.all_eq_true] at hd
            have h1 := hd _ (List.mem_range.2 hlt2)
            rw [List.getElem?_eq_getElem hlt2] at h1
            simp only [Option.map_some, Option.getD_some] at h1
            have h2 := (Array.all_eq_true'.1 h1) e he
            rw [hbd] at h2
            have h3 : e.on < bs.findIdx (! ·) := by simpa using h2
            have h4 : e.on < bs.length := by omega
            have h5 := List.not_of_lt_findIdx h3
            simp [Array.getD, h4]
            simpa using h5
          rw [hr] at hmem; cases hmem
        · obtain ⟨h1, o, h2, h3⟩ := mem_ready.1 hj
          have h2' : l[j]? = some o := by simpa using h2
          have hlt : j < l.length := (List.getElem?_eq_some_iff.1 h2').1
          have hb : bs[j]? = some false := by
            rw [List.getElem?_eq_getElem (by omega)]
            simp [Array.getD, show j < bs.length by omega] at h1
            rw [h1]
          refine wpOp_mono (fun a' w' h => ?_) (hstep j o bs a w h2' hI hl hb (fun e he hb => by have := h3 e he hb; rw [List.getD_eq_getElem?_getD]; simp only [Array.getD, List.size_toArray] at this; split at this <;> simp_all))
          rw [hset]
          have := filter_set bs j hb
          exact ih _ _ _ (by simpa using hl) (by omega) h
  have := key l.length (List.replicate l.length false) a w.drew (by simp) (by simp) h0
  simpa using this
/-- the same, with the slots that the region writes told apart -/
theorem wp_region_slots2 {id : Nat} {a : Act} {w : World} {l : List Oper} (hm : P.follows .mixedOrders = true) (hd : waitsC l = true) (slots : List Nat) (J : List Bool → List Value → World → Prop)
    (h0 : ∃ vs, a = putAll a slots vs ∧ J (List.replicate l.length false) vs w.drew)
    (hstep : ∀ (i : Nat) (o : Oper) (bs : List Bool) (vs : List Value) (w : World) (K : Act → World → Prop), l[i]? = some o → J bs vs w → bs.length = l.length → bs[i]? = some false → (∀ e ∈ o.after, Region.binds .any e = true → bs.getD e.on false = true) →
      (∀ vs' w', J (bs.set i true) vs' w' → K (putAll a slots vs') w') → wpOp P l.toArray Q i K (putAll a slots vs) w)
    (hend : ∀ vs w, J (List.replicate l.length true) vs w → Q .normal (putAll a slots vs) w) : (Code.region id l.toArray true).wp P Q a w := by
  refine wp_region_inv2 hm hd (fun bs a' w' => ∃ vs, a' = putAll a slots vs ∧ J bs vs w') h0 ?_ ?_
  · rintro i o bs a' w' ho ⟨vs, rfl, hJ⟩ hl hb hw
    exact hstep i o bs vs w' _ ho hJ hl hb hw (fun vs' w'' h => ⟨vs', rfl, h⟩)
  · rintro a' w' ⟨vs, rfl, hJ⟩
    exact hend vs w' hJ
end
section
variable {P : Program} {Q : Exit → Act → World → Prop}
/-- what has come up holds with what it waits for -/
def closedB (l : List Oper) (bs : List Bool) : Prop := ∀ (j : Nat) (o : Oper), l[j]? = some o → bs[j]? = some true → ∀ e ∈ o.after, Region.binds .any e = true → bs[e.on]? = some true
/-- each operation puts one value, and the world is told by what has come up -/
def stSteps (P : Program) (Q : Exit → Act → World → Prop) (l : List Oper) (a : Act) (slots : List Nat) (val : List Value) (wf : List Bool → World) (len : Nat) : List Oper → Nat → Prop
  | [], _ => True
  | o :: rest, i => (∀ (vs : List Value) (bs : List Bool) (K : Act → World → Prop), vs.length = len → bs.length = len → closedB l bs → bs[i]? = some false → (∀ e ∈ o.after, Region.binds .any e = true → bs[e.on]? = some true ∧ vs[e.on]? = val[e.on]?) →
      K (putAll a slots (vs.set i (val.getD i undef))) (wf (bs.set i true)) → wpList P l.toArray (Exit.then K Q) [o] (putAll a slots vs) (wf bs)) ∧ stSteps P Q l a slots val wf len rest (i + 1)
theorem stSteps_get {l0 : List Oper} {a : Act} {slots : List Nat} {val : List Value} {wf : List Bool → World} {len : Nat} : ∀ {l : List Oper} {k i : Nat} {o : Oper}, stSteps P Q l0 a slots val wf len l k → l[i]? = some o →
    ∀ (vs : List Value) (bs : List Bool) (K : Act → World → Prop), vs.length = len → bs.length = len → closedB l0 bs → bs[k + i]? = some false → (∀ e ∈ o.after, Region.binds .any e = true → bs[e.on]? = some true ∧ vs[e.on]? = val[e.on]?) →
      K (putAll a slots (vs.set (k + i) (val.getD (k + i) undef))) (wf (bs.set (k + i) true)) → wpList P l0.toArray (Exit.then K Q) [o] (putAll a slots vs) (wf bs)
  | [], _, _, _, _, h => by simp at h
  | o :: rest, k, 0, o', hd, h => by
    simp at h; subst h
    exact hd.1
  | o :: rest, k, i + 1, o', hd, h => by
    have := stSteps_get (l := rest) (k := k + 1) (i := i) hd.2 (by simpa using h)
    rw [show k + 1 + i = k + (i + 1) by omega] at this
    exact this
theorem wp_region_st {id : Nat} {a : Act} {w : World} {l : List Oper} (hm : P.follows .mixedOrders = true) (hd : waitsC l = true) (slots : List Nat) (val : List Value) (wf : List Bool → World) (len : Nat) (hlen : l.length = len) (hvl : val.length = len)
    (h0 : ∃ vs, a = putAll a slots vs ∧ vs.length = len) (hw0 : wf (List.replicate len false) = w.drew)
    (hsteps : stSteps P Q l a slots val wf len l 0)
    (hend : Q .normal (putAll a slots val) (wf (List.replicate len true))) : (Code.region id l.toArray true).wp P Q a w := by
  obtain ⟨vs0, e0, el0⟩ := h0
  refine wp_region_slots2 hm hd slots (fun (bs : List Bool) (vs : List Value) W => W = wf bs ∧ bs.length = len ∧ vs.length = len ∧ closedB l bs ∧ ∀ i : Nat, bs[i]? = some true → vs[i]? = val[i]?) ⟨vs0, e0, by rw [hlen]; exact hw0.symm, by rw [List.length_replicate]; exact hlen, el0, fun j o hj hb => ?_, fun i hi => ?_⟩ ?_ ?_
  · rw [List.getElem?_replicate] at hb
    split at hb <;> simp at hb
  · rw [List.getElem?_replicate] at hi
    split at hi <;> simp at hi
  · rintro i o bs vs W K ho ⟨rfl, hbl, hl, hcl, hv⟩ _ hb hw hK
    have hdep : ∀ e ∈ o.after, Region.binds .any e = true → bs[e.on]? = some true := fun e he hbe => by
      have h := hw e he hbe
      rw [List.getD_eq_getElem?_getD] at h
      cases h2 : bs[e.on]? with
      | none => rw [h2] at h; simp at h
      | some b => rw [h2] at h; simp at h; rw [h]
    have hi : i < len := by rw [← hlen]; exact (List.getElem?_eq_some_iff.1 ho).1
    refine wpOp_of_list (by simpa using ho) ?_
    refine stSteps_get hsteps ho vs bs K hl hbl hcl (by simpa using hb) (fun e he hbe => ⟨hdep e he hbe, hv _ (hdep e he hbe)⟩) ?_
    rw [Nat.zero_add]
    refine hK _ _ ⟨rfl, by rw [List.length_set]; exact hbl, by rw [List.length_set]; exact hl, fun j o' hj hbj e he hbe => ?_, fun j hj => ?_⟩
    · by_cases hij : i = j
      · subst hij
        rw [ho] at hj; cases hj
        have := hdep e he hbe
        by_cases hie : i = e.on
        · rw [← hie, List.getElem?_set_self (by omega)]
        · rw [List.getElem?_set_ne hie]; exact this
      · rw [List.getElem?_set_ne hij] at hbj
        have := hcl j o' hj hbj e he hbe
        by_cases hie : i = e.on
        · rw [← hie, List.getElem?_set_self (by omega)]
        · rw [List.getElem?_set_ne hie]; exact this
    · by_cases hij : i = j
      · subst hij
        rw [List.getElem?_set_self (by omega), List.getD_eq_getElem?_getD, List.getElem?_eq_getElem (by omega)]; rfl
      · rw [List.getElem?_set_ne hij] at hj ⊢
        exact hv j hj
  · rintro vs W ⟨rfl, hbl, hl, hcl, hv⟩
    have : vs = val := by
      refine List.ext_getElem? fun i => ?_
      by_cases hi : i < len
      · exact hv i (by rw [List.getElem?_replicate, if_pos (by omega)])
      · rw [List.getElem?_eq_none (by omega), List.getElem?_eq_none (by omega)]
    subst this
    rw [hlen]
    exact hend
end
theorem st_get {vs val : List Value} {n : Nat} (h : vs[n]? = val[n]?) {x y : Value} (hx : vs[n]? = some x) (hy : val[n]? = some y) : x = y := by
  rw [hx, hy] at h; cases h; rfl

theorem lasts_owns (B base e size : Nat) (v : Value) (n : Nat) (xs : List Value) : Lasts B (fun W => W.ownsRow base e size v n xs) := fun W W' row hi hg hr => by
  refine hi.kept hg ?_
  rcases hi.2 with ⟨rfl, _⟩ | ⟨g, cap, cur, rfl, _, hh, _⟩
  · exact .inl rfl
  · refine .inr (fun e => ?_)
    obtain ⟨_, o, ho, hc⟩ := hr g (by rw [← e]; rfl)
    rw [hh] at ho; cases ho; cases hc
theorem owns_mono {w : World} {base base' : Nat} {e : TypeId} {size : Nat} {v : Value} {n : Nat} {xs : List Value} (h : w.ownsRow base e size v n xs) (hb : base' ≤ base) : w.ownsRow base' e size v n xs := by
  refine ⟨h.1, ?_⟩
  rcases h.2 with h2 | ⟨g, cap, cur, h1, h2, h3⟩
  · exact .inl h2
  · exact .inr ⟨g, cap, cur, h1, Nat.le_trans hb h2, h3⟩
abbrev Pt := Int × Int
def ptAt (ps : List Pt) (i : Nat) : Pt := ps.getD i (0, 0)
theorem ptAt_lt {ps : List Pt} {i : Nat} (h : i < ps.length) : ptAt ps i = ps[i] := by
  unfold ptAt; simp [h]
structure PtsAt (w : World) (b o : Nat) (ps : List Pt) : Prop where
  lt : b < w.heap.size
  x : ∀ i (h : i < ps.length), w.cell? ⟨b, o + i * 2, none⟩ = some (.int .i64 ps[i].1)
  y : ∀ i (h : i < ps.length), w.cell? ⟨b, o + i * 2 + 1, none⟩ = some (.int .i64 ps[i].2)

theorem PtsAt.below {B : Nat} {w w' : World} {b o : Nat} {ps : List Pt} (h : PtsAt w b o ps) (hb : Below B w w') (hB : b < B) : PtsAt w' b o ps :=
  ⟨Nat.lt_of_lt_of_le h.lt hb.size, fun i hi => below_at hb hB (h.x i hi), fun i hi => below_at hb hB (h.y i hi)⟩
theorem PtsAt.grow {w w' : World} {b o : Nat} {ps : List Pt} (h : PtsAt w b o ps) (hb : Below w.heap.size w w') : PtsAt w' b o ps := h.below hb h.lt

def flat : List Pt → List Value
  | [] => []
  | p :: ps => .int .i64 p.1 :: .int .i64 p.2 :: flat ps

theorem flat_get : ∀ (ps : List Pt) (i : Nat) (h : i < ps.length), (flat ps)[i * 2]? = some (.int .i64 ps[i].1) ∧ (flat ps)[i * 2 + 1]? = some (.int .i64 ps[i].2)
  | p :: ps, 0, _ => ⟨rfl, rfl⟩
  | p :: ps, i + 1, h => by
    have := flat_get ps i (by simpa using h)
    rw [show (i + 1) * 2 = i * 2 + 2 by omega]
    simpa [flat] using this
theorem flat_length : ∀ ps : List Pt, (flat ps).length = ps.length * 2
  | [] => rfl
  | p :: ps => by simp [flat, flat_length ps]; omega
def OwnP (W : World) (n₀ : Nat) (v : Value) (ps : List Pt) : Prop := W.ownsRow n₀ 28 2 v ps.length (flat ps)
theorem OwnP.open {W : World} {n₀ : Nat} {v : Value} {ps : List Pt} (h : OwnP W n₀ v ps) : ∃ a c, v = .slice a ps.length c ∧ (a = none ∧ c = 0 ∧ ps = [] ∨ ∃ g, n₀ ≤ g ∧ a = some ⟨g, 0, none⟩ ∧ PtsAt W g 0 ps ∧ ps.length ≤ c) := by
  have h0 := h
  rcases h.2 with ⟨rfl, hn⟩ | ⟨g, cap, cur, rfl, hg, hgb, hc, _⟩
  · have : ps = [] := List.eq_nil_of_length_eq_zero hn
    subst this
    exact ⟨none, 0, rfl, .inl ⟨rfl, rfl, rfl⟩⟩
  · have hlt := (Array.getElem?_eq_some_iff.1 hgb).1
    refine ⟨_, _, rfl, .inr ⟨g, hg, rfl, ⟨hlt, fun i hi => ?_, fun i hi => ?_⟩, hc⟩⟩
    · have := World.ownsRow.cells h0 (g := g) rfl (i * 2) _ (flat_get ps i hi).1
      rw [Go.WideShapes.add_plain] at this
      simpa using this
    · have := World.ownsRow.cells h0 (g := g) rfl (i * 2 + 1) _ (flat_get ps i hi).2
      rw [Go.WideShapes.add_plain] at this
      simpa using this
theorem own_grow {W W' : World} {n₀ e s k : Nat} {u : Value} {xs : List Value} (h : W.ownsRow n₀ e s u k xs) (hb : Below W.heap.size W W') : W'.ownsRow n₀ e s u k xs :=
  h.kept (row := none) ⟨hb.os, hb.tape, hb.output, hb.size, fun k hk _ => hb.block k hk⟩ (by
    cases h : u.ownBlock with
    | none => exact .inl rfl
    | some g => right; simp)
theorem grown_set (w : World) (a : Addr) (u : Value) : w.grownBy (w.setCell a u) (some a.block) := ⟨rfl, rfl, rfl, by simp [World.setCell], fun k _ h => Below.heap_setCell _ _ _ _ (fun e => h (by rw [e]))⟩
theorem grown_drew (w : World) (row : Option Nat) : w.grownBy w.drew row := ⟨rfl, rfl, rfl, Nat.le_refl _, fun _ _ _ => rfl⟩
section
variable {P : Program} {Q : Exit → Act → World → Prop}
/-- each operation of a region puts a value of its kind, whatever has come up besides what it waits for -/
def relSteps (P : Program) (Q : Exit → Act → World → Prop) (ops : Array Oper) (a : Act) (slots : List Nat) (R : List (Value → World → Prop)) (w₀ : World) (len : Nat) : List Oper → Nat → Prop
  | [], _ => True
  | o :: rest, i => (∀ (vs : List Value) (w : World) (K : Act → World → Prop), Below w₀.heap.size w₀ w → vs.length = len → (∀ e ∈ o.after, Region.binds .any e = true → ∃ v, vs[e.on]? = some v ∧ (R.getD e.on (fun _ _ => True)) v w) →
      (∀ v' w', Below w.heap.size w w' → (R.getD i (fun _ _ => True)) v' w' → K (putAll a slots (vs.set i v')) w') → wpList P ops (Exit.then K Q) [o] (putAll a slots vs) w) ∧ relSteps P Q ops a slots R w₀ len rest (i + 1)
theorem relSteps_get {ops : Array Oper} {a : Act} {slots : List Nat} {R : List (Value → World → Prop)} {w₀ : World} {len : Nat} : ∀ {l : List Oper} {k i : Nat} {o : Oper}, relSteps P Q ops a slots R w₀ len l k → l[i]? = some o →
    ∀ (vs : List Value) (w : World) (K : Act → World → Prop), Below w₀.heap.size w₀ w → vs.length = len → (∀ e ∈ o.after, Region.binds .any e = true → ∃ v, vs[e.on]? = some v ∧ (R.getD e.on (fun _ _ => True)) v w) →
      (∀ v' w', Below w.heap.size w w' → (R.getD (k + i) (fun _ _ => True)) v' w' → K (putAll a slots (vs.set (k + i) v')) w') → wpList P ops (Exit.then K Q) [o] (putAll a slots vs) w
  | [], _, _, _, _, h => by simp at h
  | o :: rest, k, 0, o', hd, h => by
    simp at h; subst h
    exact hd.1
  | o :: rest, k, i + 1, o', hd, h => by
    have := relSteps_get (l := rest) (k := k + 1) (i := i) hd.2 (by simpa using h)
    rw [show k + 1 + i = k + (i + 1) by omega] at this
    exact this
theorem wp_region_rel {id : Nat} {a : Act} {w : World} {l : List Oper} (hm : P.follows .mixedOrders = true) (hd : waitsC l = true) (slots : List Nat) (R : List (Value → World → Prop)) (len : Nat) (hlen : l.length = len)
    (hstab : ∀ r ∈ R, ∀ (v : Value) (W W' : World), r v W → Below W.heap.size W W' → r v W')
    (h0 : ∃ vs, a = putAll a slots vs ∧ vs.length = len)
    (hsteps : relSteps P Q l.toArray a slots R w len l 0)
    (hend : ∀ vs W, Below w.heap.size w W → vs.length = len → (∀ i, i < len → ∃ v, vs[i]? = some v ∧ (R.getD i (fun _ _ => True)) v W) → Q .normal (putAll a slots vs) W) : (Code.region id l.toArray true).wp P Q a w := by
  obtain ⟨vs0, e0, el0⟩ := h0
  have hst : ∀ i v W W', (R.getD i (fun _ _ => True)) v W → Below W.heap.size W W' → (R.getD i (fun _ _ => True)) v W' := fun i v W W' h hb => by
    by_cases hi : i < R.length
    · rw [List.getD_eq_getElem?_getD, List.getElem?_eq_getElem hi] at h ⊢
      exact hstab _ (List.getElem_mem hi) v W W' h hb
    · rw [List.getD_eq_getElem?_getD, List.getElem?_eq_none (by omega)] at h ⊢
      exact trivial
  refine wp_region_slots2 hm hd slots (fun (bs : List Bool) (vs : List Value) W => Below w.heap.size w W ∧ vs.length = len ∧ ∀ i : Nat, bs[i]? = some true → ∃ v, vs[i]? = some v ∧ (R.getD i (fun _ _ => True)) v W) ⟨vs0, e0, (Below.refl _ _).drew, el0, fun i hi => ?_⟩ ?_ ?_
  · rw [List.getElem?_replicate] at hi
    split at hi <;> simp at hi
  · rintro i o bs vs W K ho ⟨hc, hl, hv⟩ hbl hb hw hK
    refine wpOp_of_list (by simpa using ho) ?_
    refine relSteps_get hsteps ho vs W K hc hl (fun e he hbe => ?_) (fun v' W' hbb hr => hK _ _ ⟨Below.andThen hc hbb (Nat.le_refl _), by rw [List.length_set]; exact hl, fun j hj => ?_⟩)
    · have h := hw e he hbe
      rw [List.getD_eq_getElem?_getD] at h
      refine hv _ ?_
      cases h2 : bs[e.on]? with
      | none => rw [h2] at h; simp at h
      | some b => rw [h2] at h; simp at h; rw [h]
    · by_cases hij : i = j
      · subst hij
        have hlt : i < l.length := (List.getElem?_eq_some_iff.1 ho).1
        refine ⟨v', ?_, by simpa using hr⟩
        rw [Nat.zero_add, List.getElem?_set_self (by omega)]
      · rw [List.getElem?_set_ne hij] at hj
        obtain ⟨v, h1, h2⟩ := hv j hj
        exact ⟨v, by rw [Nat.zero_add, List.getElem?_set_ne hij]; exact h1, hst _ _ _ _ h2 hbb⟩
  · rintro vs W ⟨hc, hl, hv⟩
    exact hend vs W hc hl (fun i hi => hv i (by rw [List.getElem?_replicate, if_pos (by omega)]))
end

theorem len_cons {vs : List Value} {n : Nat} (h : vs.length = n + 1) : ∃ x r, vs = x :: r ∧ r.length = n := by
  cases vs with
  | nil => simp at h
  | cons x r => exact ⟨x, r, rfl, by simpa using h⟩
def LitR (x : Value) : Value → World → Prop := fun v _ => v = x
theorem LitR.stab (x : Value) : ∀ (v : Value) (W W' : World), LitR x v W → Below W.heap.size W W' → LitR x v W' := fun _ _ _ h _ => h
theorem rel_get {vs : List Value} {n : Nat} {R : Value → World → Prop} {W : World} (h : ∃ v, vs[n]? = some v ∧ R v W) {x : Value} (hx : vs[n]? = some x) : R x W := by
  obtain ⟨v, h1, h2⟩ := h
  rw [hx] at h1
  cases h1
  exact h2
theorem cell_one_at (w : World) (x : Value) (t : TypeId) (n : Nat) (hn : w.heap.size = n) : ∀ j u, [x][j]? = some u → (w.alloc (.cells #[x] t)).cell? ((⟨n, 0, none⟩ : Addr).add j) = some u := by
  subst hn; exact cell_one_new w x t
theorem own_below {W0 W w2 : World} {o : Obj} {k : Nat} {v : Value} {xs : List Value} (h : W.ownsRow W0.heap.size 3 1 v k xs) (hb : Below W0.heap.size W0 W) (hg : (W.alloc o).grownBy w2 v.ownBlock) : Below W0.heap.size W0 w2 :=
  (Below.al hb (Nat.le_refl _) o).grown hg (Nat.le_trans hb.size (by simp)) (fun r e => by
    rcases h.2 with ⟨rfl, _⟩ | ⟨g', cap, cur, rfl, h1, _⟩
    · simp [Value.ownBlock] at e
    · simp [Value.ownBlock] at e; omega)
section
variable {F : Fence} {n : Nat} {P : Program} {Q : Exit → Act → World → Prop}
theorem wpOpIn_of_list {ops : Array Oper} {i : Nat} {o : Oper} {K : Act → World → Prop} {a : Act} {w : World} (ho : ops[i]? = some o) (h : wpListIn F n P ops (Exit.then K Q) [o] a w) : wpOpIn F n P ops Q i K a w := by
  unfold wpOpIn
  simp only [ho]
  unfold wpListIn at h
  split
  · rename_i hw
    rw [if_pos hw] at h
    exact uponIn_then h
  · rename_i hw
    rw [if_neg hw] at h; exact h
/-- a region whose order is open, by an invariant over what has come up -/
theorem wpIn_region_inv {id : Nat} {a : Act} {w : World} {l : List Oper} (hm : P.follows .mixedOrders = true) (hd : waitsB l = true) (I : List Bool → Act → World → Prop) (h0 : I (List.replicate l.length false) a w.drew)
    (hstep : ∀ (i : Nat) (o : Oper) (bs : List Bool) (a : Act) (w : World), l[i]? = some o → I bs a w → bs.length = l.length → bs[i]? = some false → (∀ e ∈ o.after, Region.binds .any e = true → bs.getD e.on false = true) →
      wpOpIn F n P l.toArray Q i (fun a' w' => I (bs.set i true) a' w') a w)
    (hend : ∀ a w, I (List.replicate l.length true) a w → Q .normal a w) : (Code.region id l.toArray true).wpIn F n P Q a w := by
  refine wpIn_region_any hm ?_
  have key : ∀ (fuel : Nat) (bs : List Bool) (a : Act) (w : World), bs.length = l.length → (bs.filter (! ·)).length ≤ fuel → I bs a w → wpAnyIn F n P .any l.toArray Q fuel bs.toArray a w := by
    intro fuel
    induction fuel with
    | zero =>
      intro bs a w hl hf hI
      have hall : bs = List.replicate l.length true := by
        rw [List.eq_replicate_iff]
        refine ⟨hl, fun b hb => ?_⟩
        cases b with
        | true => rfl
        | false =>
          have : false ∈ bs.filter (! ·) := List.mem_filter.2 ⟨hb, rfl⟩
          have := List.length_pos_of_mem this; omega
      subst hall
      refine ⟨?_, hend a w hI⟩
      cases hr : Region.ready .any l.toArray (List.replicate l.length true).toArray with
      | nil => rfl
      | cons j js =>
        have hj : j ∈ Region.ready .any l.toArray (List.replicate l.length true).toArray := by rw [hr]; exact List.mem_cons_self
        obtain ⟨h1, o, h2, _⟩ := mem_ready.1 hj
        have hlt : j < l.length := by have := (List.getElem?_eq_some_iff.1 (by simpa using h2 : l[j]? = some o)).1; exact this
        simp [Array.getD, hlt] at h1
    | succ fuel ih =>
      intro bs a w hl hf hI
      have hset : ∀ (i : Nat), (bs.toArray.setIfInBounds i true) = (bs.set i true).toArray := fun i => by simp
      by_cases hall : bs = List.replicate l.length true
      · subst hall
        refine ⟨fun _ => hend a w hI, fun j hj => ?_⟩
        obtain ⟨h1, o, h2, _⟩ := mem_ready.1 hj
        have hlt : j < l.length := by have := (List.getElem?_eq_some_iff.1 (by simpa using h2 : l[j]? = some o)).1; exact this
        simp [Array.getD, hlt] at h1
      · refine ⟨fun hr => ?_, fun j hj => ?_⟩
        · exfalso
          have hex : ∃ b ∈ bs, (!b) = true := by
            false_or_by_contra
            rename_i hno
            refine hall (List.eq_replicate_iff.2 ⟨hl, fun b hb => ?_⟩)
            cases b with
            | true => rfl
            | false => exact absurd ⟨false, hb, rfl⟩ hno
          have hlt : bs.findIdx (! ·) < bs.length := List.findIdx_lt_length.2 hex
          have hf0 : bs[bs.findIdx (! ·)] = false := by have := List.findIdx_getElem (w := hlt); simpa using this
          have hlt2 : bs.findIdx (! ·) < l.length := by omega
          have hmem : bs.findIdx (! ·) ∈ Region.ready .any l.toArray bs.toArray := by
            refine mem_ready.2 ⟨by simp [Array.getD, hlt, hf0], l[bs.findIdx (! ·)], by simp [hlt2], fun e he _ => ?_⟩
            unfold waitsB at hd
            rw [List.all_eq_true] at hd
            have h1 := hd _ (List.mem_range.2 hlt2)
            rw [List.getElem?_eq_getElem hlt2] at h1
            simp only [Option.map_some, Option.getD_some] at h1
            have h2 := (Array.all_eq_true'.1 h1) e he
            have h3 := of_decide_eq_true h2
            have h4 : e.on < bs.length := by omega
            have h5 := List.not_of_lt_findIdx h3
            simp [Array.getD, h4]
            simpa using h5
          rw [hr] at hmem; cases hmem
        · obtain ⟨h1, o, h2, h3⟩ := mem_ready.1 hj
          have h2' : l[j]? = some o := by simpa using h2
          have hlt : j < l.length := (List.getElem?_eq_some_iff.1 h2').1
          have hb : bs[j]? = some false := by
            rw [List.getElem?_eq_getElem (by omega)]
            simp [Array.getD, show j < bs.length by omega] at h1
            rw [h1]
          refine wpOpIn_mono (fun a' w' h => ?_) (hstep j o bs a w h2' hI hl hb (fun e he hb => by have := h3 e he hb; rw [List.getD_eq_getElem?_getD]; simp only [Array.getD, List.size_toArray] at this; split at this <;> simp_all))
          rw [hset]
          have := filter_set bs j hb
          exact ih _ _ _ (by simpa using hl) (by omega) h
  have := key l.length (List.replicate l.length false) a w.drew (by simp) (by simp) h0
  simpa using this
/-- the same, with the slots that the region writes told apart -/
theorem wpIn_region_slots {id : Nat} {a : Act} {w : World} {l : List Oper} (hm : P.follows .mixedOrders = true) (hd : waitsB l = true) (slots : List Nat) (J : List Bool → List Value → World → Prop)
    (h0 : ∃ vs, a = putAll a slots vs ∧ J (List.replicate l.length false) vs w.drew)
    (hstep : ∀ (i : Nat) (o : Oper) (bs : List Bool) (vs : List Value) (w : World) (K : Act → World → Prop), l[i]? = some o → J bs vs w → bs.length = l.length → bs[i]? = some false → (∀ e ∈ o.after, Region.binds .any e = true → bs.getD e.on false = true) →
      (∀ vs' w', J (bs.set i true) vs' w' → K (putAll a slots vs') w') → wpOpIn F n P l.toArray Q i K (putAll a slots vs) w)
    (hend : ∀ vs w, J (List.replicate l.length true) vs w → Q .normal (putAll a slots vs) w) : (Code.region id l.toArray true).wpIn F n P Q a w := by
  refine wpIn_region_inv hm hd (fun bs a' w' => ∃ vs, a' = putAll a slots vs ∧ J bs vs w') h0 ?_ ?_
  · rintro i o bs a' w' ho ⟨vs, rfl, hJ⟩ hl hb hw
    exact hstep i o bs vs w' _ ho hJ hl hb hw (fun vs' w'' h => ⟨vs', rfl, h⟩)
  · rintro a' w' ⟨vs, rfl, hJ⟩
    exact hend vs w' hJ
end
section
variable {F : Fence} {n : Nat} {P : Program} {Q : Exit → Act → World → Prop}
/-- a region whose order is open and whose operations each put one value, whatever has come up besides what they wait for -/
theorem wpIn_region_det {id : Nat} {a : Act} {w : World} {l : List Oper} (hm : P.follows .mixedOrders = true) (hd : waitsB l = true) (slots : List Nat) (val : List Value) (C : World → Prop) (hvl : val.length = l.length)
    (h0 : ∃ vs, a = putAll a slots vs ∧ vs.length = l.length) (hC : C w.drew)
    (hstep : ∀ (i : Nat) (o : Oper) (vs : List Value) (w : World) (K : Act → World → Prop), l[i]? = some o → C w → vs.length = l.length → (∀ e ∈ o.after, Region.binds .any e = true → vs[e.on]? = val[e.on]?) →
      (∀ w', C w' → K (putAll a slots (vs.set i (val.getD i undef))) w') → wpOpIn F n P l.toArray Q i K (putAll a slots vs) w)
    (hend : ∀ w, C w → Q .normal (putAll a slots val) w) : (Code.region id l.toArray true).wpIn F n P Q a w := by
  obtain ⟨vs0, e0, el0⟩ := h0
  refine wpIn_region_slots hm hd slots (fun (bs : List Bool) (vs : List Value) w => C w ∧ vs.length = l.length ∧ ∀ i : Nat, bs[i]? = some true → vs[i]? = val[i]?) ⟨vs0, e0, hC, el0, fun i hi => ?_⟩ ?_ ?_
  · rw [List.getElem?_replicate] at hi
    split at hi <;> simp at hi
  · rintro i o bs vs w K ho ⟨hc, hl, hv⟩ hbl hb hw hK
    refine hstep i o vs w K ho hc hl (fun e he hbe => ?_) (fun w' hc' => hK _ _ ⟨hc', by rw [List.length_set]; exact hl, fun j hj => ?_⟩)
    · have h := hw e he hbe
      rw [List.getD_eq_getElem?_getD] at h
      refine hv _ ?_
      cases h2 : bs[e.on]? with
      | none => rw [h2] at h; simp at h
      | some b => rw [h2] at h; simp at h; rw [h]
    · by_cases hij : i = j
      · subst hij
        have hlt : i < l.length := (List.getElem?_eq_some_iff.1 ho).1
        rw [List.getElem?_set_self (by omega), List.getD_eq_getElem?_getD, List.getElem?_eq_getElem (by omega)]; rfl
      · rw [List.getElem?_set_ne hij] at hj ⊢
        exact hv j hj
  · rintro vs w ⟨hc, hl, hv⟩
    have : vs = val := by
      refine List.ext_getElem? fun i => ?_
      by_cases hi : i < l.length
      · exact hv i (by rw [List.getElem?_replicate, if_pos hi])
      · rw [List.getElem?_eq_none (by omega), List.getElem?_eq_none (by omega)]
    subst this
    exact hend w hc
end
section
variable {F : Fence} {n : Nat} {P : Program} {Q : Exit → Act → World → Prop}
/-- each operation of a region puts its value, whatever has come up besides what it waits for -/
def detSteps (F : Fence) (n : Nat) (P : Program) (Q : Exit → Act → World → Prop) (ops : Array Oper) (a : Act) (slots : List Nat) (val : List Value) (C : World → Prop) (len : Nat) : List Oper → Nat → Prop
  | [], _ => True
  | o :: rest, i => (∀ (vs : List Value) (w : World) (K : Act → World → Prop), C w → vs.length = len → (∀ e ∈ o.after, Region.binds .any e = true → vs[e.on]? = val[e.on]?) →
      (∀ w', C w' → K (putAll a slots (vs.set i (val.getD i undef))) w') → wpListIn F n P ops (Exit.then K Q) [o] (putAll a slots vs) w) ∧ detSteps F n P Q ops a slots val C len rest (i + 1)
theorem detSteps_get {ops : Array Oper} {a : Act} {slots : List Nat} {val : List Value} {C : World → Prop} {len : Nat} : ∀ {l : List Oper} {k i : Nat} {o : Oper}, detSteps F n P Q ops a slots val C len l k → l[i]? = some o →
    ∀ (vs : List Value) (w : World) (K : Act → World → Prop), C w → vs.length = len → (∀ e ∈ o.after, Region.binds .any e = true → vs[e.on]? = val[e.on]?) →
      (∀ w', C w' → K (putAll a slots (vs.set (k + i) (val.getD (k + i) undef))) w') → wpListIn F n P ops (Exit.then K Q) [o] (putAll a slots vs) w
  | [], _, _, _, _, h => by simp at h
  | o :: rest, k, 0, o', hd, h => by
    simp at h; subst h
    exact hd.1
  | o :: rest, k, i + 1, o', hd, h => by
    have := detSteps_get (l := rest) (k := k + 1) (i := i) hd.2 (by simpa using h)
    rw [show k + 1 + i = k + (i + 1) by omega] at this
    exact this
theorem wpIn_region_det2 {id : Nat} {a : Act} {w : World} {l : List Oper} (hm : P.follows .mixedOrders = true) (hd : waitsB l = true) (slots : List Nat) (val : List Value) (C : World → Prop) (hvl : val.length = l.length)
    (h0 : ∃ vs, a = putAll a slots vs ∧ vs.length = l.length) (hC : C w.drew) (len : Nat) (hlen : l.length = len)
    (hsteps : detSteps F n P Q l.toArray a slots val C len l 0)
    (hend : ∀ w, C w → Q .normal (putAll a slots val) w) : (Code.region id l.toArray true).wpIn F n P Q a w := by
  refine wpIn_region_det hm hd slots val C hvl h0 hC ?_ hend
  intro i o vs w K ho hc hl hw hK
  refine wpOpIn_of_list (by simpa using ho) ?_
  have := detSteps_get hsteps ho vs w K hc (by omega) hw (by simpa using hK)
  exact this
end

theorem own_ints {W : World} {n₀ k : Nat} {zs : List Int} {v : Value} (h : W.ownsRow n₀ 3 1 v k (zs.map encI)) (hz : zs ≠ []) : ∃ g cap, v = .slice (some ⟨g, 0, none⟩) zs.length cap ∧ g < W.heap.size ∧ IntsAt W g 0 zs := by
  have hl : k = zs.length := by have := h.1; rw [List.length_map] at this; omega
  subst hl
  rcases h.2 with ⟨_, hn⟩ | ⟨g, cap, cur, rfl, _, hgb, _⟩
  · exact absurd (List.eq_nil_of_length_eq_zero hn) hz
  · have hlt := (Array.getElem?_eq_some_iff.1 hgb).1
    refine ⟨g, cap, rfl, hlt, .inr hlt, fun i hi => ?_⟩
    have := h.cells (g := g) rfl i (encI zs[i]) (by simp [hi])
    rw [Nat.zero_add]
    by_cases h0 : i = 0
    · subst h0; simpa [Addr.add, encI] using this
    · simpa [Addr.add, encI, h0] using this
theorem sli_new (w : World) (zs : List Int) : SlI (w.alloc (.cells (zs.map encI).toArray 3)) (.slice (some ⟨w.heap.size, 0, none⟩) zs.length zs.length) zs := by
  have r := Row.new w 3 (zs.map encI)
  refine ⟨_, _, rfl, Nat.le_refl _, .inr ⟨_, 0, rfl, r.lt, .inr r.lt, fun i hi => ?_⟩⟩
  rw [Nat.zero_add, r.cell, List.getElem?_map, List.getElem?_eq_getElem hi]; rfl
theorem sli_own {W : World} {n₀ k : Nat} {zs : List Int} {v : Value} (h : W.ownsRow n₀ 3 1 v k (zs.map encI)) : SlI W v zs := by
  have hk : k = zs.length := by have := h.1; rw [List.length_map] at this; omega
  by_cases hz : zs = []
  · subst hz
    have hk0 : k = 0 := by simpa using hk
    rcases h.2 with ⟨rfl, _⟩ | ⟨g, cap, cur, rfl, _, _, hc, _⟩
    · exact ⟨none, 0, rfl, Nat.le_refl _, .inl rfl⟩
    · exact ⟨_, cap, by rw [hk0]; rfl, by simp, .inl rfl⟩
  · obtain ⟨g, cap, rfl, hg, hi⟩ := own_ints h hz
    have hc : zs.length ≤ cap := by
      rcases h.2 with ⟨e, _⟩ | ⟨g', cap', cur, e, _, _, hc, _⟩
      · cases e
      · cases e; omega
    exact ⟨_, cap, rfl, hc, .inr ⟨g, 0, rfl, hg, hi⟩⟩
theorem own_one (W : World) (x : Int) (n₀ : Nat) (h : n₀ ≤ W.heap.size) : (W.alloc (.cells #[.int .i64 x] 3)).ownsRow n₀ 3 1 (.slice (some ⟨W.heap.size, 0, none⟩) 1 1) 1 [.int .i64 x] :=
  ⟨rfl, .inr ⟨W.heap.size, 1, #[.int .i64 x], rfl, h, World.alloc_heap_new W _, Nat.le_refl _, by decide, rfl, rfl⟩⟩
theorem sli_cells {W : World} {v : Value} {zs : List Int} (h : SlI W v zs) (hz : zs ≠ []) : ∃ b o c, v = .slice (some ⟨b, o, none⟩) zs.length c ∧ zs.length ≤ c ∧ b < W.heap.size ∧ IntsAt W b o zs := by
  obtain ⟨a, c, rfl, hc, hs⟩ := h
  rcases hs with h | ⟨b, o, rfl, hb, hi⟩
  · exact absurd h hz
  · exact ⟨b, o, c, rfl, hc, hb, hi⟩
theorem own_slice {W : World} {n₀ n : Nat} {v : Value} {xs : List Value} (h : W.ownsRow n₀ 3 1 v n xs) (hn : 0 < n) : ∃ g cap, v = .slice (some ⟨g, 0, none⟩) n cap ∧ n ≤ cap := by
  rcases h.2 with ⟨_, h0⟩ | ⟨g, cap, cur, hv, _, _, hc, _⟩
  · omega
  · exact ⟨g, cap, hv, hc⟩
theorem own_cell {W : World} {n₀ n g cap : Nat} {zs : List Int} (h : W.ownsRow n₀ 3 1 (.slice (some ⟨g, 0, none⟩) n cap) n (zs.map encI)) (j : Nat) (hj : j < n) : W.cell? ⟨g, j, none⟩ = some (.int .i64 (zs.getD j 0)) ∧ W.frozen? ⟨g, j, none⟩ = false := by
  refine ⟨?_, h.frozenAt j⟩
  have hl : zs.length = n := by have := h.1; rw [List.length_map] at this; omega
  rw [h.cellAt j (by omega), List.getElem?_map, List.getElem?_eq_getElem (by omega), getD_lt (by omega)]; rfl
theorem own_put {W : World} {n₀ n g cap : Nat} {zs : List Int} (h : W.ownsRow n₀ 3 1 (.slice (some ⟨g, 0, none⟩) n cap) n (zs.map encI)) (j : Nat) (x : Int) : (W.setCell ⟨g, j, none⟩ (.int .i64 x)).ownsRow n₀ 3 1 (.slice (some ⟨g, 0, none⟩) n cap) n ((zs.set j x).map encI) := by
  have h2 := (h.stored j (.int .i64 x)).1
  rw [List.map_set]; exact h2
theorem IntsAt.cells {W : World} {b o : Nat} {zs : List Int} (h : IntsAt W b o zs) : ∀ j u, (zs.map encI)[j]? = some u → W.cell? ((⟨b, o, none⟩ : Addr).add j) = some u := fun j u hj => by
  rw [Go.WideShapes.add_plain]
  by_cases hl : j < zs.length
  · rw [List.getElem?_map, List.getElem?_eq_getElem hl] at hj
    cases hj
    exact h.at_ j hl
  · rw [List.getElem?_eq_none (by rw [List.length_map]; omega)] at hj; cases hj
theorem flat_snoc (p : Pt) : ∀ ps : List Pt, flat (ps ++ [p]) = flat ps ++ [.int .i64 p.1, .int .i64 p.2]
  | [] => rfl
  | q :: ps => by simp [flat, flat_snoc p ps]
theorem cells_two_new (w : World) (x y : Value) (t : TypeId) : ∀ j u, [x, y][j]? = some u → (w.alloc (.cells #[x, y] t)).cell? ((⟨w.heap.size, 0, none⟩ : Addr).add j) = some u := by
  intro j u hj
  rw [Go.WideShapes.add_plain, Nat.zero_add, Row.cell (Row.new w t [x, y])]; exact hj
theorem own_belowP {W0 W w2 : World} {o : Obj} {v : Value} {ps : List Pt} (h : OwnP W W0.heap.size v ps) (hb : Below W0.heap.size W0 W) (hg : (W.alloc o).grownBy w2 v.ownBlock) : Below W0.heap.size W0 w2 :=
  (Below.al hb (Nat.le_refl _) o).grown hg (Nat.le_trans hb.size (by simp)) (fun r e => (World.ownsRow.lt h r e).1)
theorem u64_wrap (x : Int) : IntKind.u64.wrap x = x % 18446744073709551616 := by
  unfold IntKind.wrap
  simp [IntKind.signed, IntKind.bits]
theorem own_differ {W : World} {n₀ n₁ e e' s s' k l : Nat} {v u : Value} {xs ys : List Value} (h : W.ownsRow n₀ e s v k xs) (h' : W.ownsRow n₁ e' s' u l ys) (he : e ≠ e') : v.ownBlock = none ∨ v.ownBlock ≠ u.ownBlock := by
  rcases h.2 with ⟨rfl, _⟩ | ⟨g, cap, cur, rfl, _, hg, _⟩
  · exact .inl rfl
  · right
    rcases h'.2 with ⟨rfl, _⟩ | ⟨g', cap', cur', rfl, _, hg', _⟩
    · intro h; cases h
    · intro h
      have hgg : g = g' := by simpa [Value.ownBlock] using h
      subst hgg
      rw [hg] at hg'
      cases hg'
      exact he rfl
theorem own_two (W : World) (x y : Int) (n₀ : Nat) (h : n₀ ≤ W.heap.size) : (W.alloc (.cells #[.int .i64 x, .int .i64 y] 3)).ownsRow n₀ 3 1 (.slice (some ⟨W.heap.size, 0, none⟩) 2 2) 2 ([x, y].map encI) :=
  ⟨rfl, .inr ⟨W.heap.size, 2, #[.int .i64 x, .int .i64 y], rfl, h, World.alloc_heap_new W _, Nat.le_refl _, by decide, rfl, rfl⟩⟩
def slLen : Value → Nat
  | .slice _ n _ => n
  | _ => 0
def SlP (w : World) (v : Value) (ps : List Pt) : Prop := ∃ a c, v = .slice a ps.length c ∧ ps.length ≤ c ∧ (ps = [] ∨ ∃ g o, a = some ⟨g, o, none⟩ ∧ PtsAt w g o ps)
theorem SlP.grow {w w' : World} {v : Value} {ps : List Pt} (h : SlP w v ps) (hb : Below w.heap.size w w') : SlP w' v ps := by
  obtain ⟨a, c, rfl, hc, h⟩ := h
  exact ⟨a, c, rfl, hc, h.imp id (fun ⟨g, o, h1, h2⟩ => ⟨g, o, h1, h2.grow hb⟩)⟩
theorem slp_own {W : World} {n₀ : Nat} {v : Value} {ps : List Pt} (ho : OwnP W n₀ v ps) : SlP W v ps := by
  obtain ⟨a, c, rfl, h⟩ := OwnP.open ho
  clear ho
  rcases h with ⟨_, rfl, rfl⟩ | ⟨g, _, rfl, h, hc⟩
  · exact ⟨a, 0, rfl, Nat.le_refl _, .inl rfl⟩
  · exact ⟨_, c, rfl, hc, .inr ⟨g, 0, rfl, h⟩⟩
theorem pts_cells {W : World} {g o : Nat} {ps : List Pt} (h : PtsAt W g o ps) (m : Nat) : ∀ j u, (flat (ps.take m))[j]? = some u → W.cell? ((⟨g, o, none⟩ : Addr).add j) = some u := fun j u hj => by
  have hl := (List.getElem?_eq_some_iff.1 hj).1
  rw [flat_length, List.length_take] at hl
  obtain ⟨f1, f2⟩ := flat_get (ps.take m) (j / 2) (by rw [List.length_take]; omega)
  rw [Go.WideShapes.add_plain]
  rcases Nat.mod_two_eq_zero_or_one j with hp | hp
  · rw [show j / 2 * 2 = j by omega, hj, List.getElem_take] at f1
    have := h.x (j / 2) (by omega)
    rw [show o + j / 2 * 2 = o + j by omega] at this
    rw [this, f1]
  · rw [show j / 2 * 2 + 1 = j by omega, hj, List.getElem_take] at f2
    have := h.y (j / 2) (by omega)
    rw [show o + j / 2 * 2 + 1 = o + j by omega] at this
    rw [this, f2]
end Go.Proofs.Ytlemipnplgbckaa
