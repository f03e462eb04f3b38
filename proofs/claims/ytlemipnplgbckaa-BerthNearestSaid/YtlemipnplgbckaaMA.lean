import Derived.Test.YtlemipnplgbckaaProg
import Derived.Test.YtlemipnplgbckaaRows
import Derived.Laws.AppendOwn
import Derived.ChangeKeysEq
import Derived.Maps.RangeWalk
import Derived.Maps.OwnIn
import Derived.Maps.AppendAt
import Derived.RangeFuncNested
import Derived.RangeFuncBound
import Derived.RangeFuncCalls
import Derived.RangeFuncLeaves
import Derived.Shelf.Abstract
import Derived.Shelf.RegionOpen
import Derived.WalkKit
import Derived.WalkMore
import Derived.OwnWalkIn
import Derived.TacticsInMore
import Derived.LoopNIn
import Derived.LoopIn
import Derived.WalkSpells
import Derived.WalkLawsBesides
import Derived.BigQuiet
import Derived.Deep.QuietTactic
import Derived.Lib.Hide
import Derived.Deep.RegionHeld3
import Derived.StillTailTactics
import Derived.Deep.LoopGhost
import Derived.Maps.OwnSet
import Derived.Lib.IndexAny
import Derived.Sort.QuietThIn
import Derived.Sort.QuietTacIn
import Derived.Sort.BigQuietIn
import Derived.Laws.OwnMore
import Derived.DeepKeys4
import Derived.Maps.Views
import Derived.Maps.OwnOps
import Derived.Deep.DeepCutAuto
import Derived.Shelf.Bits.Mul64
import Derived.Shelf.LaysM
namespace Go.Proofs.Ytlemipnplgbckaa
def Bd (B x : Int) : Prop := -B ≤ x ∧ x ≤ B
theorem Bd.mono {B C x : Int} (h : Bd B x) (hc : B ≤ C) : Bd C x := ⟨by have := h.1; omega, by have := h.2; omega⟩
theorem Bd.add {B C x y : Int} (h : Bd B x) (k : Bd C y) : Bd (B + C) (x + y) := by
  unfold Bd at *; omega
theorem Bd.sub {B C x y : Int} (h : Bd B x) (k : Bd C y) : Bd (B + C) (x - y) := by
  unfold Bd at *; omega
theorem Bd.neg {B x : Int} (h : Bd B x) : Bd B (-x) := by
  unfold Bd at *; omega
theorem Bd.abs {B x : Int} : Bd B x ↔ (x.natAbs : Int) ≤ B := by unfold Bd; omega
theorem Bd.mul {B C x y : Int} (h : Bd B x) (k : Bd C y) : Bd (B * C) (x * y) := by
  rw [Bd.abs] at *
  rw [Int.natAbs_mul, Int.natCast_mul]
  exact Int.mul_le_mul h k (by omega) (by omega)
theorem Bd.tdiv {B x g : Int} (h : Bd B x) : Bd B (x.tdiv g) := by
  rw [Bd.abs] at *
  have : (x.tdiv g).natAbs ≤ x.natAbs := by
    rw [Int.natAbs_tdiv]; exact Nat.div_le_self _ _
  omega
open Go.RowKit Go.Shelf
attribute [local go_sem] Oper.semAt_some
theorem i64_of (x : Int) (h : -4611686018427387904 ≤ x) (h' : x ≤ 4611686018427387903) : IntKind.i64.wrap x = x :=
  IntWalk.i64_in _ (by omega)
theorem i64_bd {x B : Int} (h : Bd B x) (hB : B ≤ 4611686018427387903) : IntKind.i64.wrap x = x := by
  unfold Bd at h; exact i64_of x (by omega) (by omega)
theorem ret_bool {a b : Bool} (h : a = b) : Ending.returned (.bool a) = .returned (.bool b) := by rw [h]
theorem ret_int {k : IntKind} {a b : Int} (h : a = b) : Ending.returned (.int k a) = .returned (.int k b) := by rw [h]
theorem drewN_drewN (w : World) (a b : Nat) : (w.drewN a).drewN b = w.drewN (a + b) := by
  unfold World.drewN; simp [Nat.add_assoc]
theorem drew_drewN (w : World) (a : Nat) : (w.drewN a).drew = w.drewN (a + 1) := by
  unfold World.drewN World.drew; simp [Nat.add_assoc]
theorem below_at {B : Nat} {w w' : World} (hb : Below B w w') {b o : Nat} {v : Value} (hg : b < B) (h : w.cell? ⟨b, o, none⟩ = some v) : w'.cell? ⟨b, o, none⟩ = some v := (hb.cell (p := ⟨b, o, none⟩) hg).trans h
theorem Below.andThen {B : Nat} {w W W' : World} (h : Below B w W) (h' : Below W.heap.size W W') (hB : B ≤ w.heap.size) : Below B w W' :=
  h.trans (h'.mono (Nat.le_trans hB h.size))
theorem Below.al {B : Nat} {w W : World} (h : Below B w W) (hB : B ≤ w.heap.size) (o : Obj) : Below B w (W.alloc o) := h.alloc (Nat.le_trans hB h.size) _
theorem cell_al (w : World) (cs : Array Value) (t : TypeId) (b o : Nat) : (w.alloc (.cells cs t)).cell? ⟨b, o, none⟩ = if b = w.heap.size then cs[o]? else w.cell? ⟨b, o, none⟩ := by
  by_cases h : b = w.heap.size
  · subst h; rw [if_pos rfl, cell_of_row _ _ _ cs t (0, 0) (heap_alloc_new w _)]
  · rw [if_neg h]
    exact World.cell?_of_block (w := w) (a := ⟨b, o, none⟩) (by show (w.heap.push _)[b]? = _; rw [Array.getElem?_push, if_neg h])
theorem frozen_al (w : World) (cs : Array Value) (t : TypeId) (b o : Nat) : (w.alloc (.cells cs t)).frozen? ⟨b, o, none⟩ = if b = w.heap.size then false else w.frozen? ⟨b, o, none⟩ := by
  by_cases h : b = w.heap.size
  · subst h; rw [if_pos rfl, frozen_of_row _ _ _ cs t (heap_alloc_new w _)]
  · rw [if_neg h]
    exact World.frozen?_of_block (w := w) (a := ⟨b, o, none⟩) (by show (w.heap.push _)[b]? = _; rw [Array.getElem?_push, if_neg h])
theorem size_al (w : World) (o : Obj) : (w.alloc o).heap.size = w.heap.size + 1 := by simp

def Row (w : World) (g : Nat) (E : TypeId) (vs : List Value) : Prop := w.heap[g]? = some (.cells vs.toArray E (0, 0))
theorem Row.cell {w : World} {g : Nat} {E : TypeId} {vs : List Value} (h : Row w g E vs) (i : Nat) : w.cell? ⟨g, i, none⟩ = vs[i]? := by
  rw [cell_of_row w g i _ _ _ h]; simp
theorem Row.lt {w : World} {g : Nat} {E : TypeId} {vs : List Value} (h : Row w g E vs) : g < w.heap.size :=
  (Array.getElem?_eq_some_iff.1 h).1
theorem Row.below {B : Nat} {w w' : World} {g : Nat} {E : TypeId} {vs : List Value} (h : Row w g E vs) (hb : Below B w w') (hg : g < B) : Row w' g E vs := by
  unfold Row; rw [hb.block g hg]; exact h
theorem Row.new (w : World) (E : TypeId) (vs : List Value) : Row (w.alloc (.cells vs.toArray E)) w.heap.size E vs :=
  heap_alloc_new w _

def encI (x : Int) : Value := .int .i64 x
structure IntsAt (w : World) (b o : Nat) (zs : List Int) : Prop where
  lt : zs = [] ∨ b < w.heap.size
  at_ : ∀ i (h : i < zs.length), w.cell? ⟨b, o + i, none⟩ = some (.int .i64 zs[i])

theorem IntsAt.below {B : Nat} {w w' : World} {b o : Nat} {zs : List Int} (h : IntsAt w b o zs) (hb : Below B w w') (hB : b < B) : IntsAt w' b o zs :=
  ⟨h.lt.imp id (fun x => Nat.lt_of_lt_of_le x hb.size), fun i hi => below_at hb hB (h.at_ i hi)⟩

/-- a world that holds all that w holds -/
structure Kl (w : World) where
  W : World
  h : Below w.heap.size w W

theorem wp_region_below {P : Program} {id : Nat} {Q : Exit → Act → World → Prop} {a : Act} {w : World} {l : List Oper} (hm : P.follows .mixedOrders = true) (hB : Region.lexB .any l.toArray = true)
    (h : wpQuiet P l.toArray (fun w' => ∃ n : Kl w, w' = n.W) (fun a' => ∀ w', (∃ n : Kl w, w' = n.W) → Q .normal a' w') l a) : (Code.region id l.toArray true).wp P Q a w :=
  wp_region_quiet (C := fun w' => ∃ n : Kl w, w' = n.W) hm hB ⟨⟨w.drew, (Below.refl _ _).drew⟩, rfl⟩ (by simpa using h)
theorem Kl.call {P : Program} {f : FuncId} {args : Array Value} {w : World} {x : Kl w} {v : Value}
    (h : Calls P f args x.W fun e w' => e = .returned v ∧ Below x.W.heap.size x.W w') : Calls P f args x.W fun e w'' => e = .returned v ∧ ∃ n : Kl w, w'' = n.W :=
  h.mono fun _ w' ⟨he, hb⟩ => ⟨he, ⟨w', Below.andThen x.h hb (Nat.le_refl _)⟩, rfl⟩
theorem Kl.cell {w : World} {b o : Nat} {v : Value} (hb : b < w.heap.size) (h : w.cell? ⟨b, o, none⟩ = some v) (x : Kl w) : x.W.cell? ⟨b, o, none⟩ = some v := below_at x.h hb h
instance (w : World) : Nonempty (Kl w) := ⟨⟨w, Below.refl _ _⟩⟩
theorem filter_set : ∀ (bs : List Bool) (j : Nat), bs[j]? = some false → ((bs.set j true).filter (! ·)).length + 1 = (bs.filter (! ·)).length
  | [], j, h => by simp at h
  | b :: bs, 0, h => by simp at h; subst h; simp
  | b :: bs, j + 1, h => by
    have := filter_set bs j (by simpa using h)
    cases b <;> simp at this ⊢ <;> omega
def SlI (w : World) (v : Value) (zs : List Int) : Prop := ∃ a c, v = .slice a zs.length c ∧ zs.length ≤ c ∧ (zs = [] ∨ ∃ b o, a = some ⟨b, o, none⟩ ∧ b < w.heap.size ∧ IntsAt w b o zs)
theorem SlI.grow {w w' : World} {v : Value} {zs : List Int} (h : SlI w v zs) (hb : Below w.heap.size w w') : SlI w' v zs := by
  obtain ⟨a, c, rfl, hc, h⟩ := h
  refine ⟨a, c, rfl, hc, h.imp id ?_⟩
  rintro ⟨b, o, rfl, hl, hi⟩
  exact ⟨b, o, rfl, Nat.lt_of_lt_of_le hl hb.size, hi.below hb hl⟩
theorem getD_lt {zs : List Int} {i : Nat} (h : i < zs.length) : zs.getD i 0 = zs[i] := by simp [List.getD, h]
def aggI (fs : List Int) : Value := .agg (fs.map encI).toArray
theorem Row.set {w : World} {g : Nat} {E : TypeId} {vs : List Value} (h : Row w g E vs) (i : Nat) (v : Value) : Row (w.setCell ⟨g, i, none⟩ v) g E (vs.set i v) := by
  unfold Row
  have := heap_setCell_same w g i vs.toArray E v h
  rw [this]; simp
theorem setRow_ne (W : World) (g : Nat) (cs : Array Value) (k : Nat) (hk : k ≠ g) : (W.setRow g cs).heap[k]? = W.heap[k]? := by
  simp only [World.setRow, Array.getElem?_modify]
  rw [if_neg (by omega)]
theorem getI (F : List Int) (i : Nat) (h : i < F.length) : (F.map encI)[i]? = some (.int .i64 (F.getD i 0)) := by
  rw [List.getElem?_map, List.getElem?_eq_getElem h]; simp [encI, List.getD, h]
theorem Row.other {W : World} {g g' : Nat} {E : TypeId} {vs : List Value} (h : Row W g E vs) (i : Nat) (v : Value) (hne : g ≠ g') : Row (W.setCell ⟨g', i, none⟩ v) g E vs := by
  unfold Row; rw [Below.heap_setCell _ _ _ _ hne]; exact h
section
variable {F : Fence} {n : Nat} {P : Program} {Q : Exit → Act → World → Prop}
theorem uponIn_then {o : Oper} {a : Act} {w : World} {next K : Act → World → Prop} (h : o.wpIn F n P a w next (Exit.then K Q)) : o.wpIn F n P a w next Q := by
  unfold Oper.wpIn at *
  refine ⟨h.1, ?_⟩
  have h := h.2
  generalize (o.semAt F.round a.eval).run P w = r at *
  cases r with
  | ok x w' => cases x <;> exact h
  | halt x w' => cases x <;> exact h
theorem getD_toArray (l : List Bool) (j : Nat) (d : Bool) : l.toArray.getD j d = l[j]?.getD d := by
  simp [Array.getD_eq_getD_getElem?]
/-- each operation waits for earlier ones alone -/
def waitsB (l : List Oper) : Bool := (List.range l.length).all fun i => ((l[i]?).map fun o => o.after.all fun e => decide (e.on < i)).getD true
def noGuardB (l : List Oper) : Bool := l.all fun o => o.guard.isNone
def onB (l : List Oper) (i j : Nat) : Bool := ((l[i]?).map fun o => o.after.any fun e => e.on == j && Region.binds .any e).getD false
/-- each of the first m operations is waited for by a later one, the m-th included -/
def feedsB (l : List Oper) (m : Nat) : Bool := (List.range m).all fun j => (List.range (m + 1)).any fun i => decide (j < i) && onB l i j
/-- behind the m-th each waits for the one ahead of it -/
def chainB (l : List Oper) (m : Nat) : Bool := (List.range l.length).all fun i => decide (i ≤ m) || onB l i (i - 1)
theorem onB_spec {l : List Oper} {i j : Nat} (h : onB l i j = true) {o : Oper} (ho : l[i]? = some o) : ∃ e ∈ o.after, Region.binds .any e = true ∧ e.on = j := by
  unfold onB at h
  rw [ho] at h
  simp only [Option.map_some, Option.getD_some, Array.any_eq_true'] at h
  obtain ⟨e, he, h2⟩ := h
  simp only [Bool.and_eq_true, beq_iff_eq] at h2
  exact ⟨e, he, h2.2, h2.1⟩
theorem wpOpIn_of_cut {l : List Oper} {m i : Nat} {K K' K2 : Act → World → Prop} {a : Act} {w : World} (hg : noGuardB l = true) (hi : i < m) (hm : m ≤ l.length) (hK : ∀ a w, K a w → K' a w)
    (h : wpOpIn F n P (l.take m).toArray (Exit.then K2 Q) i K a w) : wpOpIn F n P l.toArray Q i K' a w := by
  have ho : l[i]? = some l[i] := List.getElem?_eq_getElem (by omega)
  have h1 : (l.take m).toArray[i]? = some l[i] := by simp [hi]
  have h2 : l.toArray[i]? = some l[i] := by simp
  have hg1 : (l[i]'(by omega)).guard = none := by
    unfold noGuardB at hg
    rw [List.all_eq_true] at hg
    have := hg _ (List.getElem_mem (show i < l.length by omega))
    simpa using this
  unfold wpOpIn at *
  simp only [h1] at h
  simp only [h2]
  simp only [Region.wanted, hg1, if_true] at h ⊢
  exact Oper.wpIn_mono hK (uponIn_then h)
/-- the operations behind the m-th come one after the other -/
theorem wpAnyIn_tail {l : List Oper} (hd : waitsB l = true) (m : Nat) (hc : chainB l m = true) : ∀ (r k : Nat) (a : Act) (w : World), m ≤ k → k + r = l.length →
    wpOpsIn F n P l.toArray Q (List.range' k r) a w → wpAnyIn F n P .any l.toArray Q r (List.replicate k true ++ List.replicate r false).toArray a w
  | 0, k, a, w, hm, hk, h => by
    have h' : Q .normal a w := by simpa [wpOpsIn] using h
    refine ⟨?_, h'⟩
    cases hr : Region.ready .any l.toArray (List.replicate k true ++ List.replicate 0 false).toArray with
    | nil => rfl
    | cons j js =>
      have hj : j ∈ Region.ready .any l.toArray (List.replicate k true ++ List.replicate 0 false).toArray := by rw [hr]; exact List.mem_cons_self
      obtain ⟨h1, o, h2, _⟩ := mem_ready.1 hj
      have hlt : j < l.length := by have := (List.getElem?_eq_some_iff.1 (by simpa using h2 : l[j]? = some o)).1; exact this
      simp [Array.getD, show j < k by omega] at h1
  | r + 1, k, a, w, hm, hk, h => by
    have hget : ∀ j d, (List.replicate k true ++ List.replicate (r + 1) false).toArray.getD j d = if j < k then true else if j < l.length then false else d := fun j d => by
      rw [getD_toArray, List.getElem?_append, List.length_replicate, List.getElem?_replicate, List.getElem?_replicate]
      by_cases h1 : j < k
      · simp [h1]
      · by_cases h2 : j < l.length
        · simp [h1, h2, show j - k < r + 1 by omega]
        · simp [h1, h2, show ¬ j - k < r + 1 by omega]
    have hw := hd
    unfold waitsB at hw
    rw [List.all_eq_true] at hw
    have hready : ∀ j, j ∈ Region.ready .any l.toArray (List.replicate k true ++ List.replicate (r + 1) false).toArray ↔ j = k := fun j => by
      rw [mem_ready]
      constructor
      · rintro ⟨h1, o, h2, h3⟩
        have h2' : l[j]? = some o := by simpa using h2
        have hlt := (List.getElem?_eq_some_iff.1 h2').1
        rw [hget] at h1
        have hjk : ¬ j < k := fun h => by simp [h] at h1
        false_or_by_contra
        rename_i hne
        have hch := hc
        unfold chainB at hch
        rw [List.all_eq_true] at hch
        have := hch j (List.mem_range.2 hlt)
        simp only [Bool.or_eq_true, decide_eq_true_eq] at this
        rcases this with h | h
        · omega
        · obtain ⟨e, he, hb, hon⟩ := onB_spec h h2'
          have := h3 e he hb
          rw [hget, hon] at this
          have h5 : ¬ j - 1 < k := by omega
          simp [h5] at this
      · rintro rfl
        have hlt : j < l.length := by omega
        refine ⟨by rw [hget]; simp [hlt], l[j], by simp [hlt], fun e he hb => ?_⟩
        have h1 := hw j (List.mem_range.2 hlt)
        rw [List.getElem?_eq_getElem hlt] at h1
        simp only [Option.map_some, Option.getD_some] at h1
        have h2 := of_decide_eq_true ((Array.all_eq_true'.1 h1) e he)
        rw [hget]; simp [h2]
    refine ⟨fun hr => ?_, fun j hj => ?_⟩
    · have := (hready k).2 rfl
      rw [hr] at this; cases this
    · obtain rfl := (hready j).1 hj
      rw [List.range'_succ, wpOpsIn_cons] at h
      refine wpOpIn_mono (fun a' w' h' => ?_) h
      have := wpAnyIn_tail hd m hc r (j + 1) a' w' (by omega) (by omega) h'
      have e : (List.replicate j true ++ List.replicate (r + 1) false).toArray.setIfInBounds j true = (List.replicate (j + 1) true ++ List.replicate r false).toArray := by
        rw [List.setIfInBounds_toArray, List.set_append, if_neg (by simp), List.replicate_succ (n := r)]
        simp [List.replicate_succ']
      rw [e]; exact this
set_option maxHeartbeats 1600000 in
/-- **a region whose first m operations all come ahead of the rest, which come one after the other** -/
theorem wpAnyIn_cut {l : List Oper} (m : Nat) (hm : m < l.length) (hg : noGuardB l = true) (hd : waitsB l = true) (hf : feedsB l m = true) (hc : chainB l m = true) :
    ∀ (fuel : Nat) (bs : List Bool) (a : Act) (w : World), bs.length = m → (bs.filter (! ·)).length ≤ fuel →
      (∀ i o, l[i]? = some o → bs.getD i false = true → ∀ e ∈ o.after, Region.binds .any e = true → bs.getD e.on false = true) →
      wpAnyIn F n P .any (l.take m).toArray (Exit.then (wpOpsIn F n P l.toArray Q (List.range' m (l.length - m))) Q) fuel bs.toArray a w →
      wpAnyIn F n P .any l.toArray Q (fuel + (l.length - m)) (bs ++ List.replicate (l.length - m) false).toArray a w := by
  have hw := hd
  unfold waitsB at hw
  rw [List.all_eq_true] at hw
  -- what waits for what
  have hwait : ∀ i (hi : i < l.length), ∀ e ∈ l[i].after, e.on < i := fun i hi e he => by
    have h1 := hw i (List.mem_range.2 hi)
    rw [List.getElem?_eq_getElem hi] at h1
    simp only [Option.map_some, Option.getD_some] at h1
    exact of_decide_eq_true ((Array.all_eq_true'.1 h1) e he)
  have hfeed : ∀ j, j < m → ∃ i, j < i ∧ i ≤ m ∧ ∃ o, l[i]? = some o ∧ ∃ e ∈ o.after, Region.binds .any e = true ∧ e.on = j := fun j hj => by
    have h1 := hf
    unfold feedsB at h1
    rw [List.all_eq_true] at h1
    have h2 := h1 j (List.mem_range.2 hj)
    rw [List.any_eq_true] at h2
    obtain ⟨i, hi, h3⟩ := h2
    simp only [Bool.and_eq_true, decide_eq_true_eq] at h3
    have hi2 := List.mem_range.1 hi
    exact ⟨i, h3.1, by omega, l[i]'(by omega), List.getElem?_eq_getElem (by omega), onB_spec h3.2 (List.getElem?_eq_getElem (by omega))⟩
  have hgetD : ∀ (bs : List Bool), bs.length = m → ∀ j d, (bs ++ List.replicate (l.length - m) false).toArray.getD j d = if j < m then bs.getD j false else if j < l.length then false else d := fun bs hl j d => by
    have h0 : m + (l.length - m) = l.length := by omega
    rw [getD_toArray, List.getElem?_append, hl, List.getElem?_replicate, List.getD_eq_getElem?_getD]
    by_cases h1 : j < m
    · simp [h1, show j < bs.length by omega]
    · by_cases h2 : j < l.length
      · simp [h1, h2, show j - m < l.length - m by omega]
      · simp [h1, h2, show ¬ j - m < l.length - m by omega]
  have hgetP : ∀ (bs : List Bool), bs.length = m → ∀ j d, bs.toArray.getD j d = if j < m then bs.getD j false else d := fun bs hl j d => by
    rw [getD_toArray, List.getD_eq_getElem?_getD]
    by_cases h1 : j < m
    · simp [h1, show j < bs.length by omega]
    · simp [h1, show ¬ j < bs.length by omega]
  -- the m-th waits for all
  have hall : ∀ (bs : List Bool), bs.length = m → (∀ i o, l[i]? = some o → bs.getD i false = true → ∀ e ∈ o.after, Region.binds .any e = true → bs.getD e.on false = true) →
      (∀ e ∈ (l[m]'hm).after, Region.binds .any e = true → bs.getD e.on false = true) → bs = List.replicate m true := fun bs hl hcl hmm => by
    have key : ∀ d j, m - j ≤ d → j < m → bs.getD j false = true := by
      intro d
      induction d with
      | zero => intro j h1 h2; omega
      | succ d ih =>
        intro j h1 h2
        obtain ⟨i, h3, h4, o, ho, e, he, hb, rfl⟩ := hfeed j h2
        by_cases h5 : i = m
        · subst h5
          rw [List.getElem?_eq_getElem hm] at ho; cases ho
          exact hmm e he hb
        · exact hcl i o ho (ih i (by omega) (by omega)) e he hb
    rw [List.eq_replicate_iff]
    refine ⟨hl, fun b hb => ?_⟩
    obtain ⟨j, hj, rfl⟩ := List.getElem_of_mem hb
    have := key m j (by omega) (by omega)
    simpa [hj] using this
  -- what is ready here and there
  have hrd : ∀ (bs : List Bool), bs.length = m → ∀ j, j < m → (j ∈ Region.ready .any l.toArray (bs ++ List.replicate (l.length - m) false).toArray ↔ j ∈ Region.ready .any (l.take m).toArray bs.toArray) := fun bs hl j hj => by
    have hjl : j < l.length := by omega
    have e1 : l.toArray[j]? = some l[j] := by simp [hjl]
    have e2 : (l.take m).toArray[j]? = some l[j] := by simp [hj, hjl]
    rw [mem_ready, mem_ready, hgetD bs hl, hgetP bs hl, e1, e2]
    simp only [hj, if_true, Option.some.injEq, exists_eq_left']
    constructor
    · rintro ⟨h1, h2⟩
      refine ⟨h1, fun e he hb => ?_⟩
      have := h2 e he hb
      rw [hgetD bs hl] at this
      have h3 := hwait j hjl e he
      rw [hgetP bs hl]
      simpa [show e.on < m by omega] using this
    · rintro ⟨h1, h2⟩
      refine ⟨h1, fun e he hb => ?_⟩
      have := h2 e he hb
      rw [hgetP bs hl] at this
      have h3 := hwait j hjl e he
      rw [hgetD bs hl]
      simpa [show e.on < m by omega] using this
  have hdone : ∀ (bs : List Bool), bs.length = m → (∀ i o, l[i]? = some o → bs.getD i false = true → ∀ e ∈ o.after, Region.binds .any e = true → bs.getD e.on false = true) →
      bs ≠ List.replicate m true → ∃ j, j < m ∧ j ∈ Region.ready .any (l.take m).toArray bs.toArray := fun bs hl hcl hne => by
    have hex : ∃ b ∈ bs, (!b) = true := by
      false_or_by_contra
      rename_i hno
      refine hne (List.eq_replicate_iff.2 ⟨hl, fun b hb => ?_⟩)
      cases b with
      | true => rfl
      | false => exact absurd ⟨false, hb, rfl⟩ hno
    have hlt : bs.findIdx (! ·) < bs.length := List.findIdx_lt_length.2 hex
    have hf0 : bs[bs.findIdx (! ·)] = false := by have := List.findIdx_getElem (w := hlt); simpa using this
    have hlt2 : bs.findIdx (! ·) < l.length := by omega
    refine ⟨bs.findIdx (! ·), by omega, mem_ready.2 ⟨by rw [hgetP bs hl]; simp [show bs.findIdx (! ·) < m by omega, hlt, hf0], l[bs.findIdx (! ·)], by simp [show bs.findIdx (! ·) < m by omega, hlt2], fun e he _ => ?_⟩⟩
    have h3 := hwait _ hlt2 e he
    have h4 : e.on < bs.length := by omega
    have h5 := List.not_of_lt_findIdx h3
    rw [hgetP bs hl]
    simp [show e.on < m by omega, h4]
    simpa using h5
  -- at the end of the first part
  have hend : ∀ (fuel : Nat) (a : Act) (w : World), wpAnyIn F n P .any (l.take m).toArray (Exit.then (wpOpsIn F n P l.toArray Q (List.range' m (l.length - m))) Q) fuel (List.replicate m true).toArray a w →
      wpAnyIn F n P .any l.toArray Q (fuel + (l.length - m)) (List.replicate m true ++ List.replicate (l.length - m) false).toArray a w := fun fuel a w h => by
    have hnil : Region.ready .any (l.take m).toArray (List.replicate m true).toArray = [] := by
      cases hr : Region.ready .any (l.take m).toArray (List.replicate m true).toArray with
      | nil => rfl
      | cons j js =>
        have hj : j ∈ Region.ready .any (l.take m).toArray (List.replicate m true).toArray := by rw [hr]; exact List.mem_cons_self
        obtain ⟨h1, o, h2, _⟩ := mem_ready.1 hj
        have hlt : j < m := by
          have := (List.getElem?_eq_some_iff.1 (by simpa using h2 : (l.take m)[j]? = some o)).1
          rw [List.length_take] at this; omega
        rw [hgetP _ (by simp)] at h1
        simp [hlt] at h1
    have hQ : wpOpsIn F n P l.toArray Q (List.range' m (l.length - m)) a w := by
      cases fuel with
      | zero => exact h.2
      | succ f => exact h.1 hnil
    have := wpAnyIn_tail hd m hc (l.length - m) m a w (Nat.le_refl _) (by omega) hQ
    -- more fuel does no harm
    have more : ∀ (r d : Nat) (ls : Array Bool) (a : Act) (w : World), wpAnyIn F n P .any l.toArray Q r ls a w → wpAnyIn F n P .any l.toArray Q (d + r) ls a w := by
      intro r
      induction r with
      | zero =>
        intro d ls a w h
        cases d with
        | zero => exact h
        | succ d => exact ⟨fun _ => h.2, fun i hi => by rw [h.1] at hi; cases hi⟩
      | succ r ih =>
        intro d ls a w h
        exact ⟨h.1, fun i hi => wpOpIn_mono (fun a' w' h' => ih d _ a' w' h') (h.2 i hi)⟩
    exact more _ fuel _ _ _ this
  intro fuel
  induction fuel with
  | zero =>
    intro bs a w hl hc0 hcl h
    have hall2 : bs = List.replicate m true := by
      false_or_by_contra
      rename_i hne
      obtain ⟨j, _, hj⟩ := hdone bs hl hcl hne
      rw [h.1] at hj; cases hj
    subst hall2
    exact hend 0 a w h
  | succ fuel ih =>
    intro bs a w hl hc0 hcl h
    by_cases hall2 : bs = List.replicate m true
    · subst hall2; exact hend _ a w h
    · rw [Nat.succ_add]
      refine ⟨fun hr => ?_, fun j hj => ?_⟩
      · obtain ⟨j, hj, hj2⟩ := hdone bs hl hcl hall2
        rw [← hrd bs hl j hj, hr] at hj2; cases hj2
      · obtain ⟨h1, o, h2, h3⟩ := mem_ready.1 hj
        have h2' : l[j]? = some o := by simpa using h2
        have hjl := (List.getElem?_eq_some_iff.1 h2').1
        by_cases hjm : j < m
        · have hset : (bs ++ List.replicate (l.length - m) false).toArray.setIfInBounds j true = (bs.set j true ++ List.replicate (l.length - m) false).toArray := by
            rw [List.setIfInBounds_toArray, List.set_append, if_pos (by omega)]
          rw [hset]
          have hb : bs[j]? = some false := by
            rw [hgetD bs hl] at h1
            rw [List.getElem?_eq_getElem (by omega)]
            simp [hjm, hl] at h1
            rw [h1]
          refine wpOpIn_of_cut hg hjm (by omega) (fun a' w' h' => ?_) (h.2 j ((hrd bs hl j hjm).1 hj))
          refine ih (bs.set j true) a' w' (by simpa using hl) ?_ ?_ ?_
          · have := filter_set bs j hb; omega
          · intro i o' ho' hi e he hbe
            have hse : ∀ x, bs.getD x false = true → (bs.set j true).getD x false = true := fun x hx => by
              rw [List.getD_eq_getElem?_getD] at hx ⊢
              rw [List.getElem?_set]
              by_cases hjx : j = x
              · subst hjx
                rw [if_pos rfl, if_pos (by omega)]; rfl
              · rw [if_neg hjx]; exact hx
            by_cases hij : i = j
            · subst hij
              rw [h2'] at ho'; cases ho'
              have := h3 e he hbe
              rw [hgetD bs hl] at this
              have h5 := hwait i hjl
              rw [List.getElem?_eq_getElem hjl] at h2'; cases h2'
              have h6 := h5 e he
              exact hse _ (by simpa [show e.on < m by omega] using this)
            · refine hse _ (hcl i o' ho' ?_ e he hbe)
              rw [List.getD_eq_getElem?_getD, List.getElem?_set_ne (Ne.symm hij)] at hi
              rw [List.getD_eq_getElem?_getD]; exact hi
          · rw [List.setIfInBounds_toArray] at h'; exact h'
        · exfalso
          have hclm : ∀ e ∈ (l[m]'hm).after, Region.binds .any e = true → bs.getD e.on false = true := fun e he hb => by
            by_cases hjm2 : j = m
            · subst hjm2
              rw [List.getElem?_eq_getElem hjl] at h2'; cases h2'
              have := h3 e he hb
              rw [hgetD bs hl] at this
              have h6 := hwait j hjl e he
              simpa [h6] using this
            · have hch := hc
              unfold chainB at hch
              rw [List.all_eq_true] at hch
              have := hch j (List.mem_range.2 hjl)
              simp only [Bool.or_eq_true, decide_eq_true_eq] at this
              rcases this with h | h
              · omega
              · obtain ⟨e', he', hb', hon⟩ := onB_spec h h2'
                have := h3 e' he' hb'
                rw [hgetD bs hl, hon] at this
                simp [show ¬ j - 1 < m by omega] at this
          exact hall2 (hall bs hl hcl hclm)
/-- **A REGION THAT DRAWS ITS ORDER: its first m operations are quiet, the rest, behind all of them, comes one after the other.** -/
theorem wpIn_region_cut {id : Nat} {a : Act} {w : World} {l : List Oper} {C : World → Prop} (m : Nat) (hro : F.round = none) (hpm : P.follows .mixedOrders = true)
    (hck : (decide (m < l.length) && (noGuardB l && (waitsB l && (feedsB l m && (chainB l m && Region.lexB .any (l.take m).toArray))))) = true) (hC : C w.drew)
    (h : wpQuietIn F n P (l.take m).toArray C (fun a' => ∀ w', C w' → wpListIn F n P l.toArray Q (l.drop m) a' w') (l.take m) a) : (Code.region id l.toArray true).wpIn F n P Q a w := by
  simp only [Bool.and_eq_true, decide_eq_true_eq] at hck
  obtain ⟨hm, hg, hd, hf, hc, hB⟩ := hck
  simp only [Region.lexB, Bool.and_eq_true] at hB
  refine wpIn_region_any hpm ?_
  have hlen : (l.take m).length = m := by rw [List.length_take]; omega
  have h1 := wpAnyQIn_lex (F := F) (n := n) (C := C) (md := .any) hB.1 (l.take m) 0 (Array.replicate (l.take m).toArray.size false) a (by simp) (by simpa using hB.2) h
  have h2 := wpAnyIn_of_quiet (Q' := Exit.then (wpOpsIn F n P l.toArray Q (List.range' m (l.length - m))) Q) hro (fun a w' hw' hq => by
    show wpOpsIn F n P l.toArray Q (List.range' m (l.length - m)) a w'
    have e := wpOpsIn_eq_wpListIn (F := F) (n := n) (P := P) (Q := Q) (ops := l.toArray) (l.drop m) m (fun j => by simp)
    rw [List.length_drop] at e
    rw [e]; exact hq w' hw') _ _ _ w.drew hC h1
  have e1 : Array.replicate (l.take m).toArray.size false = (List.replicate m false).toArray := by simp [hlen]
  have e2 : (l.take m).length = m := hlen
  rw [e1, e2] at h2
  have h3 := wpAnyIn_cut m hm hg hd hf hc m (List.replicate m false) a w.drew (by simp) (by simp) (fun i o _ hi => by
    exfalso
    rw [List.getD_eq_getElem?_getD] at hi
    by_cases h : i < m <;> simp [h] at hi) h2
  have e3 : m + (l.length - m) = l.length := by omega
  have e4 : (List.replicate m false ++ List.replicate (l.length - m) false) = List.replicate l.length false := by rw [List.replicate_append_replicate, e3]
  rw [e3, e4] at h3
  simpa using h3
end

def Lasts (B : Nat) (I : World → Prop) : Prop :=
  ∀ W W' row, I W → W.grownBy W' row → (∀ r, row = some r → B ≤ r ∧ ∃ o : Obj, W.heap[r]? = some o ∧ o.isCells = false) → I W'
theorem Lasts.put {B : Nat} {I : World → Prop} (h : Lasts B I) {W : World} {l : Nat} {o : Obj} (o' : Obj) (hi : I W) (hB : B ≤ l) (hl : W.heap[l]? = some o) (ho : o.isCells = false) : I (W.putObj l o') :=
  h W _ (some l) hi (grownBy_putObj' W l o') (fun r e => by cases e; exact ⟨hB, o, hl, ho⟩)
theorem Lasts.grow {B : Nat} {I : World → Prop} (h : Lasts B I) {W W' : World} (hi : I W) (hb : Below W.heap.size W W') : I W' :=
  h W W' none hi ⟨hb.os, hb.tape, hb.output, hb.size, fun k hk _ => hb.block k hk⟩ (fun r e => by cases e)
theorem Lasts.and {B : Nat} {I I' : World → Prop} (h : Lasts B I) (h' : Lasts B I') : Lasts B (fun W => I W ∧ I' W) := fun W W' row hi hg hr => ⟨h W W' row hi.1 hg hr, h' W W' row hi.2 hg hr⟩
theorem lasts_pure (B : Nat) (p : Prop) : Lasts B (fun _ => p) := fun _ _ _ hi _ _ => hi
theorem lasts_size (B m : Nat) : Lasts B (fun W => m ≤ W.heap.size) := fun _ _ _ hi hg _ => Nat.le_trans hi hg.size
theorem lasts_below (B n₀ : Nat) (w : World) (hB : n₀ ≤ B) (hw : n₀ ≤ w.heap.size) : Lasts B (fun W => Below n₀ w W) := fun _ _ _ hi hg hr =>
  hi.grown hg (Nat.le_trans hw hi.size) (fun k e => Nat.le_trans hB (hr k e).1)
theorem lasts_row (B g : Nat) (E : TypeId) (vs : List Value) : Lasts B (fun W => Row W g E vs) := fun W W' row hi hg hr => by
  show W'.heap[g]? = _
  rw [hg.block g (Row.lt hi) (fun e => by
    obtain ⟨_, o, ho, hc⟩ := hr g e.symm
    rw [show W.heap[g]? = _ from hi] at ho; cases ho; cases hc)]
  exact hi
theorem lasts_cell (B : Nat) (a : Addr) (v : Value) : Lasts B (fun W => W.cell? a = some v) := fun _ _ _ hi hg hr => cell_kept hi hg (fun r e => (hr r e).2)
theorem Lasts.own {B : Nat} {β : Type} {I : β → World → Prop} (h : ∀ s, Lasts B (I s)) : OwnFrom B I := fun s W W' row hi hg hr => h s W W' row hi hg hr
theorem Row.kept {W W' : World} {g : Nat} {E : TypeId} {vs : List Value} {row : Option Nat} (h : Row W g E vs) (hg : W.grownBy W' row) (hne : some g ≠ row) : Row W' g E vs := by
  show W'.heap[g]? = _
  rw [hg.block g h.lt hne]
  exact h
theorem one_set (W : World) (b i : Nat) (v : Value) : W.grownBy (W.setCell ⟨b, i, none⟩ v) (some b) :=
  ⟨rfl, rfl, rfl, (KeepsWalks.setCell W _ v).size, fun k _ hk => Below.heap_setCell _ _ _ k (fun e => hk (by rw [e]))⟩
def putAll (a : Act) : List Nat → List Value → Act
  | s :: ss, v :: vs => putAll (a.put (some s) v) ss vs
  | _, _ => a

section
variable {P : Program} {Q : Exit → Act → World → Prop}
theorem upon_then {o : Oper} {a : Act} {w : World} {next K : Act → World → Prop} (h : o.wp P a w next (Exit.then K Q)) : o.wp P a w next Q := by
  unfold Oper.wp at *
  generalize (execOp a.eval o).run P w = r at *
  cases r with
  | ok x w' => cases x <;> exact h
  | halt x w' => cases x <;> exact h
theorem wpOp_of_list {ops : Array Oper} {i : Nat} {o : Oper} {K : Act → World → Prop} {a : Act} {w : World} (ho : ops[i]? = some o) (h : wpList P ops (Exit.then K Q) [o] a w) : wpOp P ops Q i K a w := by
  unfold wpOp
  simp only [ho]
  unfold wpList at h
  split
  · rename_i hw
    rw [if_pos hw] at h
    exact h.imp (fun h => upon_then h) (fun h => h)
  · rename_i hw
    rw [if_neg hw] at h; exact h
end
/-- each operation waits for earlier ones alone, of the edges that bind -/
def waitsC (l : List Oper) : Bool := (List.range l.length).all fun i => ((l[i]?).map fun o => o.after.all fun e => !Region.binds .any e || decide (e.on < i)).getD true
section
variable {P : Program} {Q : Exit → Act → World → Prop}
/-- a region whose order is open, by an invariant over what has come up -/
theorem wp_region_inv2 {id : Nat} {a : Act} {w : World} {l : List Oper} (hm : P.follows .mixedOrders = true) (hd : waitsC l = true) (I : List Bool → Act → World → Prop) (h0 : I (List.replicate l.length false) a w.drew)
    (hstep : ∀ (i : Nat) (o : Oper) (bs : List Bool) (a : Act) (w : World), l[i]? = some o → I bs a w → bs.length = l.length → bs[i]? = some false → (∀ e ∈ o.after, Region.binds .any e = true → bs.getD e.on false = true) →
      wpOp P l.toArray Q i (fun a' w' => I (bs.set i true) a' w') a w)
    (hend : ∀ a w, I (List.replicate l.length true) a w → Q .normal a w) : (Code.region id l.toArray true).wp P Q a w := by
  refine wp_region_any hm ?_
  have key : ∀ (fuel : Nat) (bs : List Bool) (a : Act) (w : World), bs.length = l.length → (bs.filter (! ·)).length ≤ fuel → I bs a w → wpAny P .any l.toArray Q fuel bs.toArray a w := by
    intro fuel
    induction fuel with
    | zero =>
      intro bs a w hl hf hI
      have hall : bs = List.replicate l.length true := by
        rw [List.eq_replicate_iff]
        refine ⟨hl, fun b hb => ?_⟩
        cases b with
        | true => rfl
        | false =>
          have : false ∈ bs.filter (! ·) := List.mem_filter.2 ⟨hb, rfl⟩
          have := List.length_pos_of_mem this; omega
      subst hall
      refine ⟨?_, hend a w hI⟩
      cases hr : Region.ready .any l.toArray (List.replicate l.length true).toArray with
      | nil => rfl
      | cons j js =>
        have hj : j ∈ Region.ready .any l.toArray (List.replicate l.length true).toArray := by rw [hr]; exact List.mem_cons_self
        obtain ⟨h1, o, h2, _⟩ := mem_ready.1 hj
        have hlt : j < l.length := by have := (List.getElem?_eq_some_iff.1 (by simpa using h2 : l[j]? = some o)).1; exact this
        simp [Array.getD, hlt] at h1
    | succ fuel ih =>
      intro bs a w hl hf hI
      have hset : ∀ (i : Nat), (bs.toArray.setIfInBounds i true) = (bs.set i true).toArray := fun i => by simp
      by_cases hall : bs = List.replicate l.length true
      · subst hall
        refine ⟨fun _ => hend a w hI, fun j hj => ?_⟩
        obtain ⟨h1, o, h2, _⟩ := mem_ready.1 hj
        have hlt : j < l.length := by have := (List.getElem?_eq_some_iff.1 (by simpa using h2 : l[j]? = some o)).1; exact this
        simp [Array.getD, hlt] at h1
      · refine ⟨fun hr => ?_, fun j hj => ?_⟩
        · exfalso
          have hex : ∃ b ∈ bs, (!b) = true := by
            false_or_by_contra
            rename_i hno
            refine hall (List.eq_replicate_iff.2 ⟨hl, fun b hb => ?_⟩)
            cases b with
            | true => rfl
            | false => exact absurd ⟨false, hb, rfl⟩ hno
          have hlt : bs.findIdx (! ·) < bs.length := List.findIdx_lt_length.2 hex
          have hf0 : bs[bs.findIdx (! ·)] = false := by have := List.findIdx_getElem (w := hlt); simpa using this
          have hlt2 : bs.findIdx (! ·) < l.length := by omega
          have hmem : bs.findIdx (! ·) ∈ Region.ready .any l.toArray bs.toArray := by
            refine mem_ready.2 ⟨by simp [Array.getD, hlt, hf0], l[bs.findIdx (! ·)], by simp [hlt2], fun e he hbd => ?_⟩
            unfold waitsC at hd
            rw [List.all_eq_true] at hd
            have h1 := hd _ (List.mem_range.2 hlt2)
            rw [List.getElem?_eq_getElem hlt2] at h1
            simp only [Option.map_some, Option.getD_some] at h1
            have h2 := (Array.all_eq_true'.1 h1) e he
            rw [hbd] at h2
            have h3 : e.on < bs.findIdx (! ·) := by simpa using h2
            have h4 : e.on < bs.length := by omega
            have h5 := List.not_of_lt_findIdx h3
            simp [Array.getD, h4]
            simpa using h5
          rw [hr] at hmem; cases hmem
        · obtain ⟨h1, o, h2, h3⟩ := mem_ready.1 hj
          have h2' : l[j]? = some o := by simpa using h2
          have hlt : j < l.length := (List.getElem?_eq_some_iff.1 h2').1
          have hb : bs[j]? = some false := by
            rw [List.getElem?_eq_getElem (by omega)]
            simp [Array.getD, show j < bs.length by omega] at h1
            rw [h1]
          refine wpOp_mono (fun a' w' h => ?_) (hstep j o bs a w h2' hI hl hb (fun e he hb => by have := h3 e he hb; rw [List.getD_eq_getElem?_getD]; simp only [Array.getD, List.size_toArray] at this; split at this <;> simp_all))
          rw [hset]
          have := filter_set bs j hb
          exact ih _ _ _ (by simpa using hl) (by omega) h
  have := key l.length (List.replicate l.length false) a w.drew (by simp) (by simp) h0
  simpa using this
/-- the same, with the slots that the region writes told apart -/
theorem wp_region_slots2 {id : Nat} {a : Act} {w : World} {l : List Oper} (hm : P.follows .mixedOrders = true) (hd : waitsC l = true) (slots : List Nat) (J : List Bool → List Value → World → Prop)
    (h0 : ∃ vs, a = putAll a slots vs ∧ J (List.replicate l.length false) vs w.drew)
    (hstep : ∀ (i : Nat) (o : Oper) (bs : List Bool) (vs : List Value) (w : World) (K : Act → World → Prop), l[i]? = some o → J bs vs w → bs.length = l.length → bs[i]? = some false → (∀ e ∈ o.after, Region.binds .any e = true → bs.getD e.on false = true) →
      (∀ vs' w', J (bs.set i true) vs' w' → K (putAll a slots vs') w') → wpOp P l.toArray Q i K (putAll a slots vs) w)
    (hend : ∀ vs w, J (List.replicate l.length true) vs w → Q .normal (putAll a slots vs) w) : (Code.region id l.toArray true).wp P Q a w := by
  refine wp_region_inv2 hm hd (fun bs a' w' => ∃ vs, a' = putAll a slots vs ∧ J bs vs w') h0 ?_ ?_
  · rintro i o bs a' w' ho ⟨vs, rfl, hJ⟩ hl hb hw
    exact hstep i o bs vs w' _ ho hJ hl hb hw (fun vs' w'' h => ⟨vs', rfl, h⟩)
  · rintro a' w' ⟨vs, rfl, hJ⟩
    exact hend vs w' hJ
end
section
variable {P : Program} {Q : Exit → Act → World → Prop}
/-- what has come up holds with what it waits for -/
def closedB (l : List Oper) (bs : List Bool) : Prop := ∀ (j : Nat) (o : Oper), l[j]? = some o → bs[j]? = some true → ∀ e ∈ o.after, Region.binds .any e = true → bs[e.on]? = some true
/-- each operation puts one value, and the world is told by what has come up -/
def stSteps (P : Program) (Q : Exit → Act → World → Prop) (l : List Oper) (a : Act) (slots : List Nat) (val : List Value) (wf : List Bool → World) (len : Nat) : List Oper → Nat → Prop
  | [], _ => True
  | o :: rest, i => (∀ (vs : List Value) (bs : List Bool) (K : Act → World → Prop), vs.length = len → bs.length = len → closedB l bs → bs[i]? = some false → (∀ e ∈ o.after, Region.binds .any e = true → bs[e.on]? = some true ∧ vs[e.on]? = val[e.on]?) →
      K (putAll a slots (vs.set i (val.getD i undef))) (wf (bs.set i true)) → wpList P l.toArray (Exit.then K Q) [o] (putAll a slots vs) (wf bs)) ∧ stSteps P Q l a slots val wf len rest (i + 1)
theorem stSteps_get {l0 : List Oper} {a : Act} {slots : List Nat} {val : List Value} {wf : List Bool → World} {len : Nat} : ∀ {l : List Oper} {k i : Nat} {o : Oper}, stSteps P Q l0 a slots val wf len l k → l[i]? = some o →
    ∀ (vs : List Value) (bs : List Bool) (K : Act → World → Prop), vs.length = len → bs.length = len → closedB l0 bs → bs[k + i]? = some false → (∀ e ∈ o.after, Region.binds .any e = true → bs[e.on]? = some true ∧ vs[e.on]? = val[e.on]?) →
      K (putAll a slots (vs.set (k + i) (val.getD (k + i) undef))) (wf (bs.set (k + i) true)) → wpList P l0.toArray (Exit.then K Q) [o] (putAll a slots vs) (wf bs)
  | [], _, _, _, _, h => by simp at h
  | o :: rest, k, 0, o', hd, h => by
    simp at h; subst h
    exact hd.1
  | o :: rest, k, i + 1, o', hd, h => by
    have := stSteps_get (l := rest) (k := k + 1) (i := i) hd.2 (by simpa using h)
    rw [show k + 1 + i = k + (i + 1) by omega] at this
    exact this
theorem wp_region_st {id : Nat} {a : Act} {w : World} {l : List Oper} (hm : P.follows .mixedOrders = true) (hd : waitsC l = true) (slots : List Nat) (val : List Value) (wf : List Bool → World) (len : Nat) (hlen : l.length = len) (hvl : val.length = len)
    (h0 : ∃ vs, a = putAll a slots vs ∧ vs.length = len) (hw0 : wf (List.replicate len false) = w.drew)
    (hsteps : stSteps P Q l a slots val wf len l 0)
    (hend : Q .normal (putAll a slots val) (wf (List.replicate len true))) : (Code.region id l.toArray true).wp P Q a w := by
  obtain ⟨vs0, e0, el0⟩ := h0
  refine wp_region_slots2 hm hd slots (fun (bs : List Bool) (vs : List Value) W => W = wf bs ∧ bs.length = len ∧ vs.length = len ∧ closedB l bs ∧ ∀ i : Nat, bs[i]? = some true → vs[i]? = val[i]?) ⟨vs0, e0, by rw [hlen]; exact hw0.symm, by rw [List.length_replicate]; exact hlen, el0, fun j o hj hb => ?_, fun i hi => ?_⟩ ?_ ?_
  · rw [List.getElem?_replicate] at hb
    split at hb <;> simp at hb
  · rw [List.getElem?_replicate] at hi
    split at hi <;> simp at hi
  · rintro i o bs vs W K ho ⟨rfl, hbl, hl, hcl, hv⟩ _ hb hw hK
    have hdep : ∀ e ∈ o.after, Region.binds .any e = true → bs[e.on]? = some true := fun e he hbe => by
      have h := hw e he hbe
      rw [List.getD_eq_getElem?_getD] at h
      cases h2 : bs[e.on]? with
      | none => rw [h2] at h; simp at h
      | some b => rw [h2] at h; simp at h; rw [h]
    have hi : i < len := by rw [← hlen]; exact (List.getElem?_eq_some_iff.1 ho).1
    refine wpOp_of_list (by simpa using ho) ?_
    refine stSteps_get hsteps ho vs bs K hl hbl hcl (by simpa using hb) (fun e he hbe => ⟨hdep e he hbe, hv _ (hdep e he hbe)⟩) ?_
    rw [Nat.zero_add]
    refine hK _ _ ⟨rfl, by rw [List.length_set]; exact hbl, by rw [List.length_set]; exact hl, fun j o' hj hbj e he hbe => ?_, fun j hj => ?_⟩
    · by_cases hij : i = j
      · subst hij
        rw [ho] at hj; cases hj
        have := hdep e he hbe
        by_cases hie : i = e.on
        · rw [← hie, List.getElem?_set_self (by omega)]
        · rw [List.getElem?_set_ne hie]; exact this
      · rw [List.getElem?_set_ne hij] at hbj
        have := hcl j o' hj hbj e he hbe
        by_cases hie : i = e.on
        · rw [← hie, List.getElem?_set_self (by omega)]
        · rw [List.getElem?_set_ne hie]; exact this
    · by_cases hij : i = j
      · subst hij
        rw [List.getElem?_set_self (by omega), List.getD_eq_getElem?_getD, List.getElem?_eq_getElem (by omega)]; rfl
      · rw [List.getElem?_set_ne hij] at hj ⊢
        exact hv j hj
  · rintro vs W ⟨rfl, hbl, hl, hcl, hv⟩
    have : vs = val := by
      refine List.ext_getElem? fun i => ?_
      by_cases hi : i < len
      · exact hv i (by rw [List.getElem?_replicate, if_pos (by omega)])
      · rw [List.getElem?_eq_none (by omega), List.getElem?_eq_none (by omega)]
    subst this
    rw [hlen]
    exact hend
end
theorem st_get {vs val : List Value} {n : Nat} (h : vs[n]? = val[n]?) {x y : Value} (hx : vs[n]? = some x) (hy : val[n]? = some y) : x = y := by
  rw [hx, hy] at h; cases h; rfl

theorem lasts_owns (B base e size : Nat) (v : Value) (n : Nat) (xs : List Value) : Lasts B (fun W => W.ownsRow base e size v n xs) := fun W W' row hi hg hr => by
  refine hi.kept hg ?_
  rcases hi.2 with ⟨rfl, _⟩ | ⟨g, cap, cur, rfl, _, hh, _⟩
  · exact .inl rfl
  · refine .inr (fun e => ?_)
    obtain ⟨_, o, ho, hc⟩ := hr g (by rw [← e]; rfl)
    rw [hh] at ho; cases ho; cases hc
theorem owns_mono {w : World} {base base' : Nat} {e : TypeId} {size : Nat} {v : Value} {n : Nat} {xs : List Value} (h : w.ownsRow base e size v n xs) (hb : base' ≤ base) : w.ownsRow base' e size v n xs := by
  refine ⟨h.1, ?_⟩
  rcases h.2 with h2 | ⟨g, cap, cur, h1, h2, h3⟩
  · exact .inl h2
  · exact .inr ⟨g, cap, cur, h1, Nat.le_trans hb h2, h3⟩
abbrev Pt := Int × Int
def ptAt (ps : List Pt) (i : Nat) : Pt := ps.getD i (0, 0)
theorem ptAt_lt {ps : List Pt} {i : Nat} (h : i < ps.length) : ptAt ps i = ps[i] := by
  unfold ptAt; simp [h]
structure PtsAt (w : World) (b o : Nat) (ps : List Pt) : Prop where
  lt : b < w.heap.size
  x : ∀ i (h : i < ps.length), w.cell? ⟨b, o + i * 2, none⟩ = some (.int .i64 ps[i].1)
  y : ∀ i (h : i < ps.length), w.cell? ⟨b, o + i * 2 + 1, none⟩ = some (.int .i64 ps[i].2)

theorem PtsAt.below {B : Nat} {w w' : World} {b o : Nat} {ps : List Pt} (h : PtsAt w b o ps) (hb : Below B w w') (hB : b < B) : PtsAt w' b o ps :=
  ⟨Nat.lt_of_lt_of_le h.lt hb.size, fun i hi => below_at hb hB (h.x i hi), fun i hi => below_at hb hB (h.y i hi)⟩
theorem PtsAt.grow {w w' : World} {b o : Nat} {ps : List Pt} (h : PtsAt w b o ps) (hb : Below w.heap.size w w') : PtsAt w' b o ps := h.below hb h.lt

def flat : List Pt → List Value
  | [] => []
  | p :: ps => .int .i64 p.1 :: .int .i64 p.2 :: flat ps

theorem flat_get : ∀ (ps : List Pt) (i : Nat) (h : i < ps.length), (flat ps)[i * 2]? = some (.int .i64 ps[i].1) ∧ (flat ps)[i * 2 + 1]? = some (.int .i64 ps[i].2)
  | p :: ps, 0, _ => ⟨rfl, rfl⟩
  | p :: ps, i + 1, h => by
    have := flat_get ps i (by simpa using h)
    rw [show (i + 1) * 2 = i * 2 + 2 by omega]
    simpa [flat] using this
theorem flat_length : ∀ ps : List Pt, (flat ps).length = ps.length * 2
  | [] => rfl
  | p :: ps => by simp [flat, flat_length ps]; omega
def OwnP (W : World) (n₀ : Nat) (v : Value) (ps : List Pt) : Prop := W.ownsRow n₀ 28 2 v ps.length (flat ps)
theorem OwnP.open {W : World} {n₀ : Nat} {v : Value} {ps : List Pt} (h : OwnP W n₀ v ps) : ∃ a c, v = .slice a ps.length c ∧ (a = none ∧ c = 0 ∧ ps = [] ∨ ∃ g, n₀ ≤ g ∧ a = some ⟨g, 0, none⟩ ∧ PtsAt W g 0 ps ∧ ps.length ≤ c) := by
  have h0 := h
  rcases h.2 with ⟨rfl, hn⟩ | ⟨g, cap, cur, rfl, hg, hgb, hc, _⟩
  · have : ps = [] := List.eq_nil_of_length_eq_zero hn
    subst this
    exact ⟨none, 0, rfl, .inl ⟨rfl, rfl, rfl⟩⟩
  · have hlt := (Array.getElem?_eq_some_iff.1 hgb).1
    refine ⟨_, _, rfl, .inr ⟨g, hg, rfl, ⟨hlt, fun i hi => ?_, fun i hi => ?_⟩, hc⟩⟩
    · have := World.ownsRow.cells h0 (g := g) rfl (i * 2) _ (flat_get ps i hi).1
      rw [Go.WideShapes.add_plain] at this
      simpa using this
    · have := World.ownsRow.cells h0 (g := g) rfl (i * 2 + 1) _ (flat_get ps i hi).2
      rw [Go.WideShapes.add_plain] at this
      simpa using this
theorem own_grow {W W' : World} {n₀ e s k : Nat} {u : Value} {xs : List Value} (h : W.ownsRow n₀ e s u k xs) (hb : Below W.heap.size W W') : W'.ownsRow n₀ e s u k xs :=
  h.kept (row := none) ⟨hb.os, hb.tape, hb.output, hb.size, fun k hk _ => hb.block k hk⟩ (by
    cases h : u.ownBlock with
    | none => exact .inl rfl
    | some g => right; simp)
theorem grown_set (w : World) (a : Addr) (u : Value) : w.grownBy (w.setCell a u) (some a.block) := ⟨rfl, rfl, rfl, by simp [World.setCell], fun k _ h => Below.heap_setCell _ _ _ _ (fun e => h (by rw [e]))⟩
theorem grown_drew (w : World) (row : Option Nat) : w.grownBy w.drew row := ⟨rfl, rfl, rfl, Nat.le_refl _, fun _ _ _ => rfl⟩
section
variable {P : Program} {Q : Exit → Act → World → Prop}
/-- each operation of a region puts a value of its kind, whatever has come up besides what it waits for -/
def relSteps (P : Program) (Q : Exit → Act → World → Prop) (ops : Array Oper) (a : Act) (slots : List Nat) (R : List (Value → World → Prop)) (w₀ : World) (len : Nat) : List Oper → Nat → Prop
  | [], _ => True
  | o :: rest, i => (∀ (vs : List Value) (w : World) (K : Act → World → Prop), Below w₀.heap.size w₀ w → vs.length = len → (∀ e ∈ o.after, Region.binds .any e = true → ∃ v, vs[e.on]? = some v ∧ (R.getD e.on (fun _ _ => True)) v w) →
      (∀ v' w', Below w.heap.size w w' → (R.getD i (fun _ _ => True)) v' w' → K (putAll a slots (vs.set i v')) w') → wpList P ops (Exit.then K Q) [o] (putAll a slots vs) w) ∧ relSteps P Q ops a slots R w₀ len rest (i + 1)
theorem relSteps_get {ops : Array Oper} {a : Act} {slots : List Nat} {R : List (Value → World → Prop)} {w₀ : World} {len : Nat} : ∀ {l : List Oper} {k i : Nat} {o : Oper}, relSteps P Q ops a slots R w₀ len l k → l[i]? = some o →
    ∀ (vs : List Value) (w : World) (K : Act → World → Prop), Below w₀.heap.size w₀ w → vs.length = len → (∀ e ∈ o.after, Region.binds .any e = true → ∃ v, vs[e.on]? = some v ∧ (R.getD e.on (fun _ _ => True)) v w) →
      (∀ v' w', Below w.heap.size w w' → (R.getD (k + i) (fun _ _ => True)) v' w' → K (putAll a slots (vs.set (k + i) v')) w') → wpList P ops (Exit.then K Q) [o] (putAll a slots vs) w
  | [], _, _, _, _, h => by simp at h
  | o :: rest, k, 0, o', hd, h => by
    simp at h; subst h
    exact hd.1
  | o :: rest, k, i + 1, o', hd, h => by
    have := relSteps_get (l := rest) (k := k + 1) (i := i) hd.2 (by simpa using h)
    rw [show k + 1 + i = k + (i + 1) by omega] at this
    exact this
theorem wp_region_rel {id : Nat} {a : Act} {w : World} {l : List Oper} (hm : P.follows .mixedOrders = true) (hd : waitsC l = true) (slots : List Nat) (R : List (Value → World → Prop)) (len : Nat) (hlen : l.length = len)
    (hstab : ∀ r ∈ R, ∀ (v : Value) (W W' : World), r v W → Below W.heap.size W W' → r v W')
    (h0 : ∃ vs, a = putAll a slots vs ∧ vs.length = len)
    (hsteps : relSteps P Q l.toArray a slots R w len l 0)
    (hend : ∀ vs W, Below w.heap.size w W → vs.length = len → (∀ i, i < len → ∃ v, vs[i]? = some v ∧ (R.getD i (fun _ _ => True)) v W) → Q .normal (putAll a slots vs) W) : (Code.region id l.toArray true).wp P Q a w := by
  obtain ⟨vs0, e0, el0⟩ := h0
  have hst : ∀ i v W W', (R.getD i (fun _ _ => True)) v W → Below W.heap.size W W' → (R.getD i (fun _ _ => True)) v W' := fun i v W W' h hb => by
    by_cases hi : i < R.length
    · rw [List.getD_eq_getElem?_getD, List.getElem?_eq_getElem hi] at h ⊢
      exact hstab _ (List.getElem_mem hi) v W W' h hb
    · rw [List.getD_eq_getElem?_getD, List.getElem?_eq_none (by omega)] at h ⊢
      exact trivial
  refine wp_region_slots2 hm hd slots (fun (bs : List Bool) (vs : List Value) W => Below w.heap.size w W ∧ vs.length = len ∧ ∀ i : Nat, bs[i]? = some true → ∃ v, vs[i]? = some v ∧ (R.getD i (fun _ _ => True)) v W) ⟨vs0, e0, (Below.refl _ _).drew, el0, fun i hi => ?_⟩ ?_ ?_
  · rw [List.getElem?_replicate] at hi
    split at hi <;> simp at hi
  · rintro i o bs vs W K ho ⟨hc, hl, hv⟩ hbl hb hw hK
    refine wpOp_of_list (by simpa using ho) ?_
    refine relSteps_get hsteps ho vs W K hc hl (fun e he hbe => ?_) (fun v' W' hbb hr => hK _ _ ⟨Below.andThen hc hbb (Nat.le_refl _), by rw [List.length_set]; exact hl, fun j hj => ?_⟩)
    · have h := hw e he hbe
      rw [List.getD_eq_getElem?_getD] at h
      refine hv _ ?_
      cases h2 : bs[e.on]? with
      | none => rw [h2] at h; simp at h
      | some b => rw [h2] at h; simp at h; rw [h]
    · by_cases hij : i = j
      · subst hij
        have hlt : i < l.length := (List.getElem?_eq_some_iff.1 ho).1
        refine ⟨v', ?_, by simpa using hr⟩
        rw [Nat.zero_add, List.getElem?_set_self (by omega)]
      · rw [List.getElem?_set_ne hij] at hj
        obtain ⟨v, h1, h2⟩ := hv j hj
        exact ⟨v, by rw [Nat.zero_add, List.getElem?_set_ne hij]; exact h1, hst _ _ _ _ h2 hbb⟩
  · rintro vs W ⟨hc, hl, hv⟩
    exact hend vs W hc hl (fun i hi => hv i (by rw [List.getElem?_replicate, if_pos (by omega)]))
end

theorem len_cons {vs : List Value} {n : Nat} (h : vs.length = n + 1) : ∃ x r, vs = x :: r ∧ r.length = n := by
  cases vs with
  | nil => simp at h
  | cons x r => exact ⟨x, r, rfl, by simpa using h⟩
def LitR (x : Value) : Value → World → Prop := fun v _ => v = x
theorem LitR.stab (x : Value) : ∀ (v : Value) (W W' : World), LitR x v W → Below W.heap.size W W' → LitR x v W' := fun _ _ _ h _ => h
theorem rel_get {vs : List Value} {n : Nat} {R : Value → World → Prop} {W : World} (h : ∃ v, vs[n]? = some v ∧ R v W) {x : Value} (hx : vs[n]? = some x) : R x W := by
  obtain ⟨v, h1, h2⟩ := h
  rw [hx] at h1
  cases h1
  exact h2
theorem cell_one_at (w : World) (x : Value) (t : TypeId) (n : Nat) (hn : w.heap.size = n) : ∀ j u, [x][j]? = some u → (w.alloc (.cells #[x] t)).cell? ((⟨n, 0, none⟩ : Addr).add j) = some u := by
  subst hn; exact cell_one_new w x t
theorem own_below {W0 W w2 : World} {o : Obj} {k : Nat} {v : Value} {xs : List Value} (h : W.ownsRow W0.heap.size 3 1 v k xs) (hb : Below W0.heap.size W0 W) (hg : (W.alloc o).grownBy w2 v.ownBlock) : Below W0.heap.size W0 w2 :=
  (Below.al hb (Nat.le_refl _) o).grown hg (Nat.le_trans hb.size (by simp)) (fun r e => by
    rcases h.2 with ⟨rfl, _⟩ | ⟨g', cap, cur, rfl, h1, _⟩
    · simp [Value.ownBlock] at e
    · simp [Value.ownBlock] at e; omega)
section
variable {F : Fence} {n : Nat} {P : Program} {Q : Exit → Act → World → Prop}
theorem wpOpIn_of_list {ops : Array Oper} {i : Nat} {o : Oper} {K : Act → World → Prop} {a : Act} {w : World} (ho : ops[i]? = some o) (h : wpListIn F n P ops (Exit.then K Q) [o] a w) : wpOpIn F n P ops Q i K a w := by
  unfold wpOpIn
  simp only [ho]
  unfold wpListIn at h
  split
  · rename_i hw
    rw [if_pos hw] at h
    exact uponIn_then h
  · rename_i hw
    rw [if_neg hw] at h; exact h
/-- a region whose order is open, by an invariant over what has come up -/
theorem wpIn_region_inv {id : Nat} {a : Act} {w : World} {l : List Oper} (hm : P.follows .mixedOrders = true) (hd : waitsB l = true) (I : List Bool → Act → World → Prop) (h0 : I (List.replicate l.length false) a w.drew)
    (hstep : ∀ (i : Nat) (o : Oper) (bs : List Bool) (a : Act) (w : World), l[i]? = some o → I bs a w → bs.length = l.length → bs[i]? = some false → (∀ e ∈ o.after, Region.binds .any e = true → bs.getD e.on false = true) →
      wpOpIn F n P l.toArray Q i (fun a' w' => I (bs.set i true) a' w') a w)
    (hend : ∀ a w, I (List.replicate l.length true) a w → Q .normal a w) : (Code.region id l.toArray true).wpIn F n P Q a w := by
  refine wpIn_region_any hm ?_
  have key : ∀ (fuel : Nat) (bs : List Bool) (a : Act) (w : World), bs.length = l.length → (bs.filter (! ·)).length ≤ fuel → I bs a w → wpAnyIn F n P .any l.toArray Q fuel bs.toArray a w := by
    intro fuel
    induction fuel with
    | zero =>
      intro bs a w hl hf hI
      have hall : bs = List.replicate l.length true := by
        rw [List.eq_replicate_iff]
        refine ⟨hl, fun b hb => ?_⟩
        cases b with
        | true => rfl
        | false =>
          have : false ∈ bs.filter (! ·) := List.mem_filter.2 ⟨hb, rfl⟩
          have := List.length_pos_of_mem this; omega
      subst hall
      refine ⟨?_, hend a w hI⟩
      cases hr : Region.ready .any l.toArray (List.replicate l.length true).toArray with
      | nil => rfl
      | cons j js =>
        have hj : j ∈ Region.ready .any l.toArray (List.replicate l.length true).toArray := by rw [hr]; exact List.mem_cons_self
        obtain ⟨h1, o, h2, _⟩ := mem_ready.1 hj
        have hlt : j < l.length := by have := (List.getElem?_eq_some_iff.1 (by simpa using h2 : l[j]? = some o)).1; exact this
        simp [Array.getD, hlt] at h1
    | succ fuel ih =>
      intro bs a w hl hf hI
      have hset : ∀ (i : Nat), (bs.toArray.setIfInBounds i true) = (bs.set i true).toArray := fun i => by simp
      by_cases hall : bs = List.replicate l.length true
      · subst hall
        refine ⟨fun _ => hend a w hI, fun j hj => ?_⟩
        obtain ⟨h1, o, h2, _⟩ := mem_ready.1 hj
        have hlt : j < l.length := by have := (List.getElem?_eq_some_iff.1 (by simpa using h2 : l[j]? = some o)).1; exact this
        simp [Array.getD, hlt] at h1
      · refine ⟨fun hr => ?_, fun j hj => ?_⟩
        · exfalso
          have hex : ∃ b ∈ bs, (!b) = true := by
            false_or_by_contra
            rename_i hno
            refine hall (List.eq_replicate_iff.2 ⟨hl, fun b hb => ?_⟩)
            cases b with
            | true => rfl
            | false => exact absurd ⟨false, hb, rfl⟩ hno
          have hlt : bs.findIdx (! ·) < bs.length := List.findIdx_lt_length.2 hex
          have hf0 : bs[bs.findIdx (! ·)] = false := by have := List.findIdx_getElem (w := hlt); simpa using this
          have hlt2 : bs.findIdx (! ·) < l.length := by omega
          have hmem : bs.findIdx (! ·) ∈ Region.ready .any l.toArray bs.toArray := by
            refine mem_ready.2 ⟨by simp [Array.getD, hlt, hf0], l[bs.findIdx (! ·)], by simp [hlt2], fun e he _ => ?_⟩
            unfold waitsB at hd
            rw [List.all_eq_true] at hd
            have h1 := hd _ (List.mem_range.2 hlt2)
            rw [List.getElem?_eq_getElem hlt2] at h1
            simp only [Option.map_some, Option.getD_some] at h1
            have h2 := (Array.all_eq_true'.1 h1) e he
            have h3 := of_decide_eq_true h2
            have h4 : e.on < bs.length := by omega
            have h5 := List.not_of_lt_findIdx h3
            simp [Array.getD, h4]
            simpa using h5
          rw [hr] at hmem; cases hmem
        · obtain ⟨h1, o, h2, h3⟩ := mem_ready.1 hj
          have h2' : l[j]? = some o := by simpa using h2
          have hlt : j < l.length := (List.getElem?_eq_some_iff.1 h2').1
          have hb : bs[j]? = some false := by
            rw [List.getElem?_eq_getElem (by omega)]
            simp [Array.getD, show j < bs.length by omega] at h1
            rw [h1]
          refine wpOpIn_mono (fun a' w' h => ?_) (hstep j o bs a w h2' hI hl hb (fun e he hb => by have := h3 e he hb; rw [List.getD_eq_getElem?_getD]; simp only [Array.getD, List.size_toArray] at this; split at this <;> simp_all))
          rw [hset]
          have := filter_set bs j hb
          exact ih _ _ _ (by simpa using hl) (by omega) h
  have := key l.length (List.replicate l.length false) a w.drew (by simp) (by simp) h0
  simpa using this
/-- the same, with the slots that the region writes told apart -/
theorem wpIn_region_slots {id : Nat} {a : Act} {w : World} {l : List Oper} (hm : P.follows .mixedOrders = true) (hd : waitsB l = true) (slots : List Nat) (J : List Bool → List Value → World → Prop)
    (h0 : ∃ vs, a = putAll a slots vs ∧ J (List.replicate l.length false) vs w.drew)
    (hstep : ∀ (i : Nat) (o : Oper) (bs : List Bool) (vs : List Value) (w : World) (K : Act → World → Prop), l[i]? = some o → J bs vs w → bs.length = l.length → bs[i]? = some false → (∀ e ∈ o.after, Region.binds .any e = true → bs.getD e.on false = true) →
      (∀ vs' w', J (bs.set i true) vs' w' → K (putAll a slots vs') w') → wpOpIn F n P l.toArray Q i K (putAll a slots vs) w)
    (hend : ∀ vs w, J (List.replicate l.length true) vs w → Q .normal (putAll a slots vs) w) : (Code.region id l.toArray true).wpIn F n P Q a w := by
  refine wpIn_region_inv hm hd (fun bs a' w' => ∃ vs, a' = putAll a slots vs ∧ J bs vs w') h0 ?_ ?_
  · rintro i o bs a' w' ho ⟨vs, rfl, hJ⟩ hl hb hw
    exact hstep i o bs vs w' _ ho hJ hl hb hw (fun vs' w'' h => ⟨vs', rfl, h⟩)
  · rintro a' w' ⟨vs, rfl, hJ⟩
    exact hend vs w' hJ
end
section
variable {F : Fence} {n : Nat} {P : Program} {Q : Exit → Act → World → Prop}
/-- a region whose order is open and whose operations each put one value, whatever has come up besides what they wait for -/
theorem wpIn_region_det {id : Nat} {a : Act} {w : World} {l : List Oper} (hm : P.follows .mixedOrders = true) (hd : waitsB l = true) (slots : List Nat) (val : List Value) (C : World → Prop) (hvl : val.length = l.length)
    (h0 : ∃ vs, a = putAll a slots vs ∧ vs.length = l.length) (hC : C w.drew)
    (hstep : ∀ (i : Nat) (o : Oper) (vs : List Value) (w : World) (K : Act → World → Prop), l[i]? = some o → C w → vs.length = l.length → (∀ e ∈ o.after, Region.binds .any e = true → vs[e.on]? = val[e.on]?) →
      (∀ w', C w' → K (putAll a slots (vs.set i (val.getD i undef))) w') → wpOpIn F n P l.toArray Q i K (putAll a slots vs) w)
    (hend : ∀ w, C w → Q .normal (putAll a slots val) w) : (Code.region id l.toArray true).wpIn F n P Q a w := by
  obtain ⟨vs0, e0, el0⟩ := h0
  refine wpIn_region_slots hm hd slots (fun (bs : List Bool) (vs : List Value) w => C w ∧ vs.length = l.length ∧ ∀ i : Nat, bs[i]? = some true → vs[i]? = val[i]?) ⟨vs0, e0, hC, el0, fun i hi => ?_⟩ ?_ ?_
  · rw [List.getElem?_replicate] at hi
    split at hi <;> simp at hi
  · rintro i o bs vs w K ho ⟨hc, hl, hv⟩ hbl hb hw hK
    refine hstep i o vs w K ho hc hl (fun e he hbe => ?_) (fun w' hc' => hK _ _ ⟨hc', by rw [List.length_set]; exact hl, fun j hj => ?_⟩)
    · have h := hw e he hbe
      rw [List.getD_eq_getElem?_getD] at h
      refine hv _ ?_
      cases h2 : bs[e.on]? with
      | none => rw [h2] at h; simp at h
      | some b => rw [h2] at h; simp at h; rw [h]
    · by_cases hij : i = j
      · subst hij
        have hlt : i < l.length := (List.getElem?_eq_some_iff.1 ho).1
        rw [List.getElem?_set_self (by omega), List.getD_eq_getElem?_getD, List.getElem?_eq_getElem (by omega)]; rfl
      · rw [List.getElem?_set_ne hij] at hj ⊢
        exact hv j hj
  · rintro vs w ⟨hc, hl, hv⟩
    have : vs = val := by
      refine List.ext_getElem? fun i => ?_
      by_cases hi : i < l.length
      · exact hv i (by rw [List.getElem?_replicate, if_pos hi])
      · rw [List.getElem?_eq_none (by omega), List.getElem?_eq_none (by omega)]
    subst this
    exact hend w hc
end
section
variable {F : Fence} {n : Nat} {P : Program} {Q : Exit → Act → World → Prop}
/-- each operation of a region puts its value, whatever has come up besides what it waits for -/
def detSteps (F : Fence) (n : Nat) (P : Program) (Q : Exit → Act → World → Prop) (ops : Array Oper) (a : Act) (slots : List Nat) (val : List Value) (C : World → Prop) (len : Nat) : List Oper → Nat → Prop
  | [], _ => True
  | o :: rest, i => (∀ (vs : List Value) (w : World) (K : Act → World → Prop), C w → vs.length = len → (∀ e ∈ o.after, Region.binds .any e = true → vs[e.on]? = val[e.on]?) →
      (∀ w', C w' → K (putAll a slots (vs.set i (val.getD i undef))) w') → wpListIn F n P ops (Exit.then K Q) [o] (putAll a slots vs) w) ∧ detSteps F n P Q ops a slots val C len rest (i + 1)
theorem detSteps_get {ops : Array Oper} {a : Act} {slots : List Nat} {val : List Value} {C : World → Prop} {len : Nat} : ∀ {l : List Oper} {k i : Nat} {o : Oper}, detSteps F n P Q ops a slots val C len l k → l[i]? = some o →
    ∀ (vs : List Value) (w : World) (K : Act → World → Prop), C w → vs.length = len → (∀ e ∈ o.after, Region.binds .any e = true → vs[e.on]? = val[e.on]?) →
      (∀ w', C w' → K (putAll a slots (vs.set (k + i) (val.getD (k + i) undef))) w') → wpListIn F n P ops (Exit.then K Q) [o] (putAll a slots vs) w
  | [], _, _, _, _, h => by simp at h
  | o :: rest, k, 0, o', hd, h => by
    simp at h; subst h
    exact hd.1
  | o :: rest, k, i + 1, o', hd, h => by
    have := detSteps_get (l := rest) (k := k + 1) (i := i) hd.2 (by simpa using h)
    rw [show k + 1 + i = k + (i + 1) by omega] at this
    exact this
theorem wpIn_region_det2 {id : Nat} {a : Act} {w : World} {l : List Oper} (hm : P.follows .mixedOrders = true) (hd : waitsB l = true) (slots : List Nat) (val : List Value) (C : World → Prop) (hvl : val.length = l.length)
    (h0 : ∃ vs, a = putAll a slots vs ∧ vs.length = l.length) (hC : C w.drew) (len : Nat) (hlen : l.length = len)
    (hsteps : detSteps F n P Q l.toArray a slots val C len l 0)
    (hend : ∀ w, C w → Q .normal (putAll a slots val) w) : (Code.region id l.toArray true).wpIn F n P Q a w := by
  refine wpIn_region_det hm hd slots val C hvl h0 hC ?_ hend
  intro i o vs w K ho hc hl hw hK
  refine wpOpIn_of_list (by simpa using ho) ?_
  have := detSteps_get hsteps ho vs w K hc (by omega) hw (by simpa using hK)
  exact this
end

theorem own_ints {W : World} {n₀ k : Nat} {zs : List Int} {v : Value} (h : W.ownsRow n₀ 3 1 v k (zs.map encI)) (hz : zs ≠ []) : ∃ g cap, v = .slice (some ⟨g, 0, none⟩) zs.length cap ∧ g < W.heap.size ∧ IntsAt W g 0 zs := by
  have hl : k = zs.length := by have := h.1; rw [List.length_map] at this; omega
  subst hl
  rcases h.2 with ⟨_, hn⟩ | ⟨g, cap, cur, rfl, _, hgb, _⟩
  · exact absurd (List.eq_nil_of_length_eq_zero hn) hz
  · have hlt := (Array.getElem?_eq_some_iff.1 hgb).1
    refine ⟨g, cap, rfl, hlt, .inr hlt, fun i hi => ?_⟩
    have := h.cells (g := g) rfl i (encI zs[i]) (by simp [hi])
    rw [Nat.zero_add]
    by_cases h0 : i = 0
    · subst h0; simpa [Addr.add, encI] using this
    · simpa [Addr.add, encI, h0] using this
theorem sli_new (w : World) (zs : List Int) : SlI (w.alloc (.cells (zs.map encI).toArray 3)) (.slice (some ⟨w.heap.size, 0, none⟩) zs.length zs.length) zs := by
  have r := Row.new w 3 (zs.map encI)
  refine ⟨_, _, rfl, Nat.le_refl _, .inr ⟨_, 0, rfl, r.lt, .inr r.lt, fun i hi => ?_⟩⟩
  rw [Nat.zero_add, r.cell, List.getElem?_map, List.getElem?_eq_getElem hi]; rfl
theorem sli_own {W : World} {n₀ k : Nat} {zs : List Int} {v : Value} (h : W.ownsRow n₀ 3 1 v k (zs.map encI)) : SlI W v zs := by
  have hk : k = zs.length := by have := h.1; rw [List.length_map] at this; omega
  by_cases hz : zs = []
  · subst hz
    have hk0 : k = 0 := by simpa using hk
    rcases h.2 with ⟨rfl, _⟩ | ⟨g, cap, cur, rfl, _, _, hc, _⟩
    · exact ⟨none, 0, rfl, Nat.le_refl _, .inl rfl⟩
    · exact ⟨_, cap, by rw [hk0]; rfl, by simp, .inl rfl⟩
  · obtain ⟨g, cap, rfl, hg, hi⟩ := own_ints h hz
    have hc : zs.length ≤ cap := by
      rcases h.2 with ⟨e, _⟩ | ⟨g', cap', cur, e, _, _, hc, _⟩
      · cases e
      · cases e; omega
    exact ⟨_, cap, rfl, hc, .inr ⟨g, 0, rfl, hg, hi⟩⟩
theorem own_one (W : World) (x : Int) (n₀ : Nat) (h : n₀ ≤ W.heap.size) : (W.alloc (.cells #[.int .i64 x] 3)).ownsRow n₀ 3 1 (.slice (some ⟨W.heap.size, 0, none⟩) 1 1) 1 [.int .i64 x] :=
  ⟨rfl, .inr ⟨W.heap.size, 1, #[.int .i64 x], rfl, h, World.alloc_heap_new W _, Nat.le_refl _, by decide, rfl, rfl⟩⟩
theorem sli_cells {W : World} {v : Value} {zs : List Int} (h : SlI W v zs) (hz : zs ≠ []) : ∃ b o c, v = .slice (some ⟨b, o, none⟩) zs.length c ∧ zs.length ≤ c ∧ b < W.heap.size ∧ IntsAt W b o zs := by
  obtain ⟨a, c, rfl, hc, hs⟩ := h
  rcases hs with h | ⟨b, o, rfl, hb, hi⟩
  · exact absurd h hz
  · exact ⟨b, o, c, rfl, hc, hb, hi⟩
theorem own_slice {W : World} {n₀ n : Nat} {v : Value} {xs : List Value} (h : W.ownsRow n₀ 3 1 v n xs) (hn : 0 < n) : ∃ g cap, v = .slice (some ⟨g, 0, none⟩) n cap ∧ n ≤ cap := by
  rcases h.2 with ⟨_, h0⟩ | ⟨g, cap, cur, hv, _, _, hc, _⟩
  · omega
  · exact ⟨g, cap, hv, hc⟩
theorem own_cell {W : World} {n₀ n g cap : Nat} {zs : List Int} (h : W.ownsRow n₀ 3 1 (.slice (some ⟨g, 0, none⟩) n cap) n (zs.map encI)) (j : Nat) (hj : j < n) : W.cell? ⟨g, j, none⟩ = some (.int .i64 (zs.getD j 0)) ∧ W.frozen? ⟨g, j, none⟩ = false := by
  refine ⟨?_, h.frozenAt j⟩
  have hl : zs.length = n := by have := h.1; rw [List.length_map] at this; omega
  rw [h.cellAt j (by omega), List.getElem?_map, List.getElem?_eq_getElem (by omega), getD_lt (by omega)]; rfl
theorem own_put {W : World} {n₀ n g cap : Nat} {zs : List Int} (h : W.ownsRow n₀ 3 1 (.slice (some ⟨g, 0, none⟩) n cap) n (zs.map encI)) (j : Nat) (x : Int) : (W.setCell ⟨g, j, none⟩ (.int .i64 x)).ownsRow n₀ 3 1 (.slice (some ⟨g, 0, none⟩) n cap) n ((zs.set j x).map encI) := by
  have h2 := (h.stored j (.int .i64 x)).1
  rw [List.map_set]; exact h2
theorem IntsAt.cells {W : World} {b o : Nat} {zs : List Int} (h : IntsAt W b o zs) : ∀ j u, (zs.map encI)[j]? = some u → W.cell? ((⟨b, o, none⟩ : Addr).add j) = some u := fun j u hj => by
  rw [Go.WideShapes.add_plain]
  by_cases hl : j < zs.length
  · rw [List.getElem?_map, List.getElem?_eq_getElem hl] at hj
    cases hj
    exact h.at_ j hl
  · rw [List.getElem?_eq_none (by rw [List.length_map]; omega)] at hj; cases hj
theorem flat_snoc (p : Pt) : ∀ ps : List Pt, flat (ps ++ [p]) = flat ps ++ [.int .i64 p.1, .int .i64 p.2]
  | [] => rfl
  | q :: ps => by simp [flat, flat_snoc p ps]
theorem cells_two_new (w : World) (x y : Value) (t : TypeId) : ∀ j u, [x, y][j]? = some u → (w.alloc (.cells #[x, y] t)).cell? ((⟨w.heap.size, 0, none⟩ : Addr).add j) = some u := by
  intro j u hj
  rw [Go.WideShapes.add_plain, Nat.zero_add, Row.cell (Row.new w t [x, y])]; exact hj
theorem own_belowP {W0 W w2 : World} {o : Obj} {v : Value} {ps : List Pt} (h : OwnP W W0.heap.size v ps) (hb : Below W0.heap.size W0 W) (hg : (W.alloc o).grownBy w2 v.ownBlock) : Below W0.heap.size W0 w2 :=
  (Below.al hb (Nat.le_refl _) o).grown hg (Nat.le_trans hb.size (by simp)) (fun r e => (World.ownsRow.lt h r e).1)
theorem u64_wrap (x : Int) : IntKind.u64.wrap x = x % 18446744073709551616 := by
  unfold IntKind.wrap
  simp [IntKind.signed, IntKind.bits]
theorem own_differ {W : World} {n₀ n₁ e e' s s' k l : Nat} {v u : Value} {xs ys : List Value} (h : W.ownsRow n₀ e s v k xs) (h' : W.ownsRow n₁ e' s' u l ys) (he : e ≠ e') : v.ownBlock = none ∨ v.ownBlock ≠ u.ownBlock := by
  rcases h.2 with ⟨rfl, _⟩ | ⟨g, cap, cur, rfl, _, hg, _⟩
  · exact .inl rfl
  · right
    rcases h'.2 with ⟨rfl, _⟩ | ⟨g', cap', cur', rfl, _, hg', _⟩
    · intro h; cases h
    · intro h
      have hgg : g = g' := by simpa [Value.ownBlock] using h
      subst hgg
      rw [hg] at hg'
      cases hg'
      exact he rfl
theorem own_two (W : World) (x y : Int) (n₀ : Nat) (h : n₀ ≤ W.heap.size) : (W.alloc (.cells #[.int .i64 x, .int .i64 y] 3)).ownsRow n₀ 3 1 (.slice (some ⟨W.heap.size, 0, none⟩) 2 2) 2 ([x, y].map encI) :=
  ⟨rfl, .inr ⟨W.heap.size, 2, #[.int .i64 x, .int .i64 y], rfl, h, World.alloc_heap_new W _, Nat.le_refl _, by decide, rfl, rfl⟩⟩
def slLen : Value → Nat
  | .slice _ n _ => n
  | _ => 0
def SlP (w : World) (v : Value) (ps : List Pt) : Prop := ∃ a c, v = .slice a ps.length c ∧ ps.length ≤ c ∧ (ps = [] ∨ ∃ g o, a = some ⟨g, o, none⟩ ∧ PtsAt w g o ps)
theorem SlP.grow {w w' : World} {v : Value} {ps : List Pt} (h : SlP w v ps) (hb : Below w.heap.size w w') : SlP w' v ps := by
  obtain ⟨a, c, rfl, hc, h⟩ := h
  exact ⟨a, c, rfl, hc, h.imp id (fun ⟨g, o, h1, h2⟩ => ⟨g, o, h1, h2.grow hb⟩)⟩
theorem slp_own {W : World} {n₀ : Nat} {v : Value} {ps : List Pt} (ho : OwnP W n₀ v ps) : SlP W v ps := by
  obtain ⟨a, c, rfl, h⟩ := OwnP.open ho
  clear ho
  rcases h with ⟨_, rfl, rfl⟩ | ⟨g, _, rfl, h, hc⟩
  · exact ⟨a, 0, rfl, Nat.le_refl _, .inl rfl⟩
  · exact ⟨_, c, rfl, hc, .inr ⟨g, 0, rfl, h⟩⟩
theorem pts_cells {W : World} {g o : Nat} {ps : List Pt} (h : PtsAt W g o ps) (m : Nat) : ∀ j u, (flat (ps.take m))[j]? = some u → W.cell? ((⟨g, o, none⟩ : Addr).add j) = some u := fun j u hj => by
  have hl := (List.getElem?_eq_some_iff.1 hj).1
  rw [flat_length, List.length_take] at hl
  obtain ⟨f1, f2⟩ := flat_get (ps.take m) (j / 2) (by rw [List.length_take]; omega)
  rw [Go.WideShapes.add_plain]
  rcases Nat.mod_two_eq_zero_or_one j with hp | hp
  · rw [show j / 2 * 2 = j by omega, hj, List.getElem_take] at f1
    have := h.x (j / 2) (by omega)
    rw [show o + j / 2 * 2 = o + j by omega] at this
    rw [this, f1]
  · rw [show j / 2 * 2 + 1 = j by omega, hj, List.getElem_take] at f2
    have := h.y (j / 2) (by omega)
    rw [show o + j / 2 * 2 + 1 = o + j by omega] at this
    rw [this, f2]
end Go.Proofs.Ytlemipnplgbckaa
namespace Go.Proofs.Ytlemipnplgbckaa
open Go.RowKit Go.Shelf
attribute [local go_sem] Oper.semAt_some
set_option maxHeartbeats 400000 in
theorem minus_any (a1 a2 b1 b2 : Int) (w : World) (h1 : Bd 100000000 a1) (h2 : Bd 100000000 a2) (h3 : Bd 100000000 b1) (h4 : Bd 100000000 b2) :
    Calls Try.prog 90 #[.agg #[.int .i64 a1, .int .i64 a2], .agg #[.int .i64 b1, .int .i64 b2]] w fun e w' => e = .returned (.agg #[.int .i64 (a1 - b1), .int .i64 (a2 - b2)]) ∧ Below w.heap.size w w' := by
  have e1 := i64_bd (h1.sub h3) (by omega)
  have e3 := i64_bd (h2.sub h4) (by omega)
  clear h1 h2 h3 h4
  go_enter Try.func90, Try.ntmps90
  go_wp2_with fail
  refine bodyPost_ret (v := .agg #[.int .i64 (a1 - b1), .int .i64 (a2 - b2)]) (by simp [results, Try.results90, go_sem]) rfl ⟨rfl, ?_⟩
  exact ((((Below.refl w.heap.size w).alloc (Nat.le_refl _) _).alloc (by simp) _).alloc (by simp; omega) _)
/-- a1 b2 - a2 b1, and a1 b1 + a2 b2 -/
def crs (a b : Pt) : Int := a.1 * b.2 - a.2 * b.1
def dt (a b : Pt) : Int := a.1 * b.1 + a.2 * b.2
set_option maxHeartbeats 400000 in
theorem cross_any (a1 a2 b1 b2 : Int) (w : World) (h1 : Bd 100000000 a1) (h2 : Bd 100000000 a2) (h3 : Bd 100000000 b1) (h4 : Bd 100000000 b2) :
    Calls Try.prog 91 #[.agg #[.int .i64 a1, .int .i64 a2], .agg #[.int .i64 b1, .int .i64 b2]] w fun e w' => e = .returned (.int .i64 (crs (a1, a2) (b1, b2))) ∧ Below w.heap.size w w' := by
  have m1 := h1.mul h4
  have m2 := h2.mul h3
  have e1 := i64_bd m1 (by omega)
  have e3 := i64_bd m2 (by omega)
  have e4 := i64_bd (m1.sub m2) (by omega)
  clear m1 m2 h1 h2 h3 h4
  go_enter Try.func91, Try.ntmps91
  go_wp2_with fail
  go_ret
  exact ⟨rfl, (((Below.refl w.heap.size w).alloc (Nat.le_refl _) _).alloc (by simp) _)⟩
set_option maxHeartbeats 400000 in
theorem dot_any (a1 a2 b1 b2 : Int) (w : World) (h1 : Bd 100000000 a1) (h2 : Bd 100000000 a2) (h3 : Bd 100000000 b1) (h4 : Bd 100000000 b2) :
    Calls Try.prog 103 #[.agg #[.int .i64 a1, .int .i64 a2], .agg #[.int .i64 b1, .int .i64 b2]] w fun e w' => e = .returned (.int .i64 (dt (a1, a2) (b1, b2))) ∧ Below w.heap.size w w' := by
  have m1 := h1.mul h3
  have m2 := h2.mul h4
  have e1 := i64_bd m1 (by omega)
  have e3 := i64_bd m2 (by omega)
  have e4 := i64_bd (m1.add m2) (by omega)
  clear m1 m2 h1 h2 h3 h4
  go_enter Try.func103, Try.ntmps103
  go_wp2_with fail
  go_ret
  exact ⟨rfl, (((Below.refl w.heap.size w).alloc (Nat.le_refl _) _).alloc (by simp) _)⟩
set_option maxHeartbeats 400000 in
/-- the sum of two squares -/
theorem sq_any (x y : Int) (b o c : Nat) (w : World) (hx : w.cell? ⟨b, o, none⟩ = some (.int .i64 x)) (hy : w.cell? ⟨b, o + 1, none⟩ = some (.int .i64 y)) (_hc : 2 ≤ c) (bx : Bd 1000000000 x) (bY : Bd 1000000000 y) :
    Calls Try.prog 92 #[.slice (some ⟨b, o, none⟩) 2 c] w fun e w' => e = .returned (.int .i64 (x * x + y * y)) ∧ w' = w := by
  have m1 := bx.mul bx
  have m2 := bY.mul bY
  have e1 := i64_bd m1 (by omega)
  have e2 := i64_bd m2 (by omega)
  have e3 := i64_bd (m1.add m2) (by omega)
  have HX := Lib.hid hx
  have HY := Lib.hid hy
  clear m1 m2 bx bY hx hy
  go_enter Try.func92, Try.ntmps92
  go_wp2_with fail
  go_loopw [3, 8] (fun sv iv wr => ∃ k : Nat, k ≤ 2 ∧ iv = .int .i64 (k : Int) ∧ sv = .int .i64 (if k = 0 then 0 else if k = 1 then x * x else x * x + y * y) ∧ wr = w) (fun _ iv _ => (2 - intOf iv).toNat)
  case atStart => exact ⟨0, by omega, rfl, rfl, rfl⟩
  case round =>
    obtain ⟨k, hk, rfl, rfl, rfl⟩ := hrel
    rcases (show k = 0 ∨ k = 1 ∨ k = 2 by omega) with rfl | rfl | rfl
    · have c0 := HX.out
      simp only [if_true]
      go_wp2_with fail
      exact ⟨⟨1, by omega, by simp, by simp, trivial⟩, by simp [intOf]⟩
    · have c0 := HY.out
      go_wp2_with fail
      exact ⟨⟨2, by omega, by simp, by simp, trivial⟩, by simp [intOf]⟩
    · go_wp2_with fail
      go_ret
      exact ⟨rfl, rfl⟩
/-- the comparison of two numbers -/
def cmpI (a b : Int) : Int := if a < b then -1 else if b < a then 1 else 0
set_option maxHeartbeats 400000 in
theorem isNaN_any (a : Int) (w : World) : Calls Try.prog 104 #[.int .i64 a] w fun e w' => e = .returned (.bool false) ∧ w' = w := by
  have h : (a != a) = false := by simp
  go_enter Try.func104, Try.ntmps104
  go_wp2_with fail
  go_ret
  exact ⟨by simp, rfl⟩
set_option maxHeartbeats 400000 in
theorem cmp_any (a b : Int) (w : World) : Calls Try.prog 94 #[.int .i64 a, .int .i64 b] w fun e w' => e = .returned (.int .i64 (cmpI a b)) ∧ w' = w := by
  go_enter Try.func94, Try.ntmps94
  go_wp2_with fail
  refine (isNaN_any a w).mono ?_
  rintro e w1 ⟨rfl, rfl⟩
  go_wp2_with fail
  refine (isNaN_any b w1).mono ?_
  rintro e w2 ⟨rfl, rfl⟩
  by_cases h1 : a < b
  · have d1 : decide (a < b) = true := decide_eq_true h1
    go_wp2_with fail
    go_ret
    exact ⟨ret_int (by unfold cmpI; (repeat' split) <;> omega), rfl⟩
  · have d1 : decide (a < b) = false := decide_eq_false h1
    by_cases h2 : b < a
    · have d2 : decide (b < a) = true := decide_eq_true h2
      go_wp2_with fail
      go_ret
      exact ⟨ret_int (by unfold cmpI; (repeat' split) <;> omega), rfl⟩
    · have d2 : decide (b < a) = false := decide_eq_false h2
      go_wp2_with fail
      go_ret
      exact ⟨ret_int (by unfold cmpI; (repeat' split) <;> omega), rfl⟩
end Go.Proofs.Ytlemipnplgbckaa
namespace Go.Proofs.Ytlemipnplgbckaa
open Go.RowKit Go.Shelf
attribute [local go_sem] Oper.semAt_some
def cirV (X Y D R : Int) : Value := .agg #[.int .i64 X, .int .i64 Y, .int .i64 D, .int .i64 R]
/-- the square of a point's distance from the middle, times the square of D -/
def apF (X Y D : Int) (p : Pt) : Int := (p.1 * D - X) * (p.1 * D - X) + (p.2 * D - Y) * (p.2 * D - Y)
set_option maxHeartbeats 400000 in
theorem apart_any (X Y D R p q : Int) (w : World) (h1 : Bd 1000000 X) (h2 : Bd 1000000 Y) (h3 : Bd 1000000 D) (h4 : Bd 20 p) (h5 : Bd 20 q) :
    Calls Try.prog 95 #[.agg #[.int .i64 X, .int .i64 Y, .int .i64 D, .int .i64 R], .agg #[.int .i64 p, .int .i64 q]] w fun e w' => e = .returned (.int .i64 (apF X Y D (p, q))) ∧ Below w.heap.size w w' := by
  have m1 := h4.mul h3
  have m2 := h5.mul h3
  have b1 := m1.sub h1
  have b2 := m2.sub h2
  have e1 := i64_bd m1 (by omega)
  have e2 := i64_bd m2 (by omega)
  have e3 := i64_bd b1 (by omega)
  have e4 := i64_bd b2 (by omega)
  have B1 := Lib.hid (b1.mono (C := 1000000000) (by omega))
  have B2 := Lib.hid (b2.mono (C := 1000000000) (by omega))
  have HAP := Lib.hid (show apF X Y D (p, q) = (p * D - X) * (p * D - X) + (q * D - Y) * (q * D - Y) from rfl)
  clear m1 m2 b1 b2 h1 h2 h3 h4 h5
  go_enter Try.func95, Try.ntmps95
  go_wp2_with fail
  refine (sq_any (p * D - X) (q * D - Y) _ 0 2 _ (by simp [cell_al]) (by simp [cell_al]) (by omega) B1.out B2.out).mono ?_
  rintro e w1 ⟨rfl, rfl⟩
  go_wp2_with fail
  go_ret
  exact ⟨ret_int HAP.out.symm, (((Below.refl w.heap.size w).alloc (Nat.le_refl _) _).alloc (by simp) _).alloc (by simp; omega) _⟩
/-- the greatest number that divides all of three -/
def gcd3 (x y d : Int) : Int := (Nat.gcd (Nat.gcd x.natAbs y.natAbs) d.natAbs : Nat)
def gcdL : Nat → List Int → Nat
  | g, [] => g
  | g, x :: xs => gcdL (Nat.gcd g x.natAbs) xs
theorem gcdL_snoc : ∀ (xs : List Int) (g : Nat) (x : Int), gcdL g (xs ++ [x]) = Nat.gcd (gcdL g xs) x.natAbs
  | [], _, _ => rfl
  | _y :: ys, _g, x => gcdL_snoc ys _ x
set_option maxHeartbeats 1000000 in
theorem gcd_any (zs : List Int) (b o c : Nat) (w : World) (hz : IntsAt w b o zs) (hl : zs.length ≤ 1000) (hB : ∀ z ∈ zs, Bd 4000000000000000000 z) :
    Calls Try.prog 74 #[.slice (some ⟨b, o, none⟩) zs.length c] w fun e w' => e = .returned (.int .i64 (gcdL 0 zs : Nat)) ∧ Below w.heap.size w w' := by
  have HZ := Lib.hid hz
  have HB := Lib.hid hB
  clear hz hB
  go_enter Try.func74, Try.ntmps74
  go_wp2_with fail
  go_loopw [3, 8] (fun av iv wr => ∃ (k : Nat) (p : Int), k ≤ zs.length ∧ iv = .int .i64 (k : Int) ∧ av = .int .i64 p ∧ Bd 4000000000000000000 p ∧ Hid (p.natAbs = gcdL 0 (zs.take k)) ∧ ∃ n, wr = w.drewN n) (fun _ iv _ => (zs.length - intOf iv).toNat)
  case atStart => exact ⟨0, 0, by omega, rfl, rfl, by simp [Bd], Lib.hid rfl, 0, rfl⟩
  case round =>
    obtain ⟨k, p, hk, rfl, rfl, hp, HG, n, rfl⟩ := hrel
    have kw : IntKind.i64.wrap ((k : Int) + 1) = ((k + 1 : Nat) : Int) := by rw [i64_of _ (by omega) (by omega)]; omega
    by_cases hlt : k < zs.length
    · have hd : decide ((k : Int) < (zs.length : Int)) = true := decide_eq_true (by omega)
      have hdn : decide (k < zs.length) = true := decide_eq_true hlt
      have c0 : (w.drewN n).cell? ⟨b, o + k, none⟩ = some (.int .i64 zs[k]) := HZ.out.at_ k hlt
      have hz := HB.out _ (List.getElem_mem hlt)
      have HT := Lib.hid (show gcdL 0 (zs.take (k + 1)) = Nat.gcd (gcdL 0 (zs.take k)) zs[k].natAbs by rw [List.take_succ_eq_append_getElem hlt, gcdL_snoc])
      generalize zs[k] = z at *
      go_wp2_with fail
      go_loopw [3, 5] (fun av bv wx => ∃ (x y : Int), av = .int .i64 x ∧ bv = .int .i64 y ∧ Bd 4000000000000000000 x ∧ Bd 4000000000000000000 y ∧ Hid (Nat.gcd x.natAbs y.natAbs = Nat.gcd p.natAbs z.natAbs) ∧ ∃ n, wx = w.drewN n) (fun _ bv _ => (intOf bv).natAbs)
      case atStart => exact ⟨p, z, rfl, rfl, hp, hz, Lib.hid rfl, n, rfl⟩
      case round =>
        obtain ⟨x, y, rfl, rfl, hx, hy, HGG, n2, rfl⟩ := hrel
        by_cases hy0 : y = 0
        · subst hy0
          have HN := Lib.hid (show x.natAbs = gcdL 0 (zs.take (k + 1)) by
            rw [HT.out, ← HG.out, ← HGG.out]; simp)
          go_wp2_with fail
          exact ⟨⟨k + 1, x, by omega, by simp, rfl, hx, HN, n2, rfl⟩, by simp [intOf]; omega⟩
        · have hb1 : (y != 0) = true := by simp; omega
          have e2 : ¬ (y = 0) := by omega
          have hm : (x.tmod y).natAbs < y.natAbs := by
            rw [Int.natAbs_tmod]; exact Nat.mod_lt _ (by omega)
          have hg2 : Nat.gcd y.natAbs (x.tmod y).natAbs = Nat.gcd p.natAbs z.natAbs := by
            rw [← HGG.out, Int.natAbs_tmod, Nat.gcd_comm x.natAbs, Nat.gcd_rec y.natAbs x.natAbs, Nat.gcd_comm]
          have hbq : Bd 4000000000000000000 (x.tmod y) := by unfold Bd at *; omega
          have HG2 := Lib.hid hg2
          have HM := Lib.hid hm
          clear hg2 hm
          go_wp2_with fail
          go_quiet (fail)
          go_wp2_with fail
          exact ⟨⟨y, _, rfl, rfl, hy, hbq, HG2, _, drewN_drewN _ _ _⟩, by simp only [intOf]; exact HM.out⟩
    · have hd : decide ((k : Int) < (zs.length : Int)) = false := decide_eq_false (by omega)
      have hdn : decide (k < zs.length) = false := decide_eq_false hlt
      obtain rfl : k = zs.length := by omega
      have e1 : IntKind.i64.wrap (-p) = -p := i64_bd hp.neg (by omega)
      have HF := Lib.hid (show ((gcdL 0 zs : Nat) : Int) = if p < -p then -p else p by
        have := HG.out
        rw [List.take_length] at this
        rw [← this]; split <;> omega)
      go_wp2_with fail
      all_goals
        go_ret
        refine ⟨ret_int ?_, below_drewN (Below.refl _ _) n⟩
        rw [HF.out]
        split <;> omega
end Go.Proofs.Ytlemipnplgbckaa
namespace Go.Proofs.Ytlemipnplgbckaa
open Go.RowKit Go.Shelf
attribute [local go_sem] Oper.semAt_some
section
variable {P : Program} {Q : Exit → Act → World → Prop}
/-! a drawn region in which boxes are made and filled: what a new variable that is captured or indexed asks for -/
abbrev Bxs := List (Option (TypeId × List Value × List Value))
/-- has the box of operation i been filled? -/
def stB (pt : List (Option Nat)) (bs : List Bool) (i : Nat) : Bool := (List.range pt.length).any fun s => decide (pt[s]? = some (some i)) && decide (bs[s]? = some true)
theorem stB_set_ne {pt : List (Option Nat)} {bs : List Bool} {i k : Nat} (h : pt[k]? ≠ some (some i)) : stB pt (bs.set k true) i = stB pt bs i := by
  unfold stB
  rw [Bool.eq_iff_iff, List.any_eq_true, List.any_eq_true]
  constructor
  · rintro ⟨s, hs, hh⟩
    refine ⟨s, hs, ?_⟩
    simp only [Bool.and_eq_true, decide_eq_true_eq] at hh ⊢
    by_cases e : k = s
    · subst e; exact absurd hh.1 h
    · rwa [List.getElem?_set_ne e] at hh
  · rintro ⟨s, hs, hh⟩
    refine ⟨s, hs, ?_⟩
    simp only [Bool.and_eq_true, decide_eq_true_eq] at hh ⊢
    by_cases e : k = s
    · subst e; exact absurd hh.1 h
    · rwa [List.getElem?_set_ne e]
theorem stB_put {pt : List (Option Nat)} {bs : List Bool} {i k : Nat} (h : pt[k]? = some (some i)) (hl : k < bs.length) : stB pt (bs.set k true) i = true := by
  unfold stB
  rw [List.any_eq_true]
  have hk : k < pt.length := (List.getElem?_eq_some_iff.1 h).1
  refine ⟨k, List.mem_range.2 hk, ?_⟩
  simp only [Bool.and_eq_true, decide_eq_true_eq]
  exact ⟨h, by rw [List.getElem?_set_self hl]⟩
theorem stB_wait {pt : List (Option Nat)} {bs : List Bool} {i k : Nat} (hu : ∀ s, pt[s]? = some (some i) → s = k) (hb : bs[k]? = some false) : stB pt bs i = false := by
  unfold stB
  rw [Bool.eq_false_iff]
  intro h
  rw [List.any_eq_true] at h
  obtain ⟨s, _, hh⟩ := h
  simp only [Bool.and_eq_true, decide_eq_true_eq] at hh
  rw [hu s hh.1, hb] at hh
  simp at hh
/-- each store's box is its own -/
def ptOk (pt : List (Option Nat)) : Bool := (List.range pt.length).all fun s => (List.range pt.length).all fun t => (pt.getD s none).isNone || (decide (pt.getD s none ≠ pt.getD t none) || decide (s = t))
theorem ptOk_eq {pt : List (Option Nat)} (h : ptOk pt = true) {s t i : Nat} (hs : pt[s]? = some (some i)) (ht : pt[t]? = some (some i)) : s = t := by
  have h1 : s < pt.length := (List.getElem?_eq_some_iff.1 hs).1
  have h2 : t < pt.length := (List.getElem?_eq_some_iff.1 ht).1
  have := List.all_eq_true.1 (List.all_eq_true.1 h s (List.mem_range.2 h1)) t (List.mem_range.2 h2)
  simp only [List.getD_eq_getElem?_getD, hs, ht] at this
  simpa using this
def boxSteps (P : Program) (Q : Exit → Act → World → Prop) (ops : Array Oper) (a : Act) (slots : List Nat) (R : List (Value → Prop)) (bx : Bxs) (pt : List (Option Nat)) (w₀ : World) (len : Nat) : List Oper → Nat → Prop
  | [], _ => True
  | o :: rest, i => (∀ (vs : List Value) (W : World) (K : Act → World → Prop), Below w₀.heap.size w₀ W → vs.length = len →
      (∀ e ∈ o.after, Region.binds .any e = true → ∃ v, vs[e.on]? = some v ∧ (R.getD e.on (fun _ => True)) v) →
      (match bx.getD i none, pt.getD i none with
       | some (E, z, _), _ => K (putAll a slots (vs.set i (.pointer (some ⟨W.heap.size, 0, none⟩)))) (W.alloc (.cells z.toArray E)) → wpList P ops (Exit.then K Q) [o] (putAll a slots vs) W
       | none, some ia => ∀ b E z f, bx.getD ia none = some (E, z, f) → vs[ia]? = some (.pointer (some ⟨b, 0, none⟩)) → w₀.heap.size ≤ b → Row W b E z → (∀ W', Row W' b E f → W.grownBy W' (some b) → K (putAll a slots (vs.set i undef)) W') → wpList P ops (Exit.then K Q) [o] (putAll a slots vs) W
       | none, none => (∀ v W', Below W.heap.size W W' → (R.getD i (fun _ => True)) v → K (putAll a slots (vs.set i v)) W') → wpList P ops (Exit.then K Q) [o] (putAll a slots vs) W)) ∧ boxSteps P Q ops a slots R bx pt w₀ len rest (i + 1)
theorem boxSteps_get {ops : Array Oper} {a : Act} {slots : List Nat} {R : List (Value → Prop)} {bx : Bxs} {pt : List (Option Nat)} {w₀ : World} {len : Nat} : ∀ {l : List Oper} {k i : Nat} {o : Oper}, boxSteps P Q ops a slots R bx pt w₀ len l k → l[i]? = some o →
    ∀ (vs : List Value) (W : World) (K : Act → World → Prop), Below w₀.heap.size w₀ W → vs.length = len →
      (∀ e ∈ o.after, Region.binds .any e = true → ∃ v, vs[e.on]? = some v ∧ (R.getD e.on (fun _ => True)) v) →
      (match bx.getD (k + i) none, pt.getD (k + i) none with
       | some (E, z, _), _ => K (putAll a slots (vs.set (k + i) (.pointer (some ⟨W.heap.size, 0, none⟩)))) (W.alloc (.cells z.toArray E)) → wpList P ops (Exit.then K Q) [o] (putAll a slots vs) W
       | none, some ia => ∀ b E z f, bx.getD ia none = some (E, z, f) → vs[ia]? = some (.pointer (some ⟨b, 0, none⟩)) → w₀.heap.size ≤ b → Row W b E z → (∀ W', Row W' b E f → W.grownBy W' (some b) → K (putAll a slots (vs.set (k + i) undef)) W') → wpList P ops (Exit.then K Q) [o] (putAll a slots vs) W
       | none, none => (∀ v W', Below W.heap.size W W' → (R.getD (k + i) (fun _ => True)) v → K (putAll a slots (vs.set (k + i) v)) W') → wpList P ops (Exit.then K Q) [o] (putAll a slots vs) W)
  | [], _, _, _, _, h => by simp at h
  | o :: rest, k, 0, o', hd, h => by
    simp at h; subst h
    exact hd.1
  | o :: rest, k, i + 1, o', hd, h => by
    have := boxSteps_get (l := rest) (k := k + 1) (i := i) hd.2 (by simpa using h)
    rw [show k + 1 + i = k + (i + 1) by omega] at this
    exact this
/-- what holds between the operations -/
structure BoxJ (R : List (Value → Prop)) (bx : Bxs) (pt : List (Option Nat)) (w₀ : World) (len : Nat) (bs : List Bool) (vs : List Value) (W : World) : Prop where
  bl : Below w₀.heap.size w₀ W
  ln : vs.length = len
  bn : bs.length = len
  val : ∀ i : Nat, bs[i]? = some true → ∃ v, vs[i]? = some v ∧ (R.getD i (fun _ => True)) v
  box : ∀ (i : Nat) E z f, bx.getD i none = some (E, z, f) → bs[i]? = some true → ∃ b, vs[i]? = some (.pointer (some ⟨b, 0, none⟩)) ∧ w₀.heap.size ≤ b ∧ Row W b E (if stB pt bs i = true then f else z)
  apart : ∀ (i j : Nat) b, (bx.getD i none).isSome = true → (bx.getD j none).isSome = true → bs[i]? = some true → bs[j]? = some true → vs[i]? = some (.pointer (some ⟨b, 0, none⟩)) → vs[j]? = some (.pointer (some ⟨b, 0, none⟩)) → i = j
theorem BoxJ.other {R : List (Value → Prop)} {bx : Bxs} {pt : List (Option Nat)} {w₀ W W' : World} {len i : Nat} {bs : List Bool} {vs : List Value} {v : Value} (h : BoxJ R bx pt w₀ len bs vs W) (hb : Below W.heap.size W W') (hi : i < len) (hv : (R.getD i (fun _ => True)) v) (hbx : bx.getD i none = none) (hpt : pt.getD i none = none) :
    BoxJ R bx pt w₀ len (bs.set i true) (vs.set i v) W' := by
  have hpn : ∀ j, pt[i]? ≠ some (some j) := fun j e => by rw [List.getD_eq_getElem?_getD, e] at hpt; cases hpt
  have hsb : ∀ j : Nat, i ≠ j → (bs.set i true)[j]? = bs[j]? := fun j hj => List.getElem?_set_ne hj
  have hsv : ∀ j : Nat, i ≠ j → (vs.set i v)[j]? = vs[j]? := fun j hj => List.getElem?_set_ne hj
  refine ⟨Below.andThen h.bl hb (Nat.le_refl _), by rw [List.length_set]; exact h.ln, by rw [List.length_set]; exact h.bn, fun j hj => ?_, fun j E z f hx hj => ?_, fun j k b hx hy hj hk e1 e2 => ?_⟩
  · by_cases e : i = j
    · subst e; exact ⟨v, List.getElem?_set_self (by rw [h.ln]; exact hi), hv⟩
    · rw [hsb j e] at hj; rw [hsv j e]; exact h.val j hj
  · by_cases e : i = j
    · subst e; rw [hbx] at hx; cases hx
    · rw [hsb j e] at hj; rw [hsv j e, stB_set_ne (hpn j)]
      obtain ⟨b, h1, h2, h3⟩ := h.box j E z f hx hj
      exact ⟨b, h1, h2, h3.below hb h3.lt⟩
  · have e1' : i ≠ j := fun e => by subst e; rw [hbx] at hx; cases hx
    have e2' : i ≠ k := fun e => by subst e; rw [hbx] at hy; cases hy
    rw [hsb j e1'] at hj; rw [hsb k e2'] at hk; rw [hsv j e1'] at e1; rw [hsv k e2'] at e2
    exact h.apart j k b hx hy hj hk e1 e2
theorem BoxJ.made {R : List (Value → Prop)} {bx : Bxs} {pt : List (Option Nat)} {w₀ W : World} {len i : Nat} {bs : List Bool} {vs : List Value} {E : TypeId} {z f : List Value} (h : BoxJ R bx pt w₀ len bs vs W) (hi : i < len) (hbx : bx.getD i none = some (E, z, f)) (hv : ∀ v, (R.getD i (fun _ => True)) v) (hpt : pt.getD i none = none) (hst : stB pt bs i = false) :
    BoxJ R bx pt w₀ len (bs.set i true) (vs.set i (.pointer (some ⟨W.heap.size, 0, none⟩))) (W.alloc (.cells z.toArray E)) := by
  have hb : Below W.heap.size W (W.alloc (.cells z.toArray E)) := Below.al (Below.refl _ _) (Nat.le_refl _) _
  have hpn : ∀ j, pt[i]? ≠ some (some j) := fun j e => by rw [List.getD_eq_getElem?_getD, e] at hpt; cases hpt
  have hsb : ∀ j : Nat, i ≠ j → (bs.set i true)[j]? = bs[j]? := fun j hj => List.getElem?_set_ne hj
  have hsv : ∀ j : Nat, i ≠ j → (vs.set i (.pointer (some ⟨W.heap.size, 0, none⟩)))[j]? = vs[j]? := fun j hj => List.getElem?_set_ne hj
  have hss : (vs.set i (.pointer (some ⟨W.heap.size, 0, none⟩)))[i]? = some (.pointer (some ⟨W.heap.size, 0, none⟩)) := List.getElem?_set_self (by rw [h.ln]; exact hi)
  have hold : ∀ j b, (bx.getD j none).isSome = true → bs[j]? = some true → vs[j]? = some (.pointer (some ⟨b, 0, none⟩)) → b < W.heap.size := fun j b hx hj e => by
    obtain ⟨⟨E', z', f'⟩, hx'⟩ := Option.isSome_iff_exists.1 hx
    obtain ⟨b', h1, _, h3⟩ := h.box j E' z' f' hx' hj
    rw [h1] at e
    cases e
    exact h3.lt
  refine ⟨Below.andThen h.bl hb (Nat.le_refl _), by rw [List.length_set]; exact h.ln, by rw [List.length_set]; exact h.bn, fun j hj => ?_, fun j E' z' f' hx hj => ?_, fun j k b hx hy hj hk e1 e2 => ?_⟩
  · by_cases e : i = j
    · subst e; exact ⟨_, hss, hv _⟩
    · rw [hsb j e] at hj; rw [hsv j e]; exact h.val j hj
  · by_cases e : i = j
    · subst e
      rw [hbx] at hx; cases hx
      refine ⟨W.heap.size, hss, h.bl.size, ?_⟩
      rw [stB_set_ne (hpn i), hst]
      exact Row.new W E z
    · rw [hsb j e] at hj; rw [hsv j e, stB_set_ne (hpn j)]
      obtain ⟨b, h1, h2, h3⟩ := h.box j E' z' f' hx hj
      exact ⟨b, h1, h2, h3.below hb h3.lt⟩
  · by_cases ej : i = j
    · by_cases ek : i = k
      · omega
      · subst ej
        rw [hsb k ek] at hk; rw [hsv k ek] at e2; rw [hss] at e1
        cases e1
        exact absurd (hold k _ hy hk e2) (by omega)
    · by_cases ek : i = k
      · subst ek
        rw [hsb j ej] at hj; rw [hsv j ej] at e1; rw [hss] at e2
        cases e2
        exact absurd (hold j _ hx hj e1) (by omega)
      · rw [hsb j ej] at hj; rw [hsb k ek] at hk; rw [hsv j ej] at e1; rw [hsv k ek] at e2
        exact h.apart j k b hx hy hj hk e1 e2
theorem BoxJ.filled {R : List (Value → Prop)} {bx : Bxs} {pt : List (Option Nat)} {w₀ W W' : World} {len i ia b : Nat} {bs : List Bool} {vs : List Value} {E : TypeId} {z f : List Value} (h : BoxJ R bx pt w₀ len bs vs W) (hi : i < len) (hbx : bx.getD i none = none) (hpt : pt.getD i none = some ia) (hv : ∀ v, (R.getD i (fun _ => True)) v)
    (hia : bx.getD ia none = some (E, z, f)) (hba : bs[ia]? = some true) (hva : vs[ia]? = some (.pointer (some ⟨b, 0, none⟩))) (hb0 : w₀.heap.size ≤ b) (hr : Row W' b E f) (hg : W.grownBy W' (some b)) : BoxJ R bx pt w₀ len (bs.set i true) (vs.set i undef) W' := by
  have hpi : pt[i]? = some (some ia) := by
    rw [List.getD_eq_getElem?_getD] at hpt
    cases h2 : pt[i]? with
    | none => rw [h2] at hpt; cases hpt
    | some x => rw [h2] at hpt; simp at hpt; rw [hpt]
  have hsb : ∀ j : Nat, i ≠ j → (bs.set i true)[j]? = bs[j]? := fun j hj => List.getElem?_set_ne hj
  have hsv : ∀ j : Nat, i ≠ j → (vs.set i undef)[j]? = vs[j]? := fun j hj => List.getElem?_set_ne hj
  have hne : i ≠ ia := fun e => by subst e; rw [hbx] at hia; cases hia
  refine ⟨h.bl.grown hg h.bl.size (fun k e => by cases e; exact hb0), by rw [List.length_set]; exact h.ln, by rw [List.length_set]; exact h.bn, fun j hj => ?_, fun j E' z' f' hx hj => ?_, fun j k b hx hy hj hk e1 e2 => ?_⟩
  · by_cases e : i = j
    · subst e; exact ⟨_, List.getElem?_set_self (by rw [h.ln]; exact hi), hv _⟩
    · rw [hsb j e] at hj; rw [hsv j e]; exact h.val j hj
  · have e : i ≠ j := fun e => by subst e; rw [hbx] at hx; cases hx
    rw [hsb j e] at hj; rw [hsv j e]
    by_cases ea : ia = j
    · subst ea
      rw [hia] at hx; cases hx
      exact ⟨b, hva, hb0, by rw [stB_put hpi (by rw [h.bn]; exact hi), if_pos rfl]; exact hr⟩
    · rw [stB_set_ne (fun e2 => ea (by rw [hpi] at e2; cases e2; rfl))]
      obtain ⟨b', h1, h2, h3⟩ := h.box j E' z' f' hx hj
      have hbb : b' ≠ b := fun e3 => by
        subst e3
        exact ea (h.apart ia j b' (by rw [hia]; rfl) (by rw [hx]; rfl) hba hj hva h1)
      refine ⟨b', h1, h2, ?_⟩
      show W'.heap[b']? = _
      rw [hg.block b' h3.lt (fun e3 => hbb (by cases e3; rfl))]
      exact h3
  · have e1' : i ≠ j := fun e => by subst e; rw [hbx] at hx; cases hx
    have e2' : i ≠ k := fun e => by subst e; rw [hbx] at hy; cases hy
    rw [hsb j e1'] at hj; rw [hsb k e2'] at hk; rw [hsv j e1'] at e1; rw [hsv k e2'] at e2
    exact h.apart j k b hx hy hj hk e1 e2
/-- boxes and stores say nothing of their own; a store waits for its box, and no box waits for its store -/
def boxOk (l : List Oper) (bx : Bxs) (pt : List (Option Nat)) : Bool := ptOk pt && decide (pt.length = l.length) && (List.range l.length).all fun i => match bx.getD i none, pt.getD i none with
  | some _, some _ => false
  | some _, none => true
  | none, some ia => ((l[i]?).map fun o => o.after.any fun e => decide (e.on = ia) && Region.binds .any e).getD false && (bx.getD ia none).isSome
  | none, none => true
theorem wp_region_box {id : Nat} {a : Act} {w : World} {l : List Oper} (hm : P.follows .mixedOrders = true) (hd : waitsC l = true) (slots : List Nat) (R : List (Value → Prop)) (bx : Bxs) (pt : List (Option Nat)) (len : Nat) (hlen : l.length = len) (hok : boxOk l bx pt = true)
    (htr : ∀ i v, (bx.getD i none).isSome = true ∨ (pt.getD i none).isSome = true → (R.getD i (fun _ => True)) v)
    (h0 : ∃ vs, a = putAll a slots vs ∧ vs.length = len)
    (hsteps : boxSteps P Q l.toArray a slots R bx pt w len l 0)
    (hend : ∀ vs W, BoxJ R bx pt w len (List.replicate len true) vs W → Q .normal (putAll a slots vs) W) : (Code.region id l.toArray true).wp P Q a w := by
  obtain ⟨vs0, e0, el0⟩ := h0
  unfold boxOk at hok
  simp only [Bool.and_eq_true, decide_eq_true_eq] at hok
  obtain ⟨⟨hp, hpl⟩, hall⟩ := hok
  refine wp_region_slots2 hm hd slots (fun bs vs W => BoxJ R bx pt w len bs vs W ∧ closedB l bs) ⟨vs0, e0, ⟨(Below.refl _ _).drew, el0, by rw [List.length_replicate]; exact hlen, fun i hi => ?_, fun i E z f _ hi => ?_, fun i j b _ _ hi => ?_⟩, fun j o _ hb => ?_⟩ ?_ ?_
  · rw [List.getElem?_replicate] at hi; split at hi <;> simp at hi
  · rw [List.getElem?_replicate] at hi; split at hi <;> simp at hi
  · rw [List.getElem?_replicate] at hi; split at hi <;> simp at hi
  · rw [List.getElem?_replicate] at hb; split at hb <;> simp at hb
  · rintro i o bs vs W K ho ⟨hJ, hcl⟩ hbl hb hw hK
    have hlt : i < l.length := (List.getElem?_eq_some_iff.1 ho).1
    have hw2 : ∀ e ∈ o.after, Region.binds .any e = true → bs[e.on]? = some true := fun e he hbe => by
      have h := hw e he hbe
      rw [List.getD_eq_getElem?_getD] at h
      cases h2 : bs[e.on]? with
      | none => rw [h2] at h; simp at h
      | some b => rw [h2] at h; simp at h; rw [h]
    have hcl2 : closedB l (bs.set i true) := fun j o' ho' hb' e he hbe => by
      by_cases ej : i = j
      · subst ej
        rw [ho] at ho'; cases ho'
        by_cases ek : i = e.on
        · rw [← ek, List.getElem?_set_self (by rw [hbl]; exact hlt)]
        · rw [List.getElem?_set_ne ek]; exact hw2 e he hbe
      · rw [List.getElem?_set_ne ej] at hb'
        have := hcl j o' ho' hb' e he hbe
        by_cases ek : i = e.on
        · rw [← ek, List.getElem?_set_self (by rw [hbl]; exact hlt)]
        · rw [List.getElem?_set_ne ek]; exact this
    refine wpOp_of_list (by simpa using ho) ?_
    have hg := boxSteps_get hsteps ho vs W K hJ.bl hJ.ln (fun e he hbe => hJ.val _ (hw2 e he hbe))
    rw [Nat.zero_add] at hg
    have hai := List.all_eq_true.1 hall i (List.mem_range.2 hlt)
    cases hbx : bx.getD i none with
    | some x =>
      obtain ⟨E, z, f⟩ := x
      rw [hbx] at hg hai
      cases hpt : pt.getD i none with
      | some ia => rw [hpt] at hai; cases hai
      | none =>
        dsimp only at hg
        refine hg (hK _ _ ⟨hJ.made (by omega) hbx (fun v => htr i v (.inl (by rw [hbx]; rfl))) hpt ?_, hcl2⟩)
        cases hst : stB pt bs i with
        | false => rfl
        | true =>
          exfalso
          unfold stB at hst
          rw [List.any_eq_true] at hst
          obtain ⟨s, hs, hh⟩ := hst
          simp only [Bool.and_eq_true, decide_eq_true_eq] at hh
          have hsl : s < l.length := by have := List.mem_range.1 hs; omega
          have has := List.all_eq_true.1 hall s (List.mem_range.2 hsl)
          have hps : pt.getD s none = some i := by rw [List.getD_eq_getElem?_getD, hh.1]; rfl
          rw [hps] at has
          cases hbs : bx.getD s none with
          | some y => rw [hbs] at has; cases has
          | none =>
            rw [hbs] at has
            simp only [Bool.and_eq_true] at has
            have h1 := has.1
            rw [List.getElem?_eq_getElem hsl] at h1
            simp only [Option.map_some, Option.getD_some, Array.any_eq_true'] at h1
            obtain ⟨e, he, h2⟩ := h1
            simp only [Bool.and_eq_true, decide_eq_true_eq] at h2
            have := hcl s l[s] (List.getElem?_eq_getElem hsl) hh.2 e he h2.2
            rw [h2.1, hb] at this
            cases this
    | none =>
      rw [hbx] at hg hai
      cases hpt : pt.getD i none with
      | some ia =>
        rw [hpt] at hg hai
        dsimp only at hg
        simp only [Bool.and_eq_true] at hai
        have h1 := hai.1
        rw [ho] at h1
        simp only [Option.map_some, Option.getD_some, Array.any_eq_true'] at h1
        obtain ⟨e, he, h2⟩ := h1
        simp only [Bool.and_eq_true, decide_eq_true_eq] at h2
        have hba := hw2 e he h2.2
        rw [h2.1] at hba
        have hpi : pt[i]? = some (some ia) := by
          rw [List.getD_eq_getElem?_getD] at hpt
          cases h3 : pt[i]? with
          | none => rw [h3] at hpt; cases hpt
          | some x => rw [h3] at hpt; simp at hpt; rw [hpt]
        have hwait := stB_wait (pt := pt) (bs := bs) (i := ia) (k := i) (fun s hs => ptOk_eq hp hs hpi) hb
        cases hia : bx.getD ia none with
        | none =>
          -- a store into what is no box of this region: excluded by its shape
          have h9 := hai.2
          rw [hia] at h9; cases h9
        | some x =>
          obtain ⟨E, z, f⟩ := x
          obtain ⟨b, h3, h4, h5⟩ := hJ.box ia E z f hia hba
          rw [hwait] at h5
          exact hg b E z f hia h3 h4 (by simpa using h5) (fun W' hr hgr => hK _ _ ⟨hJ.filled (by omega) hbx hpt (fun v => htr i v (.inr (by rw [hpt]; rfl))) hia hba h3 h4 hr hgr, hcl2⟩)
      | none =>
        rw [hpt] at hg
        dsimp only at hg
        exact hg (fun v W' hbb hr => hK _ _ ⟨hJ.other hbb (by omega) hr hbx hpt, hcl2⟩)
  · rintro vs W ⟨hJ, _⟩
    rw [hlen] at hJ
    exact hend vs W hJ
end
end Go.Proofs.Ytlemipnplgbckaa
namespace Go.Proofs.Ytlemipnplgbckaa
open Go.RowKit Go.Shelf
attribute [local go_sem] Oper.semAt_some
theorem box_get {vs : List Value} {n : Nat} {R : Value → Prop} (h : ∃ v, vs[n]? = some v ∧ R v) {x : Value} (hx : vs[n]? = some x) : R x := by
  obtain ⟨v, h1, h2⟩ := h
  rw [hx] at h1; cases h1; exact h2
theorem grown_put {W W' : World} {b i : Nat} {v : Value} (h : W.grownBy W' (some b)) : W.grownBy (W'.setCell ⟨b, i, none⟩ v) (some b) :=
  ⟨h.os, h.tape, h.output, by simpa [World.setCell] using h.size, fun k hk hne => by
    rw [Below.heap_setCell _ _ _ _ (fun e => hne (by rw [e]))]
    exact h.block k hk hne⟩
theorem grown_self (W : World) (row : Option Nat) : W.grownBy W row := ⟨rfl, rfl, rfl, Nat.le_refl _, fun _ _ _ => rfl⟩
theorem len4 {vs : List Value} (h : vs.length = 4) : ∃ x0 x1 x2 x3, vs = [x0, x1, x2, x3] := by
  obtain ⟨x0, r0, rfl, h0⟩ := len_cons h
  obtain ⟨x1, r1, rfl, h1⟩ := len_cons h0
  obtain ⟨x2, r2, rfl, h2⟩ := len_cons h1
  obtain ⟨x3, r3, rfl, h3⟩ := len_cons h2
  obtain rfl := List.eq_nil_of_length_eq_zero h3
  exact ⟨_, _, _, _, rfl⟩
theorem len5 {vs : List Value} (h : vs.length = 5) : ∃ x0 x1 x2 x3 x4, vs = [x0, x1, x2, x3, x4] := by
  obtain ⟨x0, r0, rfl, h0⟩ := len_cons h
  obtain ⟨x1, r1, rfl, h1⟩ := len_cons h0
  obtain ⟨x2, r2, rfl, h2⟩ := len_cons h1
  obtain ⟨x3, r3, rfl, h3⟩ := len_cons h2
  obtain ⟨x4, r4, rfl, h4⟩ := len_cons h3
  obtain rfl := List.eq_nil_of_length_eq_zero h4
  exact ⟨_, _, _, _, _, rfl⟩
theorem len6 {vs : List Value} (h : vs.length = 6) : ∃ x0 x1 x2 x3 x4 x5, vs = [x0, x1, x2, x3, x4, x5] := by
  obtain ⟨x0, r0, rfl, h0⟩ := len_cons h
  obtain ⟨x1, r1, rfl, h1⟩ := len_cons h0
  obtain ⟨x2, r2, rfl, h2⟩ := len_cons h1
  obtain ⟨x3, r3, rfl, h3⟩ := len_cons h2
  obtain ⟨x4, r4, rfl, h4⟩ := len_cons h3
  obtain ⟨x5, r5, rfl, h5⟩ := len_cons h4
  obtain rfl := List.eq_nil_of_length_eq_zero h5
  exact ⟨_, _, _, _, _, _, rfl⟩
theorem len7 {vs : List Value} (h : vs.length = 7) : ∃ x0 x1 x2 x3 x4 x5 x6, vs = [x0, x1, x2, x3, x4, x5, x6] := by
  obtain ⟨x0, r0, rfl, h0⟩ := len_cons h
  obtain ⟨x1, r1, rfl, h1⟩ := len_cons h0
  obtain ⟨x2, r2, rfl, h2⟩ := len_cons h1
  obtain ⟨x3, r3, rfl, h3⟩ := len_cons h2
  obtain ⟨x4, r4, rfl, h4⟩ := len_cons h3
  obtain ⟨x5, r5, rfl, h5⟩ := len_cons h4
  obtain ⟨x6, r6, rfl, h6⟩ := len_cons h5
  obtain rfl := List.eq_nil_of_length_eq_zero h6
  exact ⟨_, _, _, _, _, _, _, rfl⟩
theorem len8 {vs : List Value} (h : vs.length = 8) : ∃ x0 x1 x2 x3 x4 x5 x6 x7, vs = [x0, x1, x2, x3, x4, x5, x6, x7] := by
  obtain ⟨x0, r0, rfl, h0⟩ := len_cons h
  obtain ⟨x1, r1, rfl, h1⟩ := len_cons h0
  obtain ⟨x2, r2, rfl, h2⟩ := len_cons h1
  obtain ⟨x3, r3, rfl, h3⟩ := len_cons h2
  obtain ⟨x4, r4, rfl, h4⟩ := len_cons h3
  obtain ⟨x5, r5, rfl, h5⟩ := len_cons h4
  obtain ⟨x6, r6, rfl, h6⟩ := len_cons h5
  obtain ⟨x7, r7, rfl, h7⟩ := len_cons h6
  obtain rfl := List.eq_nil_of_length_eq_zero h7
  exact ⟨_, _, _, _, _, _, _, _, rfl⟩
theorem len9 {vs : List Value} (h : vs.length = 9) : ∃ x0 x1 x2 x3 x4 x5 x6 x7 x8, vs = [x0, x1, x2, x3, x4, x5, x6, x7, x8] := by
  obtain ⟨x0, r0, rfl, h0⟩ := len_cons h
  obtain ⟨x1, r1, rfl, h1⟩ := len_cons h0
  obtain ⟨x2, r2, rfl, h2⟩ := len_cons h1
  obtain ⟨x3, r3, rfl, h3⟩ := len_cons h2
  obtain ⟨x4, r4, rfl, h4⟩ := len_cons h3
  obtain ⟨x5, r5, rfl, h5⟩ := len_cons h4
  obtain ⟨x6, r6, rfl, h6⟩ := len_cons h5
  obtain ⟨x7, r7, rfl, h7⟩ := len_cons h6
  obtain ⟨x8, r8, rfl, h8⟩ := len_cons h7
  obtain rfl := List.eq_nil_of_length_eq_zero h8
  exact ⟨_, _, _, _, _, _, _, _, _, rfl⟩
theorem len10 {vs : List Value} (h : vs.length = 10) : ∃ x0 x1 x2 x3 x4 x5 x6 x7 x8 x9, vs = [x0, x1, x2, x3, x4, x5, x6, x7, x8, x9] := by
  obtain ⟨x0, r0, rfl, h0⟩ := len_cons h
  obtain ⟨x1, r1, rfl, h1⟩ := len_cons h0
  obtain ⟨x2, r2, rfl, h2⟩ := len_cons h1
  obtain ⟨x3, r3, rfl, h3⟩ := len_cons h2
  obtain ⟨x4, r4, rfl, h4⟩ := len_cons h3
  obtain ⟨x5, r5, rfl, h5⟩ := len_cons h4
  obtain ⟨x6, r6, rfl, h6⟩ := len_cons h5
  obtain ⟨x7, r7, rfl, h7⟩ := len_cons h6
  obtain ⟨x8, r8, rfl, h8⟩ := len_cons h7
  obtain ⟨x9, r9, rfl, h9⟩ := len_cons h8
  obtain rfl := List.eq_nil_of_length_eq_zero h9
  exact ⟨_, _, _, _, _, _, _, _, _, _, rfl⟩
theorem len11 {vs : List Value} (h : vs.length = 11) : ∃ x0 x1 x2 x3 x4 x5 x6 x7 x8 x9 x10, vs = [x0, x1, x2, x3, x4, x5, x6, x7, x8, x9, x10] := by
  obtain ⟨x0, r0, rfl, h0⟩ := len_cons h
  obtain ⟨x1, r1, rfl, h1⟩ := len_cons h0
  obtain ⟨x2, r2, rfl, h2⟩ := len_cons h1
  obtain ⟨x3, r3, rfl, h3⟩ := len_cons h2
  obtain ⟨x4, r4, rfl, h4⟩ := len_cons h3
  obtain ⟨x5, r5, rfl, h5⟩ := len_cons h4
  obtain ⟨x6, r6, rfl, h6⟩ := len_cons h5
  obtain ⟨x7, r7, rfl, h7⟩ := len_cons h6
  obtain ⟨x8, r8, rfl, h8⟩ := len_cons h7
  obtain ⟨x9, r9, rfl, h9⟩ := len_cons h8
  obtain ⟨x10, r10, rfl, h10⟩ := len_cons h9
  obtain rfl := List.eq_nil_of_length_eq_zero h10
  exact ⟨_, _, _, _, _, _, _, _, _, _, _, rfl⟩
theorem len12 {vs : List Value} (h : vs.length = 12) : ∃ x0 x1 x2 x3 x4 x5 x6 x7 x8 x9 x10 x11, vs = [x0, x1, x2, x3, x4, x5, x6, x7, x8, x9, x10, x11] := by
  obtain ⟨x0, r0, rfl, h0⟩ := len_cons h
  obtain ⟨x1, r1, rfl, h1⟩ := len_cons h0
  obtain ⟨x2, r2, rfl, h2⟩ := len_cons h1
  obtain ⟨x3, r3, rfl, h3⟩ := len_cons h2
  obtain ⟨x4, r4, rfl, h4⟩ := len_cons h3
  obtain ⟨x5, r5, rfl, h5⟩ := len_cons h4
  obtain ⟨x6, r6, rfl, h6⟩ := len_cons h5
  obtain ⟨x7, r7, rfl, h7⟩ := len_cons h6
  obtain ⟨x8, r8, rfl, h8⟩ := len_cons h7
  obtain ⟨x9, r9, rfl, h9⟩ := len_cons h8
  obtain ⟨x10, r10, rfl, h10⟩ := len_cons h9
  obtain ⟨x11, r11, rfl, h11⟩ := len_cons h10
  obtain rfl := List.eq_nil_of_length_eq_zero h11
  exact ⟨_, _, _, _, _, _, _, _, _, _, _, _, rfl⟩
theorem len13 {vs : List Value} (h : vs.length = 13) : ∃ x0 x1 x2 x3 x4 x5 x6 x7 x8 x9 x10 x11 x12, vs = [x0, x1, x2, x3, x4, x5, x6, x7, x8, x9, x10, x11, x12] := by
  obtain ⟨x0, r0, rfl, h0⟩ := len_cons h
  obtain ⟨x1, r1, rfl, h1⟩ := len_cons h0
  obtain ⟨x2, r2, rfl, h2⟩ := len_cons h1
  obtain ⟨x3, r3, rfl, h3⟩ := len_cons h2
  obtain ⟨x4, r4, rfl, h4⟩ := len_cons h3
  obtain ⟨x5, r5, rfl, h5⟩ := len_cons h4
  obtain ⟨x6, r6, rfl, h6⟩ := len_cons h5
  obtain ⟨x7, r7, rfl, h7⟩ := len_cons h6
  obtain ⟨x8, r8, rfl, h8⟩ := len_cons h7
  obtain ⟨x9, r9, rfl, h9⟩ := len_cons h8
  obtain ⟨x10, r10, rfl, h10⟩ := len_cons h9
  obtain ⟨x11, r11, rfl, h11⟩ := len_cons h10
  obtain ⟨x12, r12, rfl, h12⟩ := len_cons h11
  obtain rfl := List.eq_nil_of_length_eq_zero h12
  exact ⟨_, _, _, _, _, _, _, _, _, _, _, _, _, rfl⟩
theorem len14 {vs : List Value} (h : vs.length = 14) : ∃ x0 x1 x2 x3 x4 x5 x6 x7 x8 x9 x10 x11 x12 x13, vs = [x0, x1, x2, x3, x4, x5, x6, x7, x8, x9, x10, x11, x12, x13] := by
  obtain ⟨x0, r0, rfl, h0⟩ := len_cons h
  obtain ⟨x1, r1, rfl, h1⟩ := len_cons h0
  obtain ⟨x2, r2, rfl, h2⟩ := len_cons h1
  obtain ⟨x3, r3, rfl, h3⟩ := len_cons h2
  obtain ⟨x4, r4, rfl, h4⟩ := len_cons h3
  obtain ⟨x5, r5, rfl, h5⟩ := len_cons h4
  obtain ⟨x6, r6, rfl, h6⟩ := len_cons h5
  obtain ⟨x7, r7, rfl, h7⟩ := len_cons h6
  obtain ⟨x8, r8, rfl, h8⟩ := len_cons h7
  obtain ⟨x9, r9, rfl, h9⟩ := len_cons h8
  obtain ⟨x10, r10, rfl, h10⟩ := len_cons h9
  obtain ⟨x11, r11, rfl, h11⟩ := len_cons h10
  obtain ⟨x12, r12, rfl, h12⟩ := len_cons h11
  obtain ⟨x13, r13, rfl, h13⟩ := len_cons h12
  obtain rfl := List.eq_nil_of_length_eq_zero h13
  exact ⟨_, _, _, _, _, _, _, _, _, _, _, _, _, _, rfl⟩
theorem len15 {vs : List Value} (h : vs.length = 15) : ∃ x0 x1 x2 x3 x4 x5 x6 x7 x8 x9 x10 x11 x12 x13 x14, vs = [x0, x1, x2, x3, x4, x5, x6, x7, x8, x9, x10, x11, x12, x13, x14] := by
  obtain ⟨x0, r0, rfl, h0⟩ := len_cons h
  obtain ⟨x1, r1, rfl, h1⟩ := len_cons h0
  obtain ⟨x2, r2, rfl, h2⟩ := len_cons h1
  obtain ⟨x3, r3, rfl, h3⟩ := len_cons h2
  obtain ⟨x4, r4, rfl, h4⟩ := len_cons h3
  obtain ⟨x5, r5, rfl, h5⟩ := len_cons h4
  obtain ⟨x6, r6, rfl, h6⟩ := len_cons h5
  obtain ⟨x7, r7, rfl, h7⟩ := len_cons h6
  obtain ⟨x8, r8, rfl, h8⟩ := len_cons h7
  obtain ⟨x9, r9, rfl, h9⟩ := len_cons h8
  obtain ⟨x10, r10, rfl, h10⟩ := len_cons h9
  obtain ⟨x11, r11, rfl, h11⟩ := len_cons h10
  obtain ⟨x12, r12, rfl, h12⟩ := len_cons h11
  obtain ⟨x13, r13, rfl, h13⟩ := len_cons h12
  obtain ⟨x14, r14, rfl, h14⟩ := len_cons h13
  obtain rfl := List.eq_nil_of_length_eq_zero h14
  exact ⟨_, _, _, _, _, _, _, _, _, _, _, _, _, _, _, rfl⟩
theorem len16 {vs : List Value} (h : vs.length = 16) : ∃ x0 x1 x2 x3 x4 x5 x6 x7 x8 x9 x10 x11 x12 x13 x14 x15, vs = [x0, x1, x2, x3, x4, x5, x6, x7, x8, x9, x10, x11, x12, x13, x14, x15] := by
  obtain ⟨x0, r0, rfl, h0⟩ := len_cons h
  obtain ⟨x1, r1, rfl, h1⟩ := len_cons h0
  obtain ⟨x2, r2, rfl, h2⟩ := len_cons h1
  obtain ⟨x3, r3, rfl, h3⟩ := len_cons h2
  obtain ⟨x4, r4, rfl, h4⟩ := len_cons h3
  obtain ⟨x5, r5, rfl, h5⟩ := len_cons h4
  obtain ⟨x6, r6, rfl, h6⟩ := len_cons h5
  obtain ⟨x7, r7, rfl, h7⟩ := len_cons h6
  obtain ⟨x8, r8, rfl, h8⟩ := len_cons h7
  obtain ⟨x9, r9, rfl, h9⟩ := len_cons h8
  obtain ⟨x10, r10, rfl, h10⟩ := len_cons h9
  obtain ⟨x11, r11, rfl, h11⟩ := len_cons h10
  obtain ⟨x12, r12, rfl, h12⟩ := len_cons h11
  obtain ⟨x13, r13, rfl, h13⟩ := len_cons h12
  obtain ⟨x14, r14, rfl, h14⟩ := len_cons h13
  obtain ⟨x15, r15, rfl, h15⟩ := len_cons h14
  obtain rfl := List.eq_nil_of_length_eq_zero h15
  exact ⟨_, _, _, _, _, _, _, _, _, _, _, _, _, _, _, _, rfl⟩
theorem len17 {vs : List Value} (h : vs.length = 17) : ∃ x0 x1 x2 x3 x4 x5 x6 x7 x8 x9 x10 x11 x12 x13 x14 x15 x16, vs = [x0, x1, x2, x3, x4, x5, x6, x7, x8, x9, x10, x11, x12, x13, x14, x15, x16] := by
  obtain ⟨x0, r0, rfl, h0⟩ := len_cons h
  obtain ⟨x1, r1, rfl, h1⟩ := len_cons h0
  obtain ⟨x2, r2, rfl, h2⟩ := len_cons h1
  obtain ⟨x3, r3, rfl, h3⟩ := len_cons h2
  obtain ⟨x4, r4, rfl, h4⟩ := len_cons h3
  obtain ⟨x5, r5, rfl, h5⟩ := len_cons h4
  obtain ⟨x6, r6, rfl, h6⟩ := len_cons h5
  obtain ⟨x7, r7, rfl, h7⟩ := len_cons h6
  obtain ⟨x8, r8, rfl, h8⟩ := len_cons h7
  obtain ⟨x9, r9, rfl, h9⟩ := len_cons h8
  obtain ⟨x10, r10, rfl, h10⟩ := len_cons h9
  obtain ⟨x11, r11, rfl, h11⟩ := len_cons h10
  obtain ⟨x12, r12, rfl, h12⟩ := len_cons h11
  obtain ⟨x13, r13, rfl, h13⟩ := len_cons h12
  obtain ⟨x14, r14, rfl, h14⟩ := len_cons h13
  obtain ⟨x15, r15, rfl, h15⟩ := len_cons h14
  obtain ⟨x16, r16, rfl, h16⟩ := len_cons h15
  obtain rfl := List.eq_nil_of_length_eq_zero h16
  exact ⟨_, _, _, _, _, _, _, _, _, _, _, _, _, _, _, _, _, rfl⟩
theorem len18 {vs : List Value} (h : vs.length = 18) : ∃ x0 x1 x2 x3 x4 x5 x6 x7 x8 x9 x10 x11 x12 x13 x14 x15 x16 x17, vs = [x0, x1, x2, x3, x4, x5, x6, x7, x8, x9, x10, x11, x12, x13, x14, x15, x16, x17] := by
  obtain ⟨x0, r0, rfl, h0⟩ := len_cons h
  obtain ⟨x1, r1, rfl, h1⟩ := len_cons h0
  obtain ⟨x2, r2, rfl, h2⟩ := len_cons h1
  obtain ⟨x3, r3, rfl, h3⟩ := len_cons h2
  obtain ⟨x4, r4, rfl, h4⟩ := len_cons h3
  obtain ⟨x5, r5, rfl, h5⟩ := len_cons h4
  obtain ⟨x6, r6, rfl, h6⟩ := len_cons h5
  obtain ⟨x7, r7, rfl, h7⟩ := len_cons h6
  obtain ⟨x8, r8, rfl, h8⟩ := len_cons h7
  obtain ⟨x9, r9, rfl, h9⟩ := len_cons h8
  obtain ⟨x10, r10, rfl, h10⟩ := len_cons h9
  obtain ⟨x11, r11, rfl, h11⟩ := len_cons h10
  obtain ⟨x12, r12, rfl, h12⟩ := len_cons h11
  obtain ⟨x13, r13, rfl, h13⟩ := len_cons h12
  obtain ⟨x14, r14, rfl, h14⟩ := len_cons h13
  obtain ⟨x15, r15, rfl, h15⟩ := len_cons h14
  obtain ⟨x16, r16, rfl, h16⟩ := len_cons h15
  obtain ⟨x17, r17, rfl, h17⟩ := len_cons h16
  obtain rfl := List.eq_nil_of_length_eq_zero h17
  exact ⟨_, _, _, _, _, _, _, _, _, _, _, _, _, _, _, _, _, _, rfl⟩
theorem len19 {vs : List Value} (h : vs.length = 19) : ∃ x0 x1 x2 x3 x4 x5 x6 x7 x8 x9 x10 x11 x12 x13 x14 x15 x16 x17 x18, vs = [x0, x1, x2, x3, x4, x5, x6, x7, x8, x9, x10, x11, x12, x13, x14, x15, x16, x17, x18] := by
  obtain ⟨x0, r0, rfl, h0⟩ := len_cons h
  obtain ⟨x1, r1, rfl, h1⟩ := len_cons h0
  obtain ⟨x2, r2, rfl, h2⟩ := len_cons h1
  obtain ⟨x3, r3, rfl, h3⟩ := len_cons h2
  obtain ⟨x4, r4, rfl, h4⟩ := len_cons h3
  obtain ⟨x5, r5, rfl, h5⟩ := len_cons h4
  obtain ⟨x6, r6, rfl, h6⟩ := len_cons h5
  obtain ⟨x7, r7, rfl, h7⟩ := len_cons h6
  obtain ⟨x8, r8, rfl, h8⟩ := len_cons h7
  obtain ⟨x9, r9, rfl, h9⟩ := len_cons h8
  obtain ⟨x10, r10, rfl, h10⟩ := len_cons h9
  obtain ⟨x11, r11, rfl, h11⟩ := len_cons h10
  obtain ⟨x12, r12, rfl, h12⟩ := len_cons h11
  obtain ⟨x13, r13, rfl, h13⟩ := len_cons h12
  obtain ⟨x14, r14, rfl, h14⟩ := len_cons h13
  obtain ⟨x15, r15, rfl, h15⟩ := len_cons h14
  obtain ⟨x16, r16, rfl, h16⟩ := len_cons h15
  obtain ⟨x17, r17, rfl, h17⟩ := len_cons h16
  obtain ⟨x18, r18, rfl, h18⟩ := len_cons h17
  obtain rfl := List.eq_nil_of_length_eq_zero h18
  exact ⟨_, _, _, _, _, _, _, _, _, _, _, _, _, _, _, _, _, _, _, rfl⟩
theorem len20 {vs : List Value} (h : vs.length = 20) : ∃ x0 x1 x2 x3 x4 x5 x6 x7 x8 x9 x10 x11 x12 x13 x14 x15 x16 x17 x18 x19, vs = [x0, x1, x2, x3, x4, x5, x6, x7, x8, x9, x10, x11, x12, x13, x14, x15, x16, x17, x18, x19] := by
  obtain ⟨x0, r0, rfl, h0⟩ := len_cons h
  obtain ⟨x1, r1, rfl, h1⟩ := len_cons h0
  obtain ⟨x2, r2, rfl, h2⟩ := len_cons h1
  obtain ⟨x3, r3, rfl, h3⟩ := len_cons h2
  obtain ⟨x4, r4, rfl, h4⟩ := len_cons h3
  obtain ⟨x5, r5, rfl, h5⟩ := len_cons h4
  obtain ⟨x6, r6, rfl, h6⟩ := len_cons h5
  obtain ⟨x7, r7, rfl, h7⟩ := len_cons h6
  obtain ⟨x8, r8, rfl, h8⟩ := len_cons h7
  obtain ⟨x9, r9, rfl, h9⟩ := len_cons h8
  obtain ⟨x10, r10, rfl, h10⟩ := len_cons h9
  obtain ⟨x11, r11, rfl, h11⟩ := len_cons h10
  obtain ⟨x12, r12, rfl, h12⟩ := len_cons h11
  obtain ⟨x13, r13, rfl, h13⟩ := len_cons h12
  obtain ⟨x14, r14, rfl, h14⟩ := len_cons h13
  obtain ⟨x15, r15, rfl, h15⟩ := len_cons h14
  obtain ⟨x16, r16, rfl, h16⟩ := len_cons h15
  obtain ⟨x17, r17, rfl, h17⟩ := len_cons h16
  obtain ⟨x18, r18, rfl, h18⟩ := len_cons h17
  obtain ⟨x19, r19, rfl, h19⟩ := len_cons h18
  obtain rfl := List.eq_nil_of_length_eq_zero h19
  exact ⟨_, _, _, _, _, _, _, _, _, _, _, _, _, _, _, _, _, _, _, _, rfl⟩
theorem len21 {vs : List Value} (h : vs.length = 21) : ∃ x0 x1 x2 x3 x4 x5 x6 x7 x8 x9 x10 x11 x12 x13 x14 x15 x16 x17 x18 x19 x20, vs = [x0, x1, x2, x3, x4, x5, x6, x7, x8, x9, x10, x11, x12, x13, x14, x15, x16, x17, x18, x19, x20] := by
  obtain ⟨x0, r0, rfl, h0⟩ := len_cons h
  obtain ⟨x1, r1, rfl, h1⟩ := len_cons h0
  obtain ⟨x2, r2, rfl, h2⟩ := len_cons h1
  obtain ⟨x3, r3, rfl, h3⟩ := len_cons h2
  obtain ⟨x4, r4, rfl, h4⟩ := len_cons h3
  obtain ⟨x5, r5, rfl, h5⟩ := len_cons h4
  obtain ⟨x6, r6, rfl, h6⟩ := len_cons h5
  obtain ⟨x7, r7, rfl, h7⟩ := len_cons h6
  obtain ⟨x8, r8, rfl, h8⟩ := len_cons h7
  obtain ⟨x9, r9, rfl, h9⟩ := len_cons h8
  obtain ⟨x10, r10, rfl, h10⟩ := len_cons h9
  obtain ⟨x11, r11, rfl, h11⟩ := len_cons h10
  obtain ⟨x12, r12, rfl, h12⟩ := len_cons h11
  obtain ⟨x13, r13, rfl, h13⟩ := len_cons h12
  obtain ⟨x14, r14, rfl, h14⟩ := len_cons h13
  obtain ⟨x15, r15, rfl, h15⟩ := len_cons h14
  obtain ⟨x16, r16, rfl, h16⟩ := len_cons h15
  obtain ⟨x17, r17, rfl, h17⟩ := len_cons h16
  obtain ⟨x18, r18, rfl, h18⟩ := len_cons h17
  obtain ⟨x19, r19, rfl, h19⟩ := len_cons h18
  obtain ⟨x20, r20, rfl, h20⟩ := len_cons h19
  obtain rfl := List.eq_nil_of_length_eq_zero h20
  exact ⟨_, _, _, _, _, _, _, _, _, _, _, _, _, _, _, _, _, _, _, _, _, rfl⟩
theorem len22 {vs : List Value} (h : vs.length = 22) : ∃ x0 x1 x2 x3 x4 x5 x6 x7 x8 x9 x10 x11 x12 x13 x14 x15 x16 x17 x18 x19 x20 x21, vs = [x0, x1, x2, x3, x4, x5, x6, x7, x8, x9, x10, x11, x12, x13, x14, x15, x16, x17, x18, x19, x20, x21] := by
  obtain ⟨x0, r0, rfl, h0⟩ := len_cons h
  obtain ⟨x1, r1, rfl, h1⟩ := len_cons h0
  obtain ⟨x2, r2, rfl, h2⟩ := len_cons h1
  obtain ⟨x3, r3, rfl, h3⟩ := len_cons h2
  obtain ⟨x4, r4, rfl, h4⟩ := len_cons h3
  obtain ⟨x5, r5, rfl, h5⟩ := len_cons h4
  obtain ⟨x6, r6, rfl, h6⟩ := len_cons h5
  obtain ⟨x7, r7, rfl, h7⟩ := len_cons h6
  obtain ⟨x8, r8, rfl, h8⟩ := len_cons h7
  obtain ⟨x9, r9, rfl, h9⟩ := len_cons h8
  obtain ⟨x10, r10, rfl, h10⟩ := len_cons h9
  obtain ⟨x11, r11, rfl, h11⟩ := len_cons h10
  obtain ⟨x12, r12, rfl, h12⟩ := len_cons h11
  obtain ⟨x13, r13, rfl, h13⟩ := len_cons h12
  obtain ⟨x14, r14, rfl, h14⟩ := len_cons h13
  obtain ⟨x15, r15, rfl, h15⟩ := len_cons h14
  obtain ⟨x16, r16, rfl, h16⟩ := len_cons h15
  obtain ⟨x17, r17, rfl, h17⟩ := len_cons h16
  obtain ⟨x18, r18, rfl, h18⟩ := len_cons h17
  obtain ⟨x19, r19, rfl, h19⟩ := len_cons h18
  obtain ⟨x20, r20, rfl, h20⟩ := len_cons h19
  obtain ⟨x21, r21, rfl, h21⟩ := len_cons h20
  obtain rfl := List.eq_nil_of_length_eq_zero h21
  exact ⟨_, _, _, _, _, _, _, _, _, _, _, _, _, _, _, _, _, _, _, _, _, _, rfl⟩
theorem len23 {vs : List Value} (h : vs.length = 23) : ∃ x0 x1 x2 x3 x4 x5 x6 x7 x8 x9 x10 x11 x12 x13 x14 x15 x16 x17 x18 x19 x20 x21 x22, vs = [x0, x1, x2, x3, x4, x5, x6, x7, x8, x9, x10, x11, x12, x13, x14, x15, x16, x17, x18, x19, x20, x21, x22] := by
  obtain ⟨x0, r0, rfl, h0⟩ := len_cons h
  obtain ⟨x1, r1, rfl, h1⟩ := len_cons h0
  obtain ⟨x2, r2, rfl, h2⟩ := len_cons h1
  obtain ⟨x3, r3, rfl, h3⟩ := len_cons h2
  obtain ⟨x4, r4, rfl, h4⟩ := len_cons h3
  obtain ⟨x5, r5, rfl, h5⟩ := len_cons h4
  obtain ⟨x6, r6, rfl, h6⟩ := len_cons h5
  obtain ⟨x7, r7, rfl, h7⟩ := len_cons h6
  obtain ⟨x8, r8, rfl, h8⟩ := len_cons h7
  obtain ⟨x9, r9, rfl, h9⟩ := len_cons h8
  obtain ⟨x10, r10, rfl, h10⟩ := len_cons h9
  obtain ⟨x11, r11, rfl, h11⟩ := len_cons h10
  obtain ⟨x12, r12, rfl, h12⟩ := len_cons h11
  obtain ⟨x13, r13, rfl, h13⟩ := len_cons h12
  obtain ⟨x14, r14, rfl, h14⟩ := len_cons h13
  obtain ⟨x15, r15, rfl, h15⟩ := len_cons h14
  obtain ⟨x16, r16, rfl, h16⟩ := len_cons h15
  obtain ⟨x17, r17, rfl, h17⟩ := len_cons h16
  obtain ⟨x18, r18, rfl, h18⟩ := len_cons h17
  obtain ⟨x19, r19, rfl, h19⟩ := len_cons h18
  obtain ⟨x20, r20, rfl, h20⟩ := len_cons h19
  obtain ⟨x21, r21, rfl, h21⟩ := len_cons h20
  obtain ⟨x22, r22, rfl, h22⟩ := len_cons h21
  obtain rfl := List.eq_nil_of_length_eq_zero h22
  exact ⟨_, _, _, _, _, _, _, _, _, _, _, _, _, _, _, _, _, _, _, _, _, _, _, rfl⟩
theorem len24 {vs : List Value} (h : vs.length = 24) : ∃ x0 x1 x2 x3 x4 x5 x6 x7 x8 x9 x10 x11 x12 x13 x14 x15 x16 x17 x18 x19 x20 x21 x22 x23, vs = [x0, x1, x2, x3, x4, x5, x6, x7, x8, x9, x10, x11, x12, x13, x14, x15, x16, x17, x18, x19, x20, x21, x22, x23] := by
  obtain ⟨x0, r0, rfl, h0⟩ := len_cons h
  obtain ⟨x1, r1, rfl, h1⟩ := len_cons h0
  obtain ⟨x2, r2, rfl, h2⟩ := len_cons h1
  obtain ⟨x3, r3, rfl, h3⟩ := len_cons h2
  obtain ⟨x4, r4, rfl, h4⟩ := len_cons h3
  obtain ⟨x5, r5, rfl, h5⟩ := len_cons h4
  obtain ⟨x6, r6, rfl, h6⟩ := len_cons h5
  obtain ⟨x7, r7, rfl, h7⟩ := len_cons h6
  obtain ⟨x8, r8, rfl, h8⟩ := len_cons h7
  obtain ⟨x9, r9, rfl, h9⟩ := len_cons h8
  obtain ⟨x10, r10, rfl, h10⟩ := len_cons h9
  obtain ⟨x11, r11, rfl, h11⟩ := len_cons h10
  obtain ⟨x12, r12, rfl, h12⟩ := len_cons h11
  obtain ⟨x13, r13, rfl, h13⟩ := len_cons h12
  obtain ⟨x14, r14, rfl, h14⟩ := len_cons h13
  obtain ⟨x15, r15, rfl, h15⟩ := len_cons h14
  obtain ⟨x16, r16, rfl, h16⟩ := len_cons h15
  obtain ⟨x17, r17, rfl, h17⟩ := len_cons h16
  obtain ⟨x18, r18, rfl, h18⟩ := len_cons h17
  obtain ⟨x19, r19, rfl, h19⟩ := len_cons h18
  obtain ⟨x20, r20, rfl, h20⟩ := len_cons h19
  obtain ⟨x21, r21, rfl, h21⟩ := len_cons h20
  obtain ⟨x22, r22, rfl, h22⟩ := len_cons h21
  obtain ⟨x23, r23, rfl, h23⟩ := len_cons h22
  obtain rfl := List.eq_nil_of_length_eq_zero h23
  exact ⟨_, _, _, _, _, _, _, _, _, _, _, _, _, _, _, _, _, _, _, _, _, _, _, _, rfl⟩
theorem len25 {vs : List Value} (h : vs.length = 25) : ∃ x0 x1 x2 x3 x4 x5 x6 x7 x8 x9 x10 x11 x12 x13 x14 x15 x16 x17 x18 x19 x20 x21 x22 x23 x24, vs = [x0, x1, x2, x3, x4, x5, x6, x7, x8, x9, x10, x11, x12, x13, x14, x15, x16, x17, x18, x19, x20, x21, x22, x23, x24] := by
  obtain ⟨x0, r0, rfl, h0⟩ := len_cons h
  obtain ⟨x1, r1, rfl, h1⟩ := len_cons h0
  obtain ⟨x2, r2, rfl, h2⟩ := len_cons h1
  obtain ⟨x3, r3, rfl, h3⟩ := len_cons h2
  obtain ⟨x4, r4, rfl, h4⟩ := len_cons h3
  obtain ⟨x5, r5, rfl, h5⟩ := len_cons h4
  obtain ⟨x6, r6, rfl, h6⟩ := len_cons h5
  obtain ⟨x7, r7, rfl, h7⟩ := len_cons h6
  obtain ⟨x8, r8, rfl, h8⟩ := len_cons h7
  obtain ⟨x9, r9, rfl, h9⟩ := len_cons h8
  obtain ⟨x10, r10, rfl, h10⟩ := len_cons h9
  obtain ⟨x11, r11, rfl, h11⟩ := len_cons h10
  obtain ⟨x12, r12, rfl, h12⟩ := len_cons h11
  obtain ⟨x13, r13, rfl, h13⟩ := len_cons h12
  obtain ⟨x14, r14, rfl, h14⟩ := len_cons h13
  obtain ⟨x15, r15, rfl, h15⟩ := len_cons h14
  obtain ⟨x16, r16, rfl, h16⟩ := len_cons h15
  obtain ⟨x17, r17, rfl, h17⟩ := len_cons h16
  obtain ⟨x18, r18, rfl, h18⟩ := len_cons h17
  obtain ⟨x19, r19, rfl, h19⟩ := len_cons h18
  obtain ⟨x20, r20, rfl, h20⟩ := len_cons h19
  obtain ⟨x21, r21, rfl, h21⟩ := len_cons h20
  obtain ⟨x22, r22, rfl, h22⟩ := len_cons h21
  obtain ⟨x23, r23, rfl, h23⟩ := len_cons h22
  obtain ⟨x24, r24, rfl, h24⟩ := len_cons h23
  obtain rfl := List.eq_nil_of_length_eq_zero h24
  exact ⟨_, _, _, _, _, _, _, _, _, _, _, _, _, _, _, _, _, _, _, _, _, _, _, _, _, rfl⟩
theorem len26 {vs : List Value} (h : vs.length = 26) : ∃ x0 x1 x2 x3 x4 x5 x6 x7 x8 x9 x10 x11 x12 x13 x14 x15 x16 x17 x18 x19 x20 x21 x22 x23 x24 x25, vs = [x0, x1, x2, x3, x4, x5, x6, x7, x8, x9, x10, x11, x12, x13, x14, x15, x16, x17, x18, x19, x20, x21, x22, x23, x24, x25] := by
  obtain ⟨x0, r0, rfl, h0⟩ := len_cons h
  obtain ⟨x1, r1, rfl, h1⟩ := len_cons h0
  obtain ⟨x2, r2, rfl, h2⟩ := len_cons h1
  obtain ⟨x3, r3, rfl, h3⟩ := len_cons h2
  obtain ⟨x4, r4, rfl, h4⟩ := len_cons h3
  obtain ⟨x5, r5, rfl, h5⟩ := len_cons h4
  obtain ⟨x6, r6, rfl, h6⟩ := len_cons h5
  obtain ⟨x7, r7, rfl, h7⟩ := len_cons h6
  obtain ⟨x8, r8, rfl, h8⟩ := len_cons h7
  obtain ⟨x9, r9, rfl, h9⟩ := len_cons h8
  obtain ⟨x10, r10, rfl, h10⟩ := len_cons h9
  obtain ⟨x11, r11, rfl, h11⟩ := len_cons h10
  obtain ⟨x12, r12, rfl, h12⟩ := len_cons h11
  obtain ⟨x13, r13, rfl, h13⟩ := len_cons h12
  obtain ⟨x14, r14, rfl, h14⟩ := len_cons h13
  obtain ⟨x15, r15, rfl, h15⟩ := len_cons h14
  obtain ⟨x16, r16, rfl, h16⟩ := len_cons h15
  obtain ⟨x17, r17, rfl, h17⟩ := len_cons h16
  obtain ⟨x18, r18, rfl, h18⟩ := len_cons h17
  obtain ⟨x19, r19, rfl, h19⟩ := len_cons h18
  obtain ⟨x20, r20, rfl, h20⟩ := len_cons h19
  obtain ⟨x21, r21, rfl, h21⟩ := len_cons h20
  obtain ⟨x22, r22, rfl, h22⟩ := len_cons h21
  obtain ⟨x23, r23, rfl, h23⟩ := len_cons h22
  obtain ⟨x24, r24, rfl, h24⟩ := len_cons h23
  obtain ⟨x25, r25, rfl, h25⟩ := len_cons h24
  obtain rfl := List.eq_nil_of_length_eq_zero h25
  exact ⟨_, _, _, _, _, _, _, _, _, _, _, _, _, _, _, _, _, _, _, _, _, _, _, _, _, _, rfl⟩
theorem len27 {vs : List Value} (h : vs.length = 27) : ∃ x0 x1 x2 x3 x4 x5 x6 x7 x8 x9 x10 x11 x12 x13 x14 x15 x16 x17 x18 x19 x20 x21 x22 x23 x24 x25 x26, vs = [x0, x1, x2, x3, x4, x5, x6, x7, x8, x9, x10, x11, x12, x13, x14, x15, x16, x17, x18, x19, x20, x21, x22, x23, x24, x25, x26] := by
  obtain ⟨x0, r0, rfl, h0⟩ := len_cons h
  obtain ⟨x1, r1, rfl, h1⟩ := len_cons h0
  obtain ⟨x2, r2, rfl, h2⟩ := len_cons h1
  obtain ⟨x3, r3, rfl, h3⟩ := len_cons h2
  obtain ⟨x4, r4, rfl, h4⟩ := len_cons h3
  obtain ⟨x5, r5, rfl, h5⟩ := len_cons h4
  obtain ⟨x6, r6, rfl, h6⟩ := len_cons h5
  obtain ⟨x7, r7, rfl, h7⟩ := len_cons h6
  obtain ⟨x8, r8, rfl, h8⟩ := len_cons h7
  obtain ⟨x9, r9, rfl, h9⟩ := len_cons h8
  obtain ⟨x10, r10, rfl, h10⟩ := len_cons h9
  obtain ⟨x11, r11, rfl, h11⟩ := len_cons h10
  obtain ⟨x12, r12, rfl, h12⟩ := len_cons h11
  obtain ⟨x13, r13, rfl, h13⟩ := len_cons h12
  obtain ⟨x14, r14, rfl, h14⟩ := len_cons h13
  obtain ⟨x15, r15, rfl, h15⟩ := len_cons h14
  obtain ⟨x16, r16, rfl, h16⟩ := len_cons h15
  obtain ⟨x17, r17, rfl, h17⟩ := len_cons h16
  obtain ⟨x18, r18, rfl, h18⟩ := len_cons h17
  obtain ⟨x19, r19, rfl, h19⟩ := len_cons h18
  obtain ⟨x20, r20, rfl, h20⟩ := len_cons h19
  obtain ⟨x21, r21, rfl, h21⟩ := len_cons h20
  obtain ⟨x22, r22, rfl, h22⟩ := len_cons h21
  obtain ⟨x23, r23, rfl, h23⟩ := len_cons h22
  obtain ⟨x24, r24, rfl, h24⟩ := len_cons h23
  obtain ⟨x25, r25, rfl, h25⟩ := len_cons h24
  obtain ⟨x26, r26, rfl, h26⟩ := len_cons h25
  obtain rfl := List.eq_nil_of_length_eq_zero h26
  exact ⟨_, _, _, _, _, _, _, _, _, _, _, _, _, _, _, _, _, _, _, _, _, _, _, _, _, _, _, rfl⟩
theorem len28 {vs : List Value} (h : vs.length = 28) : ∃ x0 x1 x2 x3 x4 x5 x6 x7 x8 x9 x10 x11 x12 x13 x14 x15 x16 x17 x18 x19 x20 x21 x22 x23 x24 x25 x26 x27, vs = [x0, x1, x2, x3, x4, x5, x6, x7, x8, x9, x10, x11, x12, x13, x14, x15, x16, x17, x18, x19, x20, x21, x22, x23, x24, x25, x26, x27] := by
  obtain ⟨x0, r0, rfl, h0⟩ := len_cons h
  obtain ⟨x1, r1, rfl, h1⟩ := len_cons h0
  obtain ⟨x2, r2, rfl, h2⟩ := len_cons h1
  obtain ⟨x3, r3, rfl, h3⟩ := len_cons h2
  obtain ⟨x4, r4, rfl, h4⟩ := len_cons h3
  obtain ⟨x5, r5, rfl, h5⟩ := len_cons h4
  obtain ⟨x6, r6, rfl, h6⟩ := len_cons h5
  obtain ⟨x7, r7, rfl, h7⟩ := len_cons h6
  obtain ⟨x8, r8, rfl, h8⟩ := len_cons h7
  obtain ⟨x9, r9, rfl, h9⟩ := len_cons h8
  obtain ⟨x10, r10, rfl, h10⟩ := len_cons h9
  obtain ⟨x11, r11, rfl, h11⟩ := len_cons h10
  obtain ⟨x12, r12, rfl, h12⟩ := len_cons h11
  obtain ⟨x13, r13, rfl, h13⟩ := len_cons h12
  obtain ⟨x14, r14, rfl, h14⟩ := len_cons h13
  obtain ⟨x15, r15, rfl, h15⟩ := len_cons h14
  obtain ⟨x16, r16, rfl, h16⟩ := len_cons h15
  obtain ⟨x17, r17, rfl, h17⟩ := len_cons h16
  obtain ⟨x18, r18, rfl, h18⟩ := len_cons h17
  obtain ⟨x19, r19, rfl, h19⟩ := len_cons h18
  obtain ⟨x20, r20, rfl, h20⟩ := len_cons h19
  obtain ⟨x21, r21, rfl, h21⟩ := len_cons h20
  obtain ⟨x22, r22, rfl, h22⟩ := len_cons h21
  obtain ⟨x23, r23, rfl, h23⟩ := len_cons h22
  obtain ⟨x24, r24, rfl, h24⟩ := len_cons h23
  obtain ⟨x25, r25, rfl, h25⟩ := len_cons h24
  obtain ⟨x26, r26, rfl, h26⟩ := len_cons h25
  obtain ⟨x27, r27, rfl, h27⟩ := len_cons h26
  obtain rfl := List.eq_nil_of_length_eq_zero h27
  exact ⟨_, _, _, _, _, _, _, _, _, _, _, _, _, _, _, _, _, _, _, _, _, _, _, _, _, _, _, _, rfl⟩
theorem len29 {vs : List Value} (h : vs.length = 29) : ∃ x0 x1 x2 x3 x4 x5 x6 x7 x8 x9 x10 x11 x12 x13 x14 x15 x16 x17 x18 x19 x20 x21 x22 x23 x24 x25 x26 x27 x28, vs = [x0, x1, x2, x3, x4, x5, x6, x7, x8, x9, x10, x11, x12, x13, x14, x15, x16, x17, x18, x19, x20, x21, x22, x23, x24, x25, x26, x27, x28] := by
  obtain ⟨x0, r0, rfl, h0⟩ := len_cons h
  obtain ⟨x1, r1, rfl, h1⟩ := len_cons h0
  obtain ⟨x2, r2, rfl, h2⟩ := len_cons h1
  obtain ⟨x3, r3, rfl, h3⟩ := len_cons h2
  obtain ⟨x4, r4, rfl, h4⟩ := len_cons h3
  obtain ⟨x5, r5, rfl, h5⟩ := len_cons h4
  obtain ⟨x6, r6, rfl, h6⟩ := len_cons h5
  obtain ⟨x7, r7, rfl, h7⟩ := len_cons h6
  obtain ⟨x8, r8, rfl, h8⟩ := len_cons h7
  obtain ⟨x9, r9, rfl, h9⟩ := len_cons h8
  obtain ⟨x10, r10, rfl, h10⟩ := len_cons h9
  obtain ⟨x11, r11, rfl, h11⟩ := len_cons h10
  obtain ⟨x12, r12, rfl, h12⟩ := len_cons h11
  obtain ⟨x13, r13, rfl, h13⟩ := len_cons h12
  obtain ⟨x14, r14, rfl, h14⟩ := len_cons h13
  obtain ⟨x15, r15, rfl, h15⟩ := len_cons h14
  obtain ⟨x16, r16, rfl, h16⟩ := len_cons h15
  obtain ⟨x17, r17, rfl, h17⟩ := len_cons h16
  obtain ⟨x18, r18, rfl, h18⟩ := len_cons h17
  obtain ⟨x19, r19, rfl, h19⟩ := len_cons h18
  obtain ⟨x20, r20, rfl, h20⟩ := len_cons h19
  obtain ⟨x21, r21, rfl, h21⟩ := len_cons h20
  obtain ⟨x22, r22, rfl, h22⟩ := len_cons h21
  obtain ⟨x23, r23, rfl, h23⟩ := len_cons h22
  obtain ⟨x24, r24, rfl, h24⟩ := len_cons h23
  obtain ⟨x25, r25, rfl, h25⟩ := len_cons h24
  obtain ⟨x26, r26, rfl, h26⟩ := len_cons h25
  obtain ⟨x27, r27, rfl, h27⟩ := len_cons h26
  obtain ⟨x28, r28, rfl, h28⟩ := len_cons h27
  obtain rfl := List.eq_nil_of_length_eq_zero h28
  exact ⟨_, _, _, _, _, _, _, _, _, _, _, _, _, _, _, _, _, _, _, _, _, _, _, _, _, _, _, _, _, rfl⟩
theorem len30 {vs : List Value} (h : vs.length = 30) : ∃ x0 x1 x2 x3 x4 x5 x6 x7 x8 x9 x10 x11 x12 x13 x14 x15 x16 x17 x18 x19 x20 x21 x22 x23 x24 x25 x26 x27 x28 x29, vs = [x0, x1, x2, x3, x4, x5, x6, x7, x8, x9, x10, x11, x12, x13, x14, x15, x16, x17, x18, x19, x20, x21, x22, x23, x24, x25, x26, x27, x28, x29] := by
  obtain ⟨x0, r0, rfl, h0⟩ := len_cons h
  obtain ⟨x1, r1, rfl, h1⟩ := len_cons h0
  obtain ⟨x2, r2, rfl, h2⟩ := len_cons h1
  obtain ⟨x3, r3, rfl, h3⟩ := len_cons h2
  obtain ⟨x4, r4, rfl, h4⟩ := len_cons h3
  obtain ⟨x5, r5, rfl, h5⟩ := len_cons h4
  obtain ⟨x6, r6, rfl, h6⟩ := len_cons h5
  obtain ⟨x7, r7, rfl, h7⟩ := len_cons h6
  obtain ⟨x8, r8, rfl, h8⟩ := len_cons h7
  obtain ⟨x9, r9, rfl, h9⟩ := len_cons h8
  obtain ⟨x10, r10, rfl, h10⟩ := len_cons h9
  obtain ⟨x11, r11, rfl, h11⟩ := len_cons h10
  obtain ⟨x12, r12, rfl, h12⟩ := len_cons h11
  obtain ⟨x13, r13, rfl, h13⟩ := len_cons h12
  obtain ⟨x14, r14, rfl, h14⟩ := len_cons h13
  obtain ⟨x15, r15, rfl, h15⟩ := len_cons h14
  obtain ⟨x16, r16, rfl, h16⟩ := len_cons h15
  obtain ⟨x17, r17, rfl, h17⟩ := len_cons h16
  obtain ⟨x18, r18, rfl, h18⟩ := len_cons h17
  obtain ⟨x19, r19, rfl, h19⟩ := len_cons h18
  obtain ⟨x20, r20, rfl, h20⟩ := len_cons h19
  obtain ⟨x21, r21, rfl, h21⟩ := len_cons h20
  obtain ⟨x22, r22, rfl, h22⟩ := len_cons h21
  obtain ⟨x23, r23, rfl, h23⟩ := len_cons h22
  obtain ⟨x24, r24, rfl, h24⟩ := len_cons h23
  obtain ⟨x25, r25, rfl, h25⟩ := len_cons h24
  obtain ⟨x26, r26, rfl, h26⟩ := len_cons h25
  obtain ⟨x27, r27, rfl, h27⟩ := len_cons h26
  obtain ⟨x28, r28, rfl, h28⟩ := len_cons h27
  obtain ⟨x29, r29, rfl, h29⟩ := len_cons h28
  obtain rfl := List.eq_nil_of_length_eq_zero h29
  exact ⟨_, _, _, _, _, _, _, _, _, _, _, _, _, _, _, _, _, _, _, _, _, _, _, _, _, _, _, _, _, _, rfl⟩
end Go.Proofs.Ytlemipnplgbckaa
namespace Go.Proofs.Ytlemipnplgbckaa
open Go.RowKit Go.Shelf
attribute [local go_sem] Oper.semAt_some
/-- what divides all, with d's sign -/
def gS (x y d : Int) : Int := if d < 0 then -((gcdL 0 [x, y, d] : Nat) : Int) else ((gcdL 0 [x, y, d] : Nat) : Int)
theorem gS_ne {x y d : Int} (hd : d ≠ 0) : gS x y d ≠ 0 ∧ (gcdL 0 [x, y, d] : Nat) ≠ 0 := by
  have h : gcdL 0 [x, y, d] ≠ 0 := by
    simp only [gcdL]
    intro h
    have := Nat.eq_zero_of_gcd_eq_zero_right h
    omega
  refine ⟨?_, h⟩
  unfold gS; split <;> omega
theorem tdiv_bd {B x g : Int} (h : Bd B x) (_h0 : 0 ≤ B) : Bd B (x.tdiv g) := h.tdiv
def rX (x y d : Int) : Int := x.tdiv (gS x y d)
def rY (x y d : Int) : Int := y.tdiv (gS x y d)
def rD (x y d : Int) : Int := d.tdiv (gS x y d)
def rndV (x y d : Int) (p : Pt) : Value := cirV (rX x y d) (rY x y d) (rD x y d) (apF (rX x y d) (rY x y d) (rD x y d) p)
theorem three_cells (W : World) (x y d : Int) : IntsAt (W.alloc (.cells #[.int .i64 x, .int .i64 y, .int .i64 d] 3)) W.heap.size 0 [x, y, d] := by
  refine ⟨.inr (by rw [size_al]; omega), fun i hi => ?_⟩
  rw [cell_al, if_pos rfl]
  rcases i with _ | _ | _ | i
  · rfl
  · rfl
  · rfl
  · simp at hi; omega
set_option maxRecDepth 100000 in
set_option maxHeartbeats 600000 in
theorem round_any (x y d p q : Int) (w : World) (h1 : Bd 1000000 x) (h2 : Bd 1000000 y) (h3 : Bd 1000000 d) (h0 : d ≠ 0) (h4 : Bd 20 p) (h5 : Bd 20 q) :
    Calls Try.prog 93 #[.int .i64 x, .int .i64 y, .int .i64 d, .agg #[.int .i64 p, .int .i64 q]] w fun e w' => e = .returned (rndV x y d (p, q)) ∧ Below w.heap.size w w' := by
  obtain ⟨hg0, hgn⟩ := gS_ne (x := x) (y := y) h0
  have hGD : gS x y d = if d < 0 then -((gcdL 0 [x, y, d] : Nat) : Int) else ((gcdL 0 [x, y, d] : Nat) : Int) := rfl
  have HX := Lib.hid (show Bd 1000000 (rX x y d) from h1.tdiv)
  have HY := Lib.hid (show Bd 1000000 (rY x y d) from h2.tdiv)
  have HD := Lib.hid (show Bd 1000000 (rD x y d) from h3.tdiv)
  have HGC := Lib.hid (fun (W : World) (N : Nat) (hN : W.heap.size = N) => show Calls Try.prog 74 #[.slice (some ⟨N, 0, none⟩) 3 3] (W.alloc (.cells #[.int .i64 x, .int .i64 y, .int .i64 d] 3)) fun e w' => e = .returned (.int .i64 (gcdL 0 [x, y, d] : Nat)) ∧ Below (W.alloc (.cells #[.int .i64 x, .int .i64 y, .int .i64 d] 3)).heap.size (W.alloc (.cells #[.int .i64 x, .int .i64 y, .int .i64 d] 3)) w' from hN ▸ gcd_any [x, y, d] W.heap.size 0 3 _ (three_cells W x y d) (by simp) (fun z hz => by
    simp only [List.mem_cons, List.not_mem_nil, or_false] at hz
    rcases hz with rfl | rfl | rfl
    · exact h1.mono (by omega)
    · exact h2.mono (by omega)
    · exact h3.mono (by omega)))
  have hGb : gcdL 0 [x, y, d] ≤ 1000000 := by
    simp only [gcdL]
    have := Nat.le_of_dvd (by omega) (Nat.gcd_dvd_right (Nat.gcd (Nat.gcd 0 x.natAbs) y.natAbs) d.natAbs)
    have h3' := Bd.abs.1 h3
    omega
  have HRX := Lib.hid (show x.tdiv (gS x y d) = rX x y d from rfl)
  have HRY := Lib.hid (show y.tdiv (gS x y d) = rY x y d from rfl)
  have HRD := Lib.hid (show d.tdiv (gS x y d) = rD x y d from rfl)
  have HRV := Lib.hid (show rndV x y d (p, q) = cirV (rX x y d) (rY x y d) (rD x y d) (apF (rX x y d) (rY x y d) (rD x y d) (p, q)) from rfl)
  generalize gcdL 0 [x, y, d] = g at *
  generalize rndV x y d (p, q) = V at *
  generalize rX x y d = X at *
  generalize rY x y d = Y at *
  generalize rD x y d = D at *
  generalize gS x y d = G at *
  have HQ := Lib.hid (And.intro h4 h5)
  have HGE := Lib.hid hGD
  have wx : IntKind.i64.wrap (x.tdiv G) = X := by rw [HRX.out]; exact i64_bd HX.out (by omega)
  have wy : IntKind.i64.wrap (y.tdiv G) = Y := by rw [HRY.out]; exact i64_bd HY.out (by omega)
  have wd : IntKind.i64.wrap (d.tdiv G) = D := by rw [HRD.out]; exact i64_bd HD.out (by omega)
  have HWX := Lib.hid (And.intro wx (And.intro wy wd))
  clear h1 h2 h3 h4 h5 hGD wx wy wd
  go_enter Try.func93, Try.ntmps93
  go_wp2_with fail
  refine (HGC.out _ _ (by simp)).mono ?_
  rintro e w1 ⟨rfl, hb1⟩
  have HB1 := Lib.hid hb1
  clear hb1 HGC
  have ba : Below w.heap.size w (((w.alloc (.cells #[.int .i64 p, .int .i64 q] 28)).alloc (.cells #[.int .i64 0, .int .i64 0, .int .i64 0, .int .i64 0] 30)).alloc (.cells #[.int .i64 x, .int .i64 y, .int .i64 d] 3)) := (((Below.refl w.heap.size w).alloc (Nat.le_refl _) _).alloc (by simp) _).alloc (by simp; omega) _
  have rP : Row (((w.alloc (.cells #[.int .i64 p, .int .i64 q] 28)).alloc (.cells #[.int .i64 0, .int .i64 0, .int .i64 0, .int .i64 0] 30)).alloc (.cells #[.int .i64 x, .int .i64 y, .int .i64 d] 3)) w.heap.size 28 [.int .i64 p, .int .i64 q] := ((Row.new w 28 [.int .i64 p, .int .i64 q]).below (Below.al (Below.refl _ _) (Nat.le_refl _) _) (by simp)).below (Below.al (Below.refl _ _) (Nat.le_refl _) _) (by simp; omega)
  have rR : Row (((w.alloc (.cells #[.int .i64 p, .int .i64 q] 28)).alloc (.cells #[.int .i64 0, .int .i64 0, .int .i64 0, .int .i64 0] 30)).alloc (.cells #[.int .i64 x, .int .i64 y, .int .i64 d] 3)) (w.heap.size + 1) 30 [.int .i64 0, .int .i64 0, .int .i64 0, .int .i64 0] := by
    have := (Row.new (w.alloc (.cells #[.int .i64 p, .int .i64 q] 28)) 30 [.int .i64 0, .int .i64 0, .int .i64 0, .int .i64 0]).below (Below.al (Below.refl _ _) (Nat.le_refl _) (.cells #[.int .i64 x, .int .i64 y, .int .i64 d] 3)) (by simp)
    simpa using this
  have RP := Lib.hid (rP.below HB1.out rP.lt)
  have RR := Lib.hid (rR.below HB1.out rR.lt)
  have BW := Lib.hid (Below.andThen ba HB1.out (Nat.le_refl _))
  have hsz : w.heap.size + 1 < w1.heap.size := by have := HB1.out.size; simp at this; omega
  clear ba rP rR HB1
  obtain ⟨W0, hW0⟩ : ∃ W0, w1 = W0 := ⟨_, rfl⟩
  by_cases hneg : d < 0
  · have d1 : decide (d < 0) = true := decide_eq_true hneg
    have hG : G = -(g : Int) := by have := HGE.out; rw [if_pos hneg] at this; exact this
    have n1 : IntKind.i64.wrap (-(g : Int)) = G := by rw [hG]; exact i64_of _ (by omega) (by omega)
    clear hG hW0
    go_wp2_with fail
    refine wp_region_box (by kernel_rfl) (by kernel_rfl) [20, 21, 22, 23, 24, 25, 26, 27, 28, 29, 10, 1000] [(fun v => v = .int .i64 x), (fun v => v = .int .i64 G), (fun v => v = .int .i64 X), (fun v => v = .int .i64 y), (fun v => v = .int .i64 G), (fun v => v = .int .i64 Y), (fun v => v = .int .i64 d), (fun v => v = .int .i64 G), (fun v => v = .int .i64 D), (fun v => v = .agg #[.int .i64 X, .int .i64 Y, .int .i64 D, .int .i64 0]), (fun _ => True), (fun _ => True)] [none, none, none, none, none, none, none, none, none, none, some (30, [.int .i64 0, .int .i64 0, .int .i64 0, .int .i64 0], [.int .i64 X, .int .i64 Y, .int .i64 D, .int .i64 0]), none] [none, none, none, none, none, none, none, none, none, none, none, some 10] 12 rfl (by kernel_rfl) ?tr ⟨[undef, undef, undef, undef, undef, undef, undef, undef, undef, undef, undef, undef], by simp only [putAll, Act.put, List.setIfInBounds_toArray, List.set_cons_succ, List.set_cons_zero, List.set_nil], rfl⟩ ?steps ?fin
    case tr =>
      rintro i v h
      rcases i with _ | _ | _ | _ | _ | _ | _ | _ | _ | _ | _ | _ | i
      all_goals first | trivial | (exfalso; rcases h with h | h <;> simp at h)
    case steps =>
      simp only [boxSteps, Nat.reduceAdd, Nat.zero_add, List.getD_cons_succ, List.getD_cons_zero]
      refine ⟨?_, ?_, ?_, ?_, ?_, ?_, ?_, ?_, ?_, ?_, ?_, ?_, trivial⟩
      · rintro vs W K hc hvl hw hK
        obtain ⟨x0, x1, x2, x3, x4, x5, x6, x7, x8, x9, x10, x11, rfl⟩ := len12 hvl
        have HK := Lib.hid hK
        have HC := Lib.hid hc
        have HW := Lib.hid hw
        clear hK hc hw hvl
        simp only [putAll, Act.put, List.setIfInBounds_toArray, List.set_cons_succ, List.set_cons_zero, List.set_nil]
        clear HW
        go_wp2_with fail
        have fin := HK.out (.int .i64 x) W (Below.refl _ _) rfl
        simp only [putAll, Act.put, List.setIfInBounds_toArray, List.set_cons_succ, List.set_cons_zero, List.set_nil] at fin
        exact fin
      · rintro vs W K hc hvl hw hK
        obtain ⟨x0, x1, x2, x3, x4, x5, x6, x7, x8, x9, x10, x11, rfl⟩ := len12 hvl
        have HK := Lib.hid hK
        have HC := Lib.hid hc
        have HW := Lib.hid hw
        clear hK hc hw hvl
        simp only [putAll, Act.put, List.setIfInBounds_toArray, List.set_cons_succ, List.set_cons_zero, List.set_nil]
        clear HW
        go_wp2_with fail
        have fin := HK.out (.int .i64 G) W (Below.refl _ _) rfl
        simp only [putAll, Act.put, List.setIfInBounds_toArray, List.set_cons_succ, List.set_cons_zero, List.set_nil] at fin
        exact fin
      · rintro vs W K hc hvl hw hK
        obtain ⟨x0, x1, x2, x3, x4, x5, x6, x7, x8, x9, x10, x11, rfl⟩ := len12 hvl
        have HK := Lib.hid hK
        have HC := Lib.hid hc
        have HW := Lib.hid hw
        clear hK hc hw hvl
        obtain rfl : x0 = .int .i64 x := box_get (HW.out ⟨0, .data⟩ (by simp) rfl) rfl
        obtain rfl : x1 = .int .i64 G := box_get (HW.out ⟨1, .data⟩ (by simp) rfl) rfl
        simp only [putAll, Act.put, List.setIfInBounds_toArray, List.set_cons_succ, List.set_cons_zero, List.set_nil]
        obtain ⟨k1, k2, k3⟩ := HWX.out
        clear HW
        go_wp2_with fail
        have fin := HK.out (.int .i64 X) W (Below.refl _ _) rfl
        simp only [putAll, Act.put, List.setIfInBounds_toArray, List.set_cons_succ, List.set_cons_zero, List.set_nil] at fin
        exact fin
      · rintro vs W K hc hvl hw hK
        obtain ⟨x0, x1, x2, x3, x4, x5, x6, x7, x8, x9, x10, x11, rfl⟩ := len12 hvl
        have HK := Lib.hid hK
        have HC := Lib.hid hc
        have HW := Lib.hid hw
        clear hK hc hw hvl
        simp only [putAll, Act.put, List.setIfInBounds_toArray, List.set_cons_succ, List.set_cons_zero, List.set_nil]
        clear HW
        go_wp2_with fail
        have fin := HK.out (.int .i64 y) W (Below.refl _ _) rfl
        simp only [putAll, Act.put, List.setIfInBounds_toArray, List.set_cons_succ, List.set_cons_zero, List.set_nil] at fin
        exact fin
      · rintro vs W K hc hvl hw hK
        obtain ⟨x0, x1, x2, x3, x4, x5, x6, x7, x8, x9, x10, x11, rfl⟩ := len12 hvl
        have HK := Lib.hid hK
        have HC := Lib.hid hc
        have HW := Lib.hid hw
        clear hK hc hw hvl
        simp only [putAll, Act.put, List.setIfInBounds_toArray, List.set_cons_succ, List.set_cons_zero, List.set_nil]
        clear HW
        go_wp2_with fail
        have fin := HK.out (.int .i64 G) W (Below.refl _ _) rfl
        simp only [putAll, Act.put, List.setIfInBounds_toArray, List.set_cons_succ, List.set_cons_zero, List.set_nil] at fin
        exact fin
      · rintro vs W K hc hvl hw hK
        obtain ⟨x0, x1, x2, x3, x4, x5, x6, x7, x8, x9, x10, x11, rfl⟩ := len12 hvl
        have HK := Lib.hid hK
        have HC := Lib.hid hc
        have HW := Lib.hid hw
        clear hK hc hw hvl
        obtain rfl : x3 = .int .i64 y := box_get (HW.out ⟨3, .data⟩ (by simp) rfl) rfl
        obtain rfl : x4 = .int .i64 G := box_get (HW.out ⟨4, .data⟩ (by simp) rfl) rfl
        simp only [putAll, Act.put, List.setIfInBounds_toArray, List.set_cons_succ, List.set_cons_zero, List.set_nil]
        obtain ⟨k1, k2, k3⟩ := HWX.out
        clear HW
        go_wp2_with fail
        have fin := HK.out (.int .i64 Y) W (Below.refl _ _) rfl
        simp only [putAll, Act.put, List.setIfInBounds_toArray, List.set_cons_succ, List.set_cons_zero, List.set_nil] at fin
        exact fin
      · rintro vs W K hc hvl hw hK
        obtain ⟨x0, x1, x2, x3, x4, x5, x6, x7, x8, x9, x10, x11, rfl⟩ := len12 hvl
        have HK := Lib.hid hK
        have HC := Lib.hid hc
        have HW := Lib.hid hw
        clear hK hc hw hvl
        simp only [putAll, Act.put, List.setIfInBounds_toArray, List.set_cons_succ, List.set_cons_zero, List.set_nil]
        clear HW
        go_wp2_with fail
        have fin := HK.out (.int .i64 d) W (Below.refl _ _) rfl
        simp only [putAll, Act.put, List.setIfInBounds_toArray, List.set_cons_succ, List.set_cons_zero, List.set_nil] at fin
        exact fin
      · rintro vs W K hc hvl hw hK
        obtain ⟨x0, x1, x2, x3, x4, x5, x6, x7, x8, x9, x10, x11, rfl⟩ := len12 hvl
        have HK := Lib.hid hK
        have HC := Lib.hid hc
        have HW := Lib.hid hw
        clear hK hc hw hvl
        simp only [putAll, Act.put, List.setIfInBounds_toArray, List.set_cons_succ, List.set_cons_zero, List.set_nil]
        clear HW
        go_wp2_with fail
        have fin := HK.out (.int .i64 G) W (Below.refl _ _) rfl
        simp only [putAll, Act.put, List.setIfInBounds_toArray, List.set_cons_succ, List.set_cons_zero, List.set_nil] at fin
        exact fin
      · rintro vs W K hc hvl hw hK
        obtain ⟨x0, x1, x2, x3, x4, x5, x6, x7, x8, x9, x10, x11, rfl⟩ := len12 hvl
        have HK := Lib.hid hK
        have HC := Lib.hid hc
        have HW := Lib.hid hw
        clear hK hc hw hvl
        obtain rfl : x6 = .int .i64 d := box_get (HW.out ⟨6, .data⟩ (by simp) rfl) rfl
        obtain rfl : x7 = .int .i64 G := box_get (HW.out ⟨7, .data⟩ (by simp) rfl) rfl
        simp only [putAll, Act.put, List.setIfInBounds_toArray, List.set_cons_succ, List.set_cons_zero, List.set_nil]
        obtain ⟨k1, k2, k3⟩ := HWX.out
        clear HW
        go_wp2_with fail
        have fin := HK.out (.int .i64 D) W (Below.refl _ _) rfl
        simp only [putAll, Act.put, List.setIfInBounds_toArray, List.set_cons_succ, List.set_cons_zero, List.set_nil] at fin
        exact fin
      · rintro vs W K hc hvl hw hK
        obtain ⟨x0, x1, x2, x3, x4, x5, x6, x7, x8, x9, x10, x11, rfl⟩ := len12 hvl
        have HK := Lib.hid hK
        have HC := Lib.hid hc
        have HW := Lib.hid hw
        clear hK hc hw hvl
        obtain rfl : x2 = .int .i64 X := box_get (HW.out ⟨2, .data⟩ (by simp) rfl) rfl
        obtain rfl : x5 = .int .i64 Y := box_get (HW.out ⟨5, .data⟩ (by simp) rfl) rfl
        obtain rfl : x8 = .int .i64 D := box_get (HW.out ⟨8, .data⟩ (by simp) rfl) rfl
        simp only [putAll, Act.put, List.setIfInBounds_toArray, List.set_cons_succ, List.set_cons_zero, List.set_nil]
        clear HW
        go_wp2_with fail
        have fin := HK.out (.agg #[.int .i64 X, .int .i64 Y, .int .i64 D, .int .i64 0]) W (Below.refl _ _) rfl
        simp only [putAll, Act.put, List.setIfInBounds_toArray, List.set_cons_succ, List.set_cons_zero, List.set_nil] at fin
        exact fin
      · rintro vs W K hc hvl hw hK
        obtain ⟨x0, x1, x2, x3, x4, x5, x6, x7, x8, x9, x10, x11, rfl⟩ := len12 hvl
        have HK := Lib.hid hK
        have HC := Lib.hid hc
        have HW := Lib.hid hw
        clear hK hc hw hvl
        simp only [putAll, Act.put, List.setIfInBounds_toArray, List.set_cons_succ, List.set_cons_zero, List.set_nil]
        clear HW
        go_wp2_with fail
        have fin := HK.out
        simp only [putAll, Act.put, List.setIfInBounds_toArray, List.set_cons_succ, List.set_cons_zero, List.set_nil] at fin
        exact fin
      · rintro vs W K hc hvl hw b E z f hia hva hb0 hr hK
        cases hia
        obtain ⟨x0, x1, x2, x3, x4, x5, x6, x7, x8, x9, x10, x11, rfl⟩ := len12 hvl
        have HK := Lib.hid hK
        have HC := Lib.hid hc
        have HW := Lib.hid hw
        clear hK hc hw hvl
        obtain rfl : x9 = .agg #[.int .i64 X, .int .i64 Y, .int .i64 D, .int .i64 0] := box_get (HW.out ⟨9, .data⟩ (by simp) rfl) rfl
        obtain rfl : x10 = .pointer (some ⟨b, 0, none⟩) := Option.some.inj hva
        simp only [putAll, Act.put, List.setIfInBounds_toArray, List.set_cons_succ, List.set_cons_zero, List.set_nil]
        have f0 := frozen_of_row W b 0 _ _ hr
        have c0 : W.cell? ⟨b, 0, none⟩ = some (.int .i64 0) := hr.cell 0
        have f1 := frozen_of_row W b 1 _ _ hr
        have c1 : W.cell? ⟨b, 1, none⟩ = some (.int .i64 0) := hr.cell 1
        have f2 := frozen_of_row W b 2 _ _ hr
        have c2 : W.cell? ⟨b, 2, none⟩ = some (.int .i64 0) := hr.cell 2
        have f3 := frozen_of_row W b 3 _ _ hr
        have c3 : W.cell? ⟨b, 3, none⟩ = some (.int .i64 0) := hr.cell 3
        have HRW := Lib.hid hr
        clear HW hr hva
        go_wp2_with fail
        have fin := HK.out _ (show Row _ b 30 [.int .i64 X, .int .i64 Y, .int .i64 D, .int .i64 0] from by simpa using (show Row _ b 30 _ from ((((HRW.out.set 0 (.int .i64 X)).set 1 (.int .i64 Y)).set 2 (.int .i64 D)).set 3 (.int .i64 0)))) (grown_put (grown_put (grown_put (grown_put (grown_self W _)))))
        simp only [putAll, Act.put, List.setIfInBounds_toArray, List.set_cons_succ, List.set_cons_zero, List.set_nil] at fin
        exact fin
    case fin =>
      rintro vs W hJ
      obtain ⟨x0, x1, x2, x3, x4, x5, x6, x7, x8, x9, x10, x11, rfl⟩ := len12 hJ.ln
      obtain ⟨b10, e10, hb10, hr10⟩ := hJ.box 10 _ _ _ rfl rfl
      obtain rfl : x10 = .pointer (some ⟨b10, 0, none⟩) := Option.some.inj e10
      replace hr10 : Row W b10 30 [.int .i64 X, .int .i64 Y, .int .i64 D, .int .i64 0] := hr10
      have HR10 := Lib.hid hr10
      clear e10 hr10
      have HC := Lib.hid hJ.bl
      clear hJ
      simp only [putAll, Act.put, List.setIfInBounds_toArray, List.set_cons_succ, List.set_cons_zero, List.set_nil]
      have RP2 := Lib.hid (RP.out.below HC.out (Nat.lt_trans (Nat.lt_succ_self _) hsz))
      have RR2 := Lib.hid (RR.out.below HC.out hsz)
      have HBC := Lib.hid (Below.andThen BW.out HC.out (Nat.le_refl _))
      have hAP := apart_any X Y D 0 p q W HX.out HY.out HD.out HQ.out.1 HQ.out.2
      have HAP := Lib.hid hAP
      have x0 := HR10.out.cell 0
      have x1 := HR10.out.cell 1
      have x2 := HR10.out.cell 2
      have x3 := HR10.out.cell 3
      have y0 := RP2.out.cell 0
      have y1 := RP2.out.cell 1
      simp only [List.getElem?_cons_zero, List.getElem?_cons_succ] at x0 x1 x2 x3 y0 y1
      have HB10 := Lib.hid (show w.heap.size + 1 < b10 from Nat.lt_of_lt_of_le hsz hb10)
      clear hAP hb10
      go_wp2_with fail
      refine HAP.out.mono ?_
      rintro e w2 ⟨rfl, hb2⟩
      clear x0 x1 x2 x3 y0 y1 HAP
      have HR3 := Lib.hid (HR10.out.below hb2 HR10.out.lt)
      have RR3 := Lib.hid (RR2.out.below hb2 RR2.out.lt)
      have HBD := Lib.hid (Below.andThen HBC.out hb2 (Nat.le_refl _))
      clear hb2 HR10 RR2 HBC
      generalize apF X Y D (p, q) = A at *
      have hne : b10 ≠ w.heap.size + 1 := fun e => by have := HB10.out; omega
      have f3 := frozen_of_row _ b10 3 _ _ HR3.out
      have x3 := HR3.out.cell 3
      have rS : Row (w2.setCell ⟨b10, 3, none⟩ (.int .i64 A)) b10 30 [.int .i64 X, .int .i64 Y, .int .i64 D, .int .i64 A] := by simpa using HR3.out.set 3 (.int .i64 A)
      have rT : Row (w2.setCell ⟨b10, 3, none⟩ (.int .i64 A)) (w.heap.size + 1) 30 [.int .i64 0, .int .i64 0, .int .i64 0, .int .i64 0] := RR3.out.other 3 _ (fun e => hne e.symm)
      have x0 := rS.cell 0
      have x1 := rS.cell 1
      have x2 := rS.cell 2
      have x4 := rS.cell 3
      have t0 := rT.cell 0
      have t1 := rT.cell 1
      have t2 := rT.cell 2
      have t3 := rT.cell 3
      have g0 := frozen_of_row _ (w.heap.size + 1) 0 _ _ rT
      have g1 := frozen_of_row _ (w.heap.size + 1) 1 _ _ rT
      have g2 := frozen_of_row _ (w.heap.size + 1) 2 _ _ rT
      have g3 := frozen_of_row _ (w.heap.size + 1) 3 _ _ rT
      simp only [List.getElem?_cons_zero, List.getElem?_cons_succ] at x0 x1 x2 x3 x4 t0 t1 t2 t3
      have RT := Lib.hid rT
      have BS := Lib.hid (show Below w.heap.size w (w2.setCell ⟨b10, 3, none⟩ (.int .i64 A)) from HBD.out.setCell (p := ⟨b10, 3, none⟩) (by have := HB10.out; dsimp only; omega) _)
      clear rS rT
      go_wp2_with fail
      have hr := (((RT.out.set 0 (.int .i64 X)).set 1 (.int .i64 Y)).set 2 (.int .i64 D)).set 3 (.int .i64 A)
      have v0 := hr.cell 0
      have v1 := hr.cell 1
      have v2 := hr.cell 2
      have v3 := hr.cell 3
      simp only [List.set_cons_zero, List.set_cons_succ, List.getElem?_cons_zero, List.getElem?_cons_succ] at v0 v1 v2 v3
      refine bodyPost_ret (v := cirV X Y D A) (by simp [results, Try.results93, go_sem, v0, v1, v2, v3, cirV]) rfl ⟨by rw [HRV.out], ?_⟩
      exact (((BS.out.setCell (p := ⟨w.heap.size + 1, 0, none⟩) (by dsimp only; omega) _).setCell (p := ⟨w.heap.size + 1, 1, none⟩) (by dsimp only; omega) _).setCell (p := ⟨w.heap.size + 1, 2, none⟩) (by dsimp only; omega) _).setCell (p := ⟨w.heap.size + 1, 3, none⟩) (by dsimp only; omega) _
  · have d1 : decide (d < 0) = false := decide_eq_false hneg
    have hG : G = (g : Int) := by have := HGE.out; rw [if_neg hneg] at this; exact this
    subst hG
    clear hW0
    go_wp2_with fail
    refine wp_region_box (by kernel_rfl) (by kernel_rfl) [20, 21, 22, 23, 24, 25, 26, 27, 28, 29, 10, 1000] [(fun v => v = .int .i64 x), (fun v => v = .int .i64 (g : Int)), (fun v => v = .int .i64 X), (fun v => v = .int .i64 y), (fun v => v = .int .i64 (g : Int)), (fun v => v = .int .i64 Y), (fun v => v = .int .i64 d), (fun v => v = .int .i64 (g : Int)), (fun v => v = .int .i64 D), (fun v => v = .agg #[.int .i64 X, .int .i64 Y, .int .i64 D, .int .i64 0]), (fun _ => True), (fun _ => True)] [none, none, none, none, none, none, none, none, none, none, some (30, [.int .i64 0, .int .i64 0, .int .i64 0, .int .i64 0], [.int .i64 X, .int .i64 Y, .int .i64 D, .int .i64 0]), none] [none, none, none, none, none, none, none, none, none, none, none, some 10] 12 rfl (by kernel_rfl) ?tr ⟨[undef, undef, undef, undef, undef, undef, undef, undef, undef, undef, undef, undef], by simp only [putAll, Act.put, List.setIfInBounds_toArray, List.set_cons_succ, List.set_cons_zero, List.set_nil], rfl⟩ ?steps ?fin
    case tr =>
      rintro i v h
      rcases i with _ | _ | _ | _ | _ | _ | _ | _ | _ | _ | _ | _ | i
      all_goals first | trivial | (exfalso; rcases h with h | h <;> simp at h)
    case steps =>
      simp only [boxSteps, Nat.reduceAdd, Nat.zero_add, List.getD_cons_succ, List.getD_cons_zero]
      refine ⟨?_, ?_, ?_, ?_, ?_, ?_, ?_, ?_, ?_, ?_, ?_, ?_, trivial⟩
      · rintro vs W K hc hvl hw hK
        obtain ⟨x0, x1, x2, x3, x4, x5, x6, x7, x8, x9, x10, x11, rfl⟩ := len12 hvl
        have HK := Lib.hid hK
        have HC := Lib.hid hc
        have HW := Lib.hid hw
        clear hK hc hw hvl
        simp only [putAll, Act.put, List.setIfInBounds_toArray, List.set_cons_succ, List.set_cons_zero, List.set_nil]
        clear HW
        go_wp2_with fail
        have fin := HK.out (.int .i64 x) W (Below.refl _ _) rfl
        simp only [putAll, Act.put, List.setIfInBounds_toArray, List.set_cons_succ, List.set_cons_zero, List.set_nil] at fin
        exact fin
      · rintro vs W K hc hvl hw hK
        obtain ⟨x0, x1, x2, x3, x4, x5, x6, x7, x8, x9, x10, x11, rfl⟩ := len12 hvl
        have HK := Lib.hid hK
        have HC := Lib.hid hc
        have HW := Lib.hid hw
        clear hK hc hw hvl
        simp only [putAll, Act.put, List.setIfInBounds_toArray, List.set_cons_succ, List.set_cons_zero, List.set_nil]
        clear HW
        go_wp2_with fail
        have fin := HK.out (.int .i64 (g : Int)) W (Below.refl _ _) rfl
        simp only [putAll, Act.put, List.setIfInBounds_toArray, List.set_cons_succ, List.set_cons_zero, List.set_nil] at fin
        exact fin
      · rintro vs W K hc hvl hw hK
        obtain ⟨x0, x1, x2, x3, x4, x5, x6, x7, x8, x9, x10, x11, rfl⟩ := len12 hvl
        have HK := Lib.hid hK
        have HC := Lib.hid hc
        have HW := Lib.hid hw
        clear hK hc hw hvl
        obtain rfl : x0 = .int .i64 x := box_get (HW.out ⟨0, .data⟩ (by simp) rfl) rfl
        obtain rfl : x1 = .int .i64 (g : Int) := box_get (HW.out ⟨1, .data⟩ (by simp) rfl) rfl
        simp only [putAll, Act.put, List.setIfInBounds_toArray, List.set_cons_succ, List.set_cons_zero, List.set_nil]
        obtain ⟨k1, k2, k3⟩ := HWX.out
        clear HW
        go_wp2_with fail
        have fin := HK.out (.int .i64 X) W (Below.refl _ _) rfl
        simp only [putAll, Act.put, List.setIfInBounds_toArray, List.set_cons_succ, List.set_cons_zero, List.set_nil] at fin
        exact fin
      · rintro vs W K hc hvl hw hK
        obtain ⟨x0, x1, x2, x3, x4, x5, x6, x7, x8, x9, x10, x11, rfl⟩ := len12 hvl
        have HK := Lib.hid hK
        have HC := Lib.hid hc
        have HW := Lib.hid hw
        clear hK hc hw hvl
        simp only [putAll, Act.put, List.setIfInBounds_toArray, List.set_cons_succ, List.set_cons_zero, List.set_nil]
        clear HW
        go_wp2_with fail
        have fin := HK.out (.int .i64 y) W (Below.refl _ _) rfl
        simp only [putAll, Act.put, List.setIfInBounds_toArray, List.set_cons_succ, List.set_cons_zero, List.set_nil] at fin
        exact fin
      · rintro vs W K hc hvl hw hK
        obtain ⟨x0, x1, x2, x3, x4, x5, x6, x7, x8, x9, x10, x11, rfl⟩ := len12 hvl
        have HK := Lib.hid hK
        have HC := Lib.hid hc
        have HW := Lib.hid hw
        clear hK hc hw hvl
        simp only [putAll, Act.put, List.setIfInBounds_toArray, List.set_cons_succ, List.set_cons_zero, List.set_nil]
        clear HW
        go_wp2_with fail
        have fin := HK.out (.int .i64 (g : Int)) W (Below.refl _ _) rfl
        simp only [putAll, Act.put, List.setIfInBounds_toArray, List.set_cons_succ, List.set_cons_zero, List.set_nil] at fin
        exact fin
      · rintro vs W K hc hvl hw hK
        obtain ⟨x0, x1, x2, x3, x4, x5, x6, x7, x8, x9, x10, x11, rfl⟩ := len12 hvl
        have HK := Lib.hid hK
        have HC := Lib.hid hc
        have HW := Lib.hid hw
        clear hK hc hw hvl
        obtain rfl : x3 = .int .i64 y := box_get (HW.out ⟨3, .data⟩ (by simp) rfl) rfl
        obtain rfl : x4 = .int .i64 (g : Int) := box_get (HW.out ⟨4, .data⟩ (by simp) rfl) rfl
        simp only [putAll, Act.put, List.setIfInBounds_toArray, List.set_cons_succ, List.set_cons_zero, List.set_nil]
        obtain ⟨k1, k2, k3⟩ := HWX.out
        clear HW
        go_wp2_with fail
        have fin := HK.out (.int .i64 Y) W (Below.refl _ _) rfl
        simp only [putAll, Act.put, List.setIfInBounds_toArray, List.set_cons_succ, List.set_cons_zero, List.set_nil] at fin
        exact fin
      · rintro vs W K hc hvl hw hK
        obtain ⟨x0, x1, x2, x3, x4, x5, x6, x7, x8, x9, x10, x11, rfl⟩ := len12 hvl
        have HK := Lib.hid hK
        have HC := Lib.hid hc
        have HW := Lib.hid hw
        clear hK hc hw hvl
        simp only [putAll, Act.put, List.setIfInBounds_toArray, List.set_cons_succ, List.set_cons_zero, List.set_nil]
        clear HW
        go_wp2_with fail
        have fin := HK.out (.int .i64 d) W (Below.refl _ _) rfl
        simp only [putAll, Act.put, List.setIfInBounds_toArray, List.set_cons_succ, List.set_cons_zero, List.set_nil] at fin
        exact fin
      · rintro vs W K hc hvl hw hK
        obtain ⟨x0, x1, x2, x3, x4, x5, x6, x7, x8, x9, x10, x11, rfl⟩ := len12 hvl
        have HK := Lib.hid hK
        have HC := Lib.hid hc
        have HW := Lib.hid hw
        clear hK hc hw hvl
        simp only [putAll, Act.put, List.setIfInBounds_toArray, List.set_cons_succ, List.set_cons_zero, List.set_nil]
        clear HW
        go_wp2_with fail
        have fin := HK.out (.int .i64 (g : Int)) W (Below.refl _ _) rfl
        simp only [putAll, Act.put, List.setIfInBounds_toArray, List.set_cons_succ, List.set_cons_zero, List.set_nil] at fin
        exact fin
      · rintro vs W K hc hvl hw hK
        obtain ⟨x0, x1, x2, x3, x4, x5, x6, x7, x8, x9, x10, x11, rfl⟩ := len12 hvl
        have HK := Lib.hid hK
        have HC := Lib.hid hc
        have HW := Lib.hid hw
        clear hK hc hw hvl
        obtain rfl : x6 = .int .i64 d := box_get (HW.out ⟨6, .data⟩ (by simp) rfl) rfl
        obtain rfl : x7 = .int .i64 (g : Int) := box_get (HW.out ⟨7, .data⟩ (by simp) rfl) rfl
        simp only [putAll, Act.put, List.setIfInBounds_toArray, List.set_cons_succ, List.set_cons_zero, List.set_nil]
        obtain ⟨k1, k2, k3⟩ := HWX.out
        clear HW
        go_wp2_with fail
        have fin := HK.out (.int .i64 D) W (Below.refl _ _) rfl
        simp only [putAll, Act.put, List.setIfInBounds_toArray, List.set_cons_succ, List.set_cons_zero, List.set_nil] at fin
        exact fin
      · rintro vs W K hc hvl hw hK
        obtain ⟨x0, x1, x2, x3, x4, x5, x6, x7, x8, x9, x10, x11, rfl⟩ := len12 hvl
        have HK := Lib.hid hK
        have HC := Lib.hid hc
        have HW := Lib.hid hw
        clear hK hc hw hvl
        obtain rfl : x2 = .int .i64 X := box_get (HW.out ⟨2, .data⟩ (by simp) rfl) rfl
        obtain rfl : x5 = .int .i64 Y := box_get (HW.out ⟨5, .data⟩ (by simp) rfl) rfl
        obtain rfl : x8 = .int .i64 D := box_get (HW.out ⟨8, .data⟩ (by simp) rfl) rfl
        simp only [putAll, Act.put, List.setIfInBounds_toArray, List.set_cons_succ, List.set_cons_zero, List.set_nil]
        clear HW
        go_wp2_with fail
        have fin := HK.out (.agg #[.int .i64 X, .int .i64 Y, .int .i64 D, .int .i64 0]) W (Below.refl _ _) rfl
        simp only [putAll, Act.put, List.setIfInBounds_toArray, List.set_cons_succ, List.set_cons_zero, List.set_nil] at fin
        exact fin
      · rintro vs W K hc hvl hw hK
        obtain ⟨x0, x1, x2, x3, x4, x5, x6, x7, x8, x9, x10, x11, rfl⟩ := len12 hvl
        have HK := Lib.hid hK
        have HC := Lib.hid hc
        have HW := Lib.hid hw
        clear hK hc hw hvl
        simp only [putAll, Act.put, List.setIfInBounds_toArray, List.set_cons_succ, List.set_cons_zero, List.set_nil]
        clear HW
        go_wp2_with fail
        have fin := HK.out
        simp only [putAll, Act.put, List.setIfInBounds_toArray, List.set_cons_succ, List.set_cons_zero, List.set_nil] at fin
        exact fin
      · rintro vs W K hc hvl hw b E z f hia hva hb0 hr hK
        cases hia
        obtain ⟨x0, x1, x2, x3, x4, x5, x6, x7, x8, x9, x10, x11, rfl⟩ := len12 hvl
        have HK := Lib.hid hK
        have HC := Lib.hid hc
        have HW := Lib.hid hw
        clear hK hc hw hvl
        obtain rfl : x9 = .agg #[.int .i64 X, .int .i64 Y, .int .i64 D, .int .i64 0] := box_get (HW.out ⟨9, .data⟩ (by simp) rfl) rfl
        obtain rfl : x10 = .pointer (some ⟨b, 0, none⟩) := Option.some.inj hva
        simp only [putAll, Act.put, List.setIfInBounds_toArray, List.set_cons_succ, List.set_cons_zero, List.set_nil]
        have f0 := frozen_of_row W b 0 _ _ hr
        have c0 : W.cell? ⟨b, 0, none⟩ = some (.int .i64 0) := hr.cell 0
        have f1 := frozen_of_row W b 1 _ _ hr
        have c1 : W.cell? ⟨b, 1, none⟩ = some (.int .i64 0) := hr.cell 1
        have f2 := frozen_of_row W b 2 _ _ hr
        have c2 : W.cell? ⟨b, 2, none⟩ = some (.int .i64 0) := hr.cell 2
        have f3 := frozen_of_row W b 3 _ _ hr
        have c3 : W.cell? ⟨b, 3, none⟩ = some (.int .i64 0) := hr.cell 3
        have HRW := Lib.hid hr
        clear HW hr hva
        go_wp2_with fail
        have fin := HK.out _ (show Row _ b 30 [.int .i64 X, .int .i64 Y, .int .i64 D, .int .i64 0] from by simpa using (show Row _ b 30 _ from ((((HRW.out.set 0 (.int .i64 X)).set 1 (.int .i64 Y)).set 2 (.int .i64 D)).set 3 (.int .i64 0)))) (grown_put (grown_put (grown_put (grown_put (grown_self W _)))))
        simp only [putAll, Act.put, List.setIfInBounds_toArray, List.set_cons_succ, List.set_cons_zero, List.set_nil] at fin
        exact fin
    case fin =>
      rintro vs W hJ
      obtain ⟨x0, x1, x2, x3, x4, x5, x6, x7, x8, x9, x10, x11, rfl⟩ := len12 hJ.ln
      obtain ⟨b10, e10, hb10, hr10⟩ := hJ.box 10 _ _ _ rfl rfl
      obtain rfl : x10 = .pointer (some ⟨b10, 0, none⟩) := Option.some.inj e10
      replace hr10 : Row W b10 30 [.int .i64 X, .int .i64 Y, .int .i64 D, .int .i64 0] := hr10
      have HR10 := Lib.hid hr10
      clear e10 hr10
      have HC := Lib.hid hJ.bl
      clear hJ
      simp only [putAll, Act.put, List.setIfInBounds_toArray, List.set_cons_succ, List.set_cons_zero, List.set_nil]
      have RP2 := Lib.hid (RP.out.below HC.out (Nat.lt_trans (Nat.lt_succ_self _) hsz))
      have RR2 := Lib.hid (RR.out.below HC.out hsz)
      have HBC := Lib.hid (Below.andThen BW.out HC.out (Nat.le_refl _))
      have hAP := apart_any X Y D 0 p q W HX.out HY.out HD.out HQ.out.1 HQ.out.2
      have HAP := Lib.hid hAP
      have x0 := HR10.out.cell 0
      have x1 := HR10.out.cell 1
      have x2 := HR10.out.cell 2
      have x3 := HR10.out.cell 3
      have y0 := RP2.out.cell 0
      have y1 := RP2.out.cell 1
      simp only [List.getElem?_cons_zero, List.getElem?_cons_succ] at x0 x1 x2 x3 y0 y1
      have HB10 := Lib.hid (show w.heap.size + 1 < b10 from Nat.lt_of_lt_of_le hsz hb10)
      clear hAP hb10
      go_wp2_with fail
      refine HAP.out.mono ?_
      rintro e w2 ⟨rfl, hb2⟩
      clear x0 x1 x2 x3 y0 y1 HAP
      have HR3 := Lib.hid (HR10.out.below hb2 HR10.out.lt)
      have RR3 := Lib.hid (RR2.out.below hb2 RR2.out.lt)
      have HBD := Lib.hid (Below.andThen HBC.out hb2 (Nat.le_refl _))
      clear hb2 HR10 RR2 HBC
      generalize apF X Y D (p, q) = A at *
      have hne : b10 ≠ w.heap.size + 1 := fun e => by have := HB10.out; omega
      have f3 := frozen_of_row _ b10 3 _ _ HR3.out
      have x3 := HR3.out.cell 3
      have rS : Row (w2.setCell ⟨b10, 3, none⟩ (.int .i64 A)) b10 30 [.int .i64 X, .int .i64 Y, .int .i64 D, .int .i64 A] := by simpa using HR3.out.set 3 (.int .i64 A)
      have rT : Row (w2.setCell ⟨b10, 3, none⟩ (.int .i64 A)) (w.heap.size + 1) 30 [.int .i64 0, .int .i64 0, .int .i64 0, .int .i64 0] := RR3.out.other 3 _ (fun e => hne e.symm)
      have x0 := rS.cell 0
      have x1 := rS.cell 1
      have x2 := rS.cell 2
      have x4 := rS.cell 3
      have t0 := rT.cell 0
      have t1 := rT.cell 1
      have t2 := rT.cell 2
      have t3 := rT.cell 3
      have g0 := frozen_of_row _ (w.heap.size + 1) 0 _ _ rT
      have g1 := frozen_of_row _ (w.heap.size + 1) 1 _ _ rT
      have g2 := frozen_of_row _ (w.heap.size + 1) 2 _ _ rT
      have g3 := frozen_of_row _ (w.heap.size + 1) 3 _ _ rT
      simp only [List.getElem?_cons_zero, List.getElem?_cons_succ] at x0 x1 x2 x3 x4 t0 t1 t2 t3
      have RT := Lib.hid rT
      have BS := Lib.hid (show Below w.heap.size w (w2.setCell ⟨b10, 3, none⟩ (.int .i64 A)) from HBD.out.setCell (p := ⟨b10, 3, none⟩) (by have := HB10.out; dsimp only; omega) _)
      clear rS rT
      go_wp2_with fail
      have hr := (((RT.out.set 0 (.int .i64 X)).set 1 (.int .i64 Y)).set 2 (.int .i64 D)).set 3 (.int .i64 A)
      have v0 := hr.cell 0
      have v1 := hr.cell 1
      have v2 := hr.cell 2
      have v3 := hr.cell 3
      simp only [List.set_cons_zero, List.set_cons_succ, List.getElem?_cons_zero, List.getElem?_cons_succ] at v0 v1 v2 v3
      refine bodyPost_ret (v := cirV X Y D A) (by simp [results, Try.results93, go_sem, v0, v1, v2, v3, cirV]) rfl ⟨by rw [HRV.out], ?_⟩
      exact (((BS.out.setCell (p := ⟨w.heap.size + 1, 0, none⟩) (by dsimp only; omega) _).setCell (p := ⟨w.heap.size + 1, 1, none⟩) (by dsimp only; omega) _).setCell (p := ⟨w.heap.size + 1, 2, none⟩) (by dsimp only; omega) _).setCell (p := ⟨w.heap.size + 1, 3, none⟩) (by dsimp only; omega) _
end Go.Proofs.Ytlemipnplgbckaa
namespace Go.Proofs.Ytlemipnplgbckaa
open Go.RowKit Go.Shelf
attribute [local go_sem] Oper.semAt_some
set_option maxRecDepth 100000 in
set_option maxHeartbeats 600000 in
theorem over_any (a1 a2 b1 b2 : Int) (w : World) (h1 : Bd 20 a1) (h2 : Bd 20 a2) (h3 : Bd 20 b1) (h4 : Bd 20 b2) :
    Calls Try.prog 76 #[.agg #[.int .i64 a1, .int .i64 a2], .agg #[.int .i64 b1, .int .i64 b2]] w fun e w' => e = .returned (rndV (a1 + b1) (a2 + b2) 2 (a1, a2)) ∧ Below w.heap.size w w' := by
  have e1 := i64_bd (h1.add h3) (by omega)
  have e2 := i64_bd (h2.add h4) (by omega)
  have HR := Lib.hid (fun (W : World) => round_any (a1 + b1) (a2 + b2) 2 a1 a2 W ((h1.add h3).mono (by omega)) ((h2.add h4).mono (by omega)) (by unfold Bd; omega) (by omega) h1 h2)
  obtain ⟨X, Y, D, R, hV⟩ : ∃ X Y D R, rndV (a1 + b1) (a2 + b2) 2 (a1, a2) = cirV X Y D R := ⟨_, _, _, _, rfl⟩
  rw [hV] at HR ⊢
  unfold cirV at HR
  clear hV h1 h2 h3 h4
  have ba : Below w.heap.size w (((w.alloc (.cells #[.int .i64 a1, .int .i64 a2] 28)).alloc (.cells #[.int .i64 b1, .int .i64 b2] 28)).alloc (.cells #[.int .i64 0, .int .i64 0, .int .i64 0, .int .i64 0] 30)) := (((Below.refl w.heap.size w).alloc (Nat.le_refl _) _).alloc (by simp) _).alloc (by simp <;> omega) _
  have rR : Row (((w.alloc (.cells #[.int .i64 a1, .int .i64 a2] 28)).alloc (.cells #[.int .i64 b1, .int .i64 b2] 28)).alloc (.cells #[.int .i64 0, .int .i64 0, .int .i64 0, .int .i64 0] 30)) (w.heap.size + 1 + 1) 30 [.int .i64 0, .int .i64 0, .int .i64 0, .int .i64 0] := by
    have := Row.new ((w.alloc (.cells #[.int .i64 a1, .int .i64 a2] 28)).alloc (.cells #[.int .i64 b1, .int .i64 b2] 28)) 30 [.int .i64 0, .int .i64 0, .int .i64 0, .int .i64 0]
    simpa using this
  have BA := Lib.hid ba
  have RR := Lib.hid rR
  clear ba rR
  go_enter Try.func76, Try.ntmps76
  go_wp2_with fail
  refine (HR.out _).mono ?_
  rintro e w1 ⟨rfl, hb⟩
  have BW := Lib.hid (Below.andThen BA.out hb (Nat.le_refl _))
  have rT := RR.out.below hb RR.out.lt
  have RT := Lib.hid rT
  have t0 := rT.cell 0
  have t1 := rT.cell 1
  have t2 := rT.cell 2
  have t3 := rT.cell 3
  have g0 := frozen_of_row _ (w.heap.size + 1 + 1) 0 _ _ rT
  have g1 := frozen_of_row _ (w.heap.size + 1 + 1) 1 _ _ rT
  have g2 := frozen_of_row _ (w.heap.size + 1 + 1) 2 _ _ rT
  have g3 := frozen_of_row _ (w.heap.size + 1 + 1) 3 _ _ rT
  simp only [List.getElem?_cons_zero, List.getElem?_cons_succ] at t0 t1 t2 t3
  clear hb rT HR
  go_wp2_with fail
  have hr := (((RT.out.set 0 (.int .i64 X)).set 1 (.int .i64 Y)).set 2 (.int .i64 D)).set 3 (.int .i64 R)
  have v0 := hr.cell 0
  have v1 := hr.cell 1
  have v2 := hr.cell 2
  have v3 := hr.cell 3
  simp only [List.set_cons_zero, List.set_cons_succ, List.getElem?_cons_zero, List.getElem?_cons_succ] at v0 v1 v2 v3
  refine bodyPost_ret (v := cirV X Y D R) (by simp [results, Try.results76, go_sem, v0, v1, v2, v3, cirV]) rfl ⟨rfl, ?_⟩
  exact (((BW.out.setCell (p := ⟨w.heap.size + 1 + 1, 0, none⟩) (by dsimp only; omega) _).setCell (p := ⟨w.heap.size + 1 + 1, 1, none⟩) (by dsimp only; omega) _).setCell (p := ⟨w.heap.size + 1 + 1, 2, none⟩) (by dsimp only; omega) _).setCell (p := ⟨w.heap.size + 1 + 1, 3, none⟩) (by dsimp only; omega) _
/-- twice the cross product, and the middle's way from a, that many times as long -/
def thD (a b c : Pt) : Int := 2 * crs (b.1 - a.1, b.2 - a.2) (c.1 - a.1, c.2 - a.2)
def thX (a b c : Pt) : Int := (c.2 - a.2) * ((b.1 - a.1) * (b.1 - a.1) + (b.2 - a.2) * (b.2 - a.2)) - (b.2 - a.2) * ((c.1 - a.1) * (c.1 - a.1) + (c.2 - a.2) * (c.2 - a.2))
def thY (a b c : Pt) : Int := (b.1 - a.1) * ((c.1 - a.1) * (c.1 - a.1) + (c.2 - a.2) * (c.2 - a.2)) - (c.1 - a.1) * ((b.1 - a.1) * (b.1 - a.1) + (b.2 - a.2) * (b.2 - a.2))
/-- the circle through three points, and whether there is one -/
def thrV (a b c : Pt) : Value := if thD a b c = 0 then cirV 0 0 0 0 else rndV (thD a b c * a.1 + thX a b c) (thD a b c * a.2 + thY a b c) (thD a b c) a
set_option maxRecDepth 100000 in
set_option maxHeartbeats 1000000 in
theorem through_any (a1 a2 b1 b2 c1 c2 : Int) (w : World) (h1 : Bd 20 a1) (h2 : Bd 20 a2) (h3 : Bd 20 b1) (h4 : Bd 20 b2) (h5 : Bd 20 c1) (h6 : Bd 20 c2) :
    Calls Try.prog 61 #[.agg #[.int .i64 a1, .int .i64 a2], .agg #[.int .i64 b1, .int .i64 b2], .agg #[.int .i64 c1, .int .i64 c2]] w fun e w' => e = .returned (.tuple #[thrV (a1, a2) (b1, b2) (c1, c2), .bool (!decide (thD (a1, a2) (b1, b2) (c1, c2) = 0))]) ∧ Below w.heap.size w w' := by
  have p1 := h3.sub h1
  have p2 := h4.sub h2
  have q1 := h5.sub h1
  have q2 := h6.sub h2
  have HP := Lib.hid (And.intro p1 (And.intro p2 (And.intro q1 q2)))
  have HA := Lib.hid (And.intro h1 h2)
  have HM1 := Lib.hid (fun (W : World) => minus_any b1 b2 a1 a2 W (h3.mono (by omega)) (h4.mono (by omega)) (h1.mono (by omega)) (h2.mono (by omega)))
  have HM2 := Lib.hid (fun (W : World) => minus_any c1 c2 a1 a2 W (h5.mono (by omega)) (h6.mono (by omega)) (h1.mono (by omega)) (h2.mono (by omega)))
  have HDD := Lib.hid (show thD (a1, a2) (b1, b2) (c1, c2) = 2 * crs (b1 - a1, b2 - a2) (c1 - a1, c2 - a2) from rfl)
  have HXX := Lib.hid (show thX (a1, a2) (b1, b2) (c1, c2) = (c2 - a2) * ((b1 - a1) * (b1 - a1) + (b2 - a2) * (b2 - a2)) - (b2 - a2) * ((c1 - a1) * (c1 - a1) + (c2 - a2) * (c2 - a2)) from rfl)
  have HYY := Lib.hid (show thY (a1, a2) (b1, b2) (c1, c2) = (b1 - a1) * ((c1 - a1) * (c1 - a1) + (c2 - a2) * (c2 - a2)) - (c1 - a1) * ((b1 - a1) * (b1 - a1) + (b2 - a2) * (b2 - a2)) from rfl)
  have HTV := Lib.hid (show thrV (a1, a2) (b1, b2) (c1, c2) = if thD (a1, a2) (b1, b2) (c1, c2) = 0 then cirV 0 0 0 0 else rndV (thD (a1, a2) (b1, b2) (c1, c2) * a1 + thX (a1, a2) (b1, b2) (c1, c2)) (thD (a1, a2) (b1, b2) (c1, c2) * a2 + thY (a1, a2) (b1, b2) (c1, c2)) (thD (a1, a2) (b1, b2) (c1, c2)) (a1, a2) from rfl)
  generalize thD (a1, a2) (b1, b2) (c1, c2) = D at *
  generalize thX (a1, a2) (b1, b2) (c1, c2) = TX at *
  generalize thY (a1, a2) (b1, b2) (c1, c2) = TY at *
  generalize thrV (a1, a2) (b1, b2) (c1, c2) = TV at *
  have rA : Row ((((w.alloc (.cells #[.int .i64 a1, .int .i64 a2] 28)).alloc (.cells #[.int .i64 b1, .int .i64 b2] 28)).alloc (.cells #[.int .i64 c1, .int .i64 c2] 28)).alloc (.cells #[.int .i64 0, .int .i64 0, .int .i64 0, .int .i64 0] 30)) w.heap.size 28 [.int .i64 a1, .int .i64 a2] := (((Row.new w 28 [.int .i64 a1, .int .i64 a2]).below (Below.al (Below.refl _ _) (Nat.le_refl _) _) (by simp)).below (Below.al (Below.refl _ _) (Nat.le_refl _) _) (by simp <;> omega)).below (Below.al (Below.refl _ _) (Nat.le_refl _) _) (by simp <;> omega)
  have rB : Row ((((w.alloc (.cells #[.int .i64 a1, .int .i64 a2] 28)).alloc (.cells #[.int .i64 b1, .int .i64 b2] 28)).alloc (.cells #[.int .i64 c1, .int .i64 c2] 28)).alloc (.cells #[.int .i64 0, .int .i64 0, .int .i64 0, .int .i64 0] 30)) (w.heap.size + 1) 28 [.int .i64 b1, .int .i64 b2] := by
    have := ((Row.new (w.alloc (.cells #[.int .i64 a1, .int .i64 a2] 28)) 28 [.int .i64 b1, .int .i64 b2]).below (Below.al (Below.refl _ _) (Nat.le_refl _) (.cells #[.int .i64 c1, .int .i64 c2] 28)) (by simp)).below (Below.al (Below.refl _ _) (Nat.le_refl _) (.cells #[.int .i64 0, .int .i64 0, .int .i64 0, .int .i64 0] 30)) (by simp <;> omega)
    simpa using this
  have rC : Row ((((w.alloc (.cells #[.int .i64 a1, .int .i64 a2] 28)).alloc (.cells #[.int .i64 b1, .int .i64 b2] 28)).alloc (.cells #[.int .i64 c1, .int .i64 c2] 28)).alloc (.cells #[.int .i64 0, .int .i64 0, .int .i64 0, .int .i64 0] 30)) (w.heap.size + 1 + 1) 28 [.int .i64 c1, .int .i64 c2] := by
    have := (Row.new ((w.alloc (.cells #[.int .i64 a1, .int .i64 a2] 28)).alloc (.cells #[.int .i64 b1, .int .i64 b2] 28)) 28 [.int .i64 c1, .int .i64 c2]).below (Below.al (Below.refl _ _) (Nat.le_refl _) (.cells #[.int .i64 0, .int .i64 0, .int .i64 0, .int .i64 0] 30)) (by simp)
    simpa using this
  have rR : Row ((((w.alloc (.cells #[.int .i64 a1, .int .i64 a2] 28)).alloc (.cells #[.int .i64 b1, .int .i64 b2] 28)).alloc (.cells #[.int .i64 c1, .int .i64 c2] 28)).alloc (.cells #[.int .i64 0, .int .i64 0, .int .i64 0, .int .i64 0] 30)) (w.heap.size + 1 + 1 + 1) 30 [.int .i64 0, .int .i64 0, .int .i64 0, .int .i64 0] := by
    have := Row.new (((w.alloc (.cells #[.int .i64 a1, .int .i64 a2] 28)).alloc (.cells #[.int .i64 b1, .int .i64 b2] 28)).alloc (.cells #[.int .i64 c1, .int .i64 c2] 28)) 30 [.int .i64 0, .int .i64 0, .int .i64 0, .int .i64 0]
    simpa using this
  have ba : Below w.heap.size w ((((w.alloc (.cells #[.int .i64 a1, .int .i64 a2] 28)).alloc (.cells #[.int .i64 b1, .int .i64 b2] 28)).alloc (.cells #[.int .i64 c1, .int .i64 c2] 28)).alloc (.cells #[.int .i64 0, .int .i64 0, .int .i64 0, .int .i64 0] 30)) := ((((Below.refl w.heap.size w).alloc (Nat.le_refl _) _).alloc (by simp) _).alloc (by simp <;> omega) _).alloc (by simp <;> omega) _
  have hsz : w.heap.size + 1 + 1 + 1 < ((((w.alloc (.cells #[.int .i64 a1, .int .i64 a2] 28)).alloc (.cells #[.int .i64 b1, .int .i64 b2] 28)).alloc (.cells #[.int .i64 c1, .int .i64 c2] 28)).alloc (.cells #[.int .i64 0, .int .i64 0, .int .i64 0, .int .i64 0] 30)).heap.size := rR.lt
  obtain ⟨V, hV⟩ : ∃ V, V = (((w.alloc (.cells #[.int .i64 a1, .int .i64 a2] 28)).alloc (.cells #[.int .i64 b1, .int .i64 b2] 28)).alloc (.cells #[.int .i64 c1, .int .i64 c2] 28)).alloc (.cells #[.int .i64 0, .int .i64 0, .int .i64 0, .int .i64 0] 30) := ⟨_, rfl⟩
  rw [← hV] at rA rB rC rR ba hsz
  have RA := Lib.hid rA
  have RB := Lib.hid rB
  have RC := Lib.hid rC
  have RR := Lib.hid rR
  have BA := Lib.hid ba
  have HV := Lib.hid hV
  have HSZ := Lib.hid hsz
  clear h1 h2 h3 h4 h5 h6 p1 p2 q1 q2 rA rB rC rR ba hV hsz
  go_enter Try.func61, Try.ntmps61
  go_wp2_with fail
  rw [← HV.out]
  clear HV
  refine wp_region_box (by kernel_rfl) (by kernel_rfl) [15, 16, 17, 18, 19, 20, 8, 9, 1000, 1001] [(fun v => v = .agg #[.int .i64 b1, .int .i64 b2]), (fun v => v = .agg #[.int .i64 a1, .int .i64 a2]), (fun v => v = .agg #[.int .i64 (b1 - a1), .int .i64 (b2 - a2)]), (fun v => v = .agg #[.int .i64 c1, .int .i64 c2]), (fun v => v = .agg #[.int .i64 a1, .int .i64 a2]), (fun v => v = .agg #[.int .i64 (c1 - a1), .int .i64 (c2 - a2)]), (fun _ => True), (fun _ => True), (fun _ => True), (fun _ => True)] [none, none, none, none, none, none, some (28, [.int .i64 0, .int .i64 0], [.int .i64 (b1 - a1), .int .i64 (b2 - a2)]), some (28, [.int .i64 0, .int .i64 0], [.int .i64 (c1 - a1), .int .i64 (c2 - a2)]), none, none] [none, none, none, none, none, none, none, none, some 6, some 7] 10 rfl (by kernel_rfl) ?tr ⟨[undef, undef, undef, undef, undef, undef, undef, undef, undef, undef], by simp only [putAll, Act.put, List.setIfInBounds_toArray, List.set_cons_succ, List.set_cons_zero, List.set_nil], rfl⟩ ?steps ?fin
  case tr =>
    rintro i v h
    rcases i with _ | _ | _ | _ | _ | _ | _ | _ | _ | _ | i
    all_goals first | trivial | (exfalso; rcases h with h | h <;> simp at h)
  case steps =>
    simp only [boxSteps, Nat.reduceAdd, Nat.zero_add, List.getD_cons_succ, List.getD_cons_zero]
    refine ⟨?_, ?_, ?_, ?_, ?_, ?_, ?_, ?_, ?_, ?_, trivial⟩
    · rintro vs W K hc hvl hw hK
      obtain ⟨x0, x1, x2, x3, x4, x5, x6, x7, x8, x9, rfl⟩ := len10 hvl
      have HK := Lib.hid hK
      have HC := Lib.hid hc
      have HW := Lib.hid hw
      clear hK hc hw hvl
      simp only [putAll, Act.put, List.setIfInBounds_toArray, List.set_cons_succ, List.set_cons_zero, List.set_nil]
      have rr := RB.out.below HC.out RB.out.lt
      have k0 := rr.cell 0
      have k1 := rr.cell 1
      simp only [List.getElem?_cons_zero, List.getElem?_cons_succ] at k0 k1
      clear rr
      clear HW
      go_wp2_with fail
      have fin := HK.out (.agg #[.int .i64 b1, .int .i64 b2]) W (Below.refl _ _) rfl
      simp only [putAll, Act.put, List.setIfInBounds_toArray, List.set_cons_succ, List.set_cons_zero, List.set_nil] at fin
      exact fin
    · rintro vs W K hc hvl hw hK
      obtain ⟨x0, x1, x2, x3, x4, x5, x6, x7, x8, x9, rfl⟩ := len10 hvl
      have HK := Lib.hid hK
      have HC := Lib.hid hc
      have HW := Lib.hid hw
      clear hK hc hw hvl
      simp only [putAll, Act.put, List.setIfInBounds_toArray, List.set_cons_succ, List.set_cons_zero, List.set_nil]
      have rr := RA.out.below HC.out RA.out.lt
      have k0 := rr.cell 0
      have k1 := rr.cell 1
      simp only [List.getElem?_cons_zero, List.getElem?_cons_succ] at k0 k1
      clear rr
      clear HW
      go_wp2_with fail
      have fin := HK.out (.agg #[.int .i64 a1, .int .i64 a2]) W (Below.refl _ _) rfl
      simp only [putAll, Act.put, List.setIfInBounds_toArray, List.set_cons_succ, List.set_cons_zero, List.set_nil] at fin
      exact fin
    · rintro vs W K hc hvl hw hK
      obtain ⟨x0, x1, x2, x3, x4, x5, x6, x7, x8, x9, rfl⟩ := len10 hvl
      have HK := Lib.hid hK
      have HC := Lib.hid hc
      have HW := Lib.hid hw
      clear hK hc hw hvl
      obtain rfl : x0 = .agg #[.int .i64 b1, .int .i64 b2] := box_get (HW.out ⟨0, .data⟩ (by simp) rfl) rfl
      obtain rfl : x1 = .agg #[.int .i64 a1, .int .i64 a2] := box_get (HW.out ⟨1, .data⟩ (by simp) rfl) rfl
      simp only [putAll, Act.put, List.setIfInBounds_toArray, List.set_cons_succ, List.set_cons_zero, List.set_nil]
      clear HW
      go_wp2_with fail
      refine (HM1.out W).mono ?_
      rintro e W' ⟨rfl, hb'⟩
      have HB' := Lib.hid hb'
      clear hb'
      go_wp2_with fail
      have fin := HK.out (.agg #[.int .i64 (b1 - a1), .int .i64 (b2 - a2)]) W' HB'.out rfl
      simp only [putAll, Act.put, List.setIfInBounds_toArray, List.set_cons_succ, List.set_cons_zero, List.set_nil] at fin
      exact fin
    · rintro vs W K hc hvl hw hK
      obtain ⟨x0, x1, x2, x3, x4, x5, x6, x7, x8, x9, rfl⟩ := len10 hvl
      have HK := Lib.hid hK
      have HC := Lib.hid hc
      have HW := Lib.hid hw
      clear hK hc hw hvl
      simp only [putAll, Act.put, List.setIfInBounds_toArray, List.set_cons_succ, List.set_cons_zero, List.set_nil]
      have rr := RC.out.below HC.out RC.out.lt
      have k0 := rr.cell 0
      have k1 := rr.cell 1
      simp only [List.getElem?_cons_zero, List.getElem?_cons_succ] at k0 k1
      clear rr
      clear HW
      go_wp2_with fail
      have fin := HK.out (.agg #[.int .i64 c1, .int .i64 c2]) W (Below.refl _ _) rfl
      simp only [putAll, Act.put, List.setIfInBounds_toArray, List.set_cons_succ, List.set_cons_zero, List.set_nil] at fin
      exact fin
    · rintro vs W K hc hvl hw hK
      obtain ⟨x0, x1, x2, x3, x4, x5, x6, x7, x8, x9, rfl⟩ := len10 hvl
      have HK := Lib.hid hK
      have HC := Lib.hid hc
      have HW := Lib.hid hw
      clear hK hc hw hvl
      simp only [putAll, Act.put, List.setIfInBounds_toArray, List.set_cons_succ, List.set_cons_zero, List.set_nil]
      have rr := RA.out.below HC.out RA.out.lt
      have k0 := rr.cell 0
      have k1 := rr.cell 1
      simp only [List.getElem?_cons_zero, List.getElem?_cons_succ] at k0 k1
      clear rr
      clear HW
      go_wp2_with fail
      have fin := HK.out (.agg #[.int .i64 a1, .int .i64 a2]) W (Below.refl _ _) rfl
      simp only [putAll, Act.put, List.setIfInBounds_toArray, List.set_cons_succ, List.set_cons_zero, List.set_nil] at fin
      exact fin
    · rintro vs W K hc hvl hw hK
      obtain ⟨x0, x1, x2, x3, x4, x5, x6, x7, x8, x9, rfl⟩ := len10 hvl
      have HK := Lib.hid hK
      have HC := Lib.hid hc
      have HW := Lib.hid hw
      clear hK hc hw hvl
      obtain rfl : x3 = .agg #[.int .i64 c1, .int .i64 c2] := box_get (HW.out ⟨3, .data⟩ (by simp) rfl) rfl
      obtain rfl : x4 = .agg #[.int .i64 a1, .int .i64 a2] := box_get (HW.out ⟨4, .data⟩ (by simp) rfl) rfl
      simp only [putAll, Act.put, List.setIfInBounds_toArray, List.set_cons_succ, List.set_cons_zero, List.set_nil]
      clear HW
      go_wp2_with fail
      refine (HM2.out W).mono ?_
      rintro e W' ⟨rfl, hb'⟩
      have HB' := Lib.hid hb'
      clear hb'
      go_wp2_with fail
      have fin := HK.out (.agg #[.int .i64 (c1 - a1), .int .i64 (c2 - a2)]) W' HB'.out rfl
      simp only [putAll, Act.put, List.setIfInBounds_toArray, List.set_cons_succ, List.set_cons_zero, List.set_nil] at fin
      exact fin
    · rintro vs W K hc hvl hw hK
      obtain ⟨x0, x1, x2, x3, x4, x5, x6, x7, x8, x9, rfl⟩ := len10 hvl
      have HK := Lib.hid hK
      have HC := Lib.hid hc
      have HW := Lib.hid hw
      clear hK hc hw hvl
      simp only [putAll, Act.put, List.setIfInBounds_toArray, List.set_cons_succ, List.set_cons_zero, List.set_nil]
      clear HW
      go_wp2_with fail
      have fin := HK.out
      simp only [putAll, Act.put, List.setIfInBounds_toArray, List.set_cons_succ, List.set_cons_zero, List.set_nil] at fin
      exact fin
    · rintro vs W K hc hvl hw hK
      obtain ⟨x0, x1, x2, x3, x4, x5, x6, x7, x8, x9, rfl⟩ := len10 hvl
      have HK := Lib.hid hK
      have HC := Lib.hid hc
      have HW := Lib.hid hw
      clear hK hc hw hvl
      simp only [putAll, Act.put, List.setIfInBounds_toArray, List.set_cons_succ, List.set_cons_zero, List.set_nil]
      clear HW
      go_wp2_with fail
      have fin := HK.out
      simp only [putAll, Act.put, List.setIfInBounds_toArray, List.set_cons_succ, List.set_cons_zero, List.set_nil] at fin
      exact fin
    · rintro vs W K hc hvl hw b E z f hia hva hb0 hr hK
      cases hia
      obtain ⟨x0, x1, x2, x3, x4, x5, x6, x7, x8, x9, rfl⟩ := len10 hvl
      have HK := Lib.hid hK
      have HC := Lib.hid hc
      have HW := Lib.hid hw
      clear hK hc hw hvl
      obtain rfl : x2 = .agg #[.int .i64 (b1 - a1), .int .i64 (b2 - a2)] := box_get (HW.out ⟨2, .data⟩ (by simp) rfl) rfl
      obtain rfl : x6 = .pointer (some ⟨b, 0, none⟩) := Option.some.inj hva
      simp only [putAll, Act.put, List.setIfInBounds_toArray, List.set_cons_succ, List.set_cons_zero, List.set_nil]
      have kf0 := frozen_of_row W b 0 _ _ hr
      have kc0 : W.cell? ⟨b, 0, none⟩ = some (.int .i64 0) := hr.cell 0
      have kf1 := frozen_of_row W b 1 _ _ hr
      have kc1 : W.cell? ⟨b, 1, none⟩ = some (.int .i64 0) := hr.cell 1
      have HRW := Lib.hid hr
      clear HW hr hva
      go_wp2_with fail
      have fin := HK.out _ (show Row _ b 28 [.int .i64 (b1 - a1), .int .i64 (b2 - a2)] from by simpa using (show Row _ b 28 _ from ((HRW.out.set 0 (.int .i64 (b1 - a1))).set 1 (.int .i64 (b2 - a2))))) (grown_put (grown_put (grown_self W _)))
      simp only [putAll, Act.put, List.setIfInBounds_toArray, List.set_cons_succ, List.set_cons_zero, List.set_nil] at fin
      exact fin
    · rintro vs W K hc hvl hw b E z f hia hva hb0 hr hK
      cases hia
      obtain ⟨x0, x1, x2, x3, x4, x5, x6, x7, x8, x9, rfl⟩ := len10 hvl
      have HK := Lib.hid hK
      have HC := Lib.hid hc
      have HW := Lib.hid hw
      clear hK hc hw hvl
      obtain rfl : x5 = .agg #[.int .i64 (c1 - a1), .int .i64 (c2 - a2)] := box_get (HW.out ⟨5, .data⟩ (by simp) rfl) rfl
      obtain rfl : x7 = .pointer (some ⟨b, 0, none⟩) := Option.some.inj hva
      simp only [putAll, Act.put, List.setIfInBounds_toArray, List.set_cons_succ, List.set_cons_zero, List.set_nil]
      have kf0 := frozen_of_row W b 0 _ _ hr
      have kc0 : W.cell? ⟨b, 0, none⟩ = some (.int .i64 0) := hr.cell 0
      have kf1 := frozen_of_row W b 1 _ _ hr
      have kc1 : W.cell? ⟨b, 1, none⟩ = some (.int .i64 0) := hr.cell 1
      have HRW := Lib.hid hr
      clear HW hr hva
      go_wp2_with fail
      have fin := HK.out _ (show Row _ b 28 [.int .i64 (c1 - a1), .int .i64 (c2 - a2)] from by simpa using (show Row _ b 28 _ from ((HRW.out.set 0 (.int .i64 (c1 - a1))).set 1 (.int .i64 (c2 - a2))))) (grown_put (grown_put (grown_self W _)))
      simp only [putAll, Act.put, List.setIfInBounds_toArray, List.set_cons_succ, List.set_cons_zero, List.set_nil] at fin
      exact fin
  case fin =>
    rintro vs W hJ
    obtain ⟨x0, x1, x2, x3, x4, x5, x6, x7, x8, x9, rfl⟩ := len10 hJ.ln
    obtain ⟨b6, e6, hb6, hr6⟩ := hJ.box 6 _ _ _ rfl rfl
    obtain rfl : x6 = .pointer (some ⟨b6, 0, none⟩) := Option.some.inj e6
    replace hr6 : Row W b6 28 [.int .i64 (b1 - a1), .int .i64 (b2 - a2)] := hr6
    have HR6 := Lib.hid hr6
    clear e6 hr6
    obtain ⟨b7, e7, hb7, hr7⟩ := hJ.box 7 _ _ _ rfl rfl
    obtain rfl : x7 = .pointer (some ⟨b7, 0, none⟩) := Option.some.inj e7
    replace hr7 : Row W b7 28 [.int .i64 (c1 - a1), .int .i64 (c2 - a2)] := hr7
    have HR7 := Lib.hid hr7
    clear e7 hr7
    have HC := Lib.hid hJ.bl
    clear hJ
    simp only [putAll, Act.put, List.setIfInBounds_toArray, List.set_cons_succ, List.set_cons_zero, List.set_nil]
    have RA2 := Lib.hid (RA.out.below HC.out RA.out.lt)
    have RR2 := Lib.hid (RR.out.below HC.out RR.out.lt)
    have BW := Lib.hid (Below.andThen BA.out HC.out (Nat.le_refl _))
    have HLT := Lib.hid (And.intro HSZ.out (And.intro hb6 hb7))
    have hcr := fun (W : World) => cross_any (b1 - a1) (b2 - a2) (c1 - a1) (c2 - a2) W (HP.out.1.mono (by omega)) (HP.out.2.1.mono (by omega)) (HP.out.2.2.1.mono (by omega)) (HP.out.2.2.2.mono (by omega))
    have HCR := Lib.hid hcr
    have y0 := HR6.out.cell 0
    have y1 := HR6.out.cell 1
    have z0 := HR7.out.cell 0
    have z1 := HR7.out.cell 1
    simp only [List.getElem?_cons_zero, List.getElem?_cons_succ] at y0 y1 z0 z1
    clear hcr RA RR BA HC hb6 hb7 RB RC
    go_wp2_with fail
    refine (HCR.out W).mono ?_
    rintro e w2 ⟨rfl, hb2⟩
    clear y0 y1 z0 z1 HCR
    have RA3 := Lib.hid (RA2.out.below hb2 RA2.out.lt)
    have RR3 := Lib.hid (RR2.out.below hb2 RR2.out.lt)
    have R6 := Lib.hid (HR6.out.below hb2 HR6.out.lt)
    have R7 := Lib.hid (HR7.out.below hb2 HR7.out.lt)
    have BW2 := Lib.hid (Below.andThen BW.out hb2 (Nat.le_refl _))
    have hcb : Bd 3200 (crs (b1 - a1, b2 - a2) (c1 - a1, c2 - a2)) := by
      have h := (HP.out.1.mul HP.out.2.2.2).sub (HP.out.2.1.mul HP.out.2.2.1)
      unfold crs
      exact h.mono (by omega)
    have HDB := Lib.hid (show Bd 6400 D by rw [HDD.out]; unfold Bd at *; omega)
    have n1 : IntKind.i64.wrap (2 * crs (b1 - a1, b2 - a2) (c1 - a1, c2 - a2)) = D := by rw [← HDD.out]; exact i64_bd HDB.out (by omega)
    clear hb2 hcb RA2 RR2 HR6 HR7 BW
    by_cases hD : D = 0
    · have d1 : (D == 0) = true := by simp [hD]
      have d1' : decide (D = 0) = true := decide_eq_true hD
      have rT := RR3.out
      have t0 := rT.cell 0
      have t1 := rT.cell 1
      have t2 := rT.cell 2
      have t3 := rT.cell 3
      have g0 := frozen_of_row _ (w.heap.size + 1 + 1 + 1) 0 _ _ rT
      have g1 := frozen_of_row _ (w.heap.size + 1 + 1 + 1) 1 _ _ rT
      have g2 := frozen_of_row _ (w.heap.size + 1 + 1 + 1) 2 _ _ rT
      have g3 := frozen_of_row _ (w.heap.size + 1 + 1 + 1) 3 _ _ rT
      simp only [List.getElem?_cons_zero, List.getElem?_cons_succ] at t0 t1 t2 t3
      have HTV2 := HTV.out
      rw [if_pos hD] at HTV2
      have HT2 := Lib.hid HTV2
      have HD0 := Lib.hid hD
      clear rT HTV2 hD
      go_wp2_with fail
      have hr := (((RR3.out.set 0 (.int .i64 0)).set 1 (.int .i64 0)).set 2 (.int .i64 0)).set 3 (.int .i64 0)
      have v0 := hr.cell 0
      have v1 := hr.cell 1
      have v2 := hr.cell 2
      have v3 := hr.cell 3
      simp only [List.set_cons_zero, List.set_cons_succ, List.getElem?_cons_zero, List.getElem?_cons_succ] at v0 v1 v2 v3
      refine bodyPost_ret (v := .tuple #[cirV 0 0 0 0, .bool false]) (by simp [results, Try.results61, go_sem, v0, v1, v2, v3, cirV]) rfl ⟨by rw [HT2.out, decide_eq_true HD0.out]; rfl, ?_⟩
      exact (((BW2.out.setCell (p := ⟨w.heap.size + 1 + 1 + 1, 0, none⟩) (by dsimp only; omega) _).setCell (p := ⟨w.heap.size + 1 + 1 + 1, 1, none⟩) (by dsimp only; omega) _).setCell (p := ⟨w.heap.size + 1 + 1 + 1, 2, none⟩) (by dsimp only; omega) _).setCell (p := ⟨w.heap.size + 1 + 1 + 1, 3, none⟩) (by dsimp only; omega) _
    · have d1 : (D == 0) = false := by simp [hD]
      have d1' : decide (D = 0) = false := decide_eq_false hD
      have HS1 := Lib.hid (fun (W : World) (hb : Below w2.heap.size w2 W) => show Calls Try.prog 92 #[.slice (some ⟨b6, 0, none⟩) 2 2] W fun e w' => e = .returned (.int .i64 ((b1 - a1) * (b1 - a1) + (b2 - a2) * (b2 - a2))) ∧ Below W.heap.size W w' from (sq_any (b1 - a1) (b2 - a2) b6 0 2 W ((R6.out.below hb R6.out.lt).cell 0) ((R6.out.below hb R6.out.lt).cell 1) (by omega) (HP.out.1.mono (by omega)) (HP.out.2.1.mono (by omega))).mono fun e w' ⟨e1, e2⟩ => ⟨e1, by rw [e2]; exact Below.refl _ _⟩)
      have HS2 := Lib.hid (fun (W : World) (hb : Below w2.heap.size w2 W) => show Calls Try.prog 92 #[.slice (some ⟨b7, 0, none⟩) 2 2] W fun e w' => e = .returned (.int .i64 ((c1 - a1) * (c1 - a1) + (c2 - a2) * (c2 - a2))) ∧ Below W.heap.size W w' from (sq_any (c1 - a1) (c2 - a2) b7 0 2 W ((R7.out.below hb R7.out.lt).cell 0) ((R7.out.below hb R7.out.lt).cell 1) (by omega) (HP.out.2.2.1.mono (by omega)) (HP.out.2.2.2.mono (by omega))).mono fun e w' ⟨e1, e2⟩ => ⟨e1, by rw [e2]; exact Below.refl _ _⟩)
      have HD0 := Lib.hid hD
      clear hD
      go_wp2_with fail
      refine wp_region_box (by kernel_rfl) (by kernel_rfl) [28, 29, 30, 31, 11, 12] [(fun v => v = .slice (some ⟨b6, 0, none⟩) 2 2), (fun v => v = .int .i64 ((b1 - a1) * (b1 - a1) + (b2 - a2) * (b2 - a2))), (fun v => v = .slice (some ⟨b7, 0, none⟩) 2 2), (fun v => v = .int .i64 ((c1 - a1) * (c1 - a1) + (c2 - a2) * (c2 - a2))), (fun v => v = .int .i64 ((b1 - a1) * (b1 - a1) + (b2 - a2) * (b2 - a2))), (fun v => v = .int .i64 ((c1 - a1) * (c1 - a1) + (c2 - a2) * (c2 - a2)))] [none, none, none, none, none, none] [none, none, none, none, none, none] 6 rfl (by kernel_rfl) ?tr ⟨[undef, undef, undef, undef, undef, undef], by simp only [putAll, Act.put, List.setIfInBounds_toArray, List.set_cons_succ, List.set_cons_zero], rfl⟩ ?steps ?fin
      case tr =>
        rintro i v h
        rcases i with _ | _ | _ | _ | _ | _ | i
        all_goals first | trivial | (exfalso; rcases h with h | h <;> simp at h)
      case steps =>
        simp only [boxSteps, Nat.reduceAdd, Nat.zero_add, List.getD_cons_succ, List.getD_cons_zero]
        refine ⟨?_, ?_, ?_, ?_, ?_, ?_, trivial⟩
        · rintro vs W K hc hvl hw hK
          obtain ⟨x0, x1, x2, x3, x4, x5, rfl⟩ := len6 hvl
          have HK := Lib.hid hK
          have HC := Lib.hid hc
          have HW := Lib.hid hw
          clear hK hc hw hvl
          simp only [putAll, Act.put, List.setIfInBounds_toArray, List.set_cons_succ, List.set_cons_zero]
          clear HW
          go_wp2_with fail
          have fin := HK.out (.slice (some ⟨b6, 0, none⟩) 2 2) W (Below.refl _ _) rfl
          simp only [putAll, Act.put, List.setIfInBounds_toArray, List.set_cons_succ, List.set_cons_zero] at fin
          exact fin
        · rintro vs W K hc hvl hw hK
          obtain ⟨x0, x1, x2, x3, x4, x5, rfl⟩ := len6 hvl
          have HK := Lib.hid hK
          have HC := Lib.hid hc
          have HW := Lib.hid hw
          clear hK hc hw hvl
          obtain rfl : x0 = .slice (some ⟨b6, 0, none⟩) 2 2 := box_get (HW.out ⟨0, .data⟩ (by simp) rfl) rfl
          simp only [putAll, Act.put, List.setIfInBounds_toArray, List.set_cons_succ, List.set_cons_zero]
          clear HW
          go_wp2_with fail
          refine ((HS1.out W HC.out)).mono ?_
          rintro e W' ⟨rfl, hb'⟩
          have HB' := Lib.hid hb'
          clear hb'
          go_wp2_with fail
          have fin := HK.out (.int .i64 ((b1 - a1) * (b1 - a1) + (b2 - a2) * (b2 - a2))) W' HB'.out rfl
          simp only [putAll, Act.put, List.setIfInBounds_toArray, List.set_cons_succ, List.set_cons_zero] at fin
          exact fin
        · rintro vs W K hc hvl hw hK
          obtain ⟨x0, x1, x2, x3, x4, x5, rfl⟩ := len6 hvl
          have HK := Lib.hid hK
          have HC := Lib.hid hc
          have HW := Lib.hid hw
          clear hK hc hw hvl
          simp only [putAll, Act.put, List.setIfInBounds_toArray, List.set_cons_succ, List.set_cons_zero]
          clear HW
          go_wp2_with fail
          have fin := HK.out (.slice (some ⟨b7, 0, none⟩) 2 2) W (Below.refl _ _) rfl
          simp only [putAll, Act.put, List.setIfInBounds_toArray, List.set_cons_succ, List.set_cons_zero] at fin
          exact fin
        · rintro vs W K hc hvl hw hK
          obtain ⟨x0, x1, x2, x3, x4, x5, rfl⟩ := len6 hvl
          have HK := Lib.hid hK
          have HC := Lib.hid hc
          have HW := Lib.hid hw
          clear hK hc hw hvl
          obtain rfl : x2 = .slice (some ⟨b7, 0, none⟩) 2 2 := box_get (HW.out ⟨2, .data⟩ (by simp) rfl) rfl
          simp only [putAll, Act.put, List.setIfInBounds_toArray, List.set_cons_succ, List.set_cons_zero]
          clear HW
          go_wp2_with fail
          refine ((HS2.out W HC.out)).mono ?_
          rintro e W' ⟨rfl, hb'⟩
          have HB' := Lib.hid hb'
          clear hb'
          go_wp2_with fail
          have fin := HK.out (.int .i64 ((c1 - a1) * (c1 - a1) + (c2 - a2) * (c2 - a2))) W' HB'.out rfl
          simp only [putAll, Act.put, List.setIfInBounds_toArray, List.set_cons_succ, List.set_cons_zero] at fin
          exact fin
        · rintro vs W K hc hvl hw hK
          obtain ⟨x0, x1, x2, x3, x4, x5, rfl⟩ := len6 hvl
          have HK := Lib.hid hK
          have HC := Lib.hid hc
          have HW := Lib.hid hw
          clear hK hc hw hvl
          obtain rfl : x1 = .int .i64 ((b1 - a1) * (b1 - a1) + (b2 - a2) * (b2 - a2)) := box_get (HW.out ⟨1, .data⟩ (by simp) rfl) rfl
          simp only [putAll, Act.put, List.setIfInBounds_toArray, List.set_cons_succ, List.set_cons_zero]
          clear HW
          go_wp2_with fail
          have fin := HK.out (.int .i64 ((b1 - a1) * (b1 - a1) + (b2 - a2) * (b2 - a2))) W (Below.refl _ _) rfl
          simp only [putAll, Act.put, List.setIfInBounds_toArray, List.set_cons_succ, List.set_cons_zero] at fin
          exact fin
        · rintro vs W K hc hvl hw hK
          obtain ⟨x0, x1, x2, x3, x4, x5, rfl⟩ := len6 hvl
          have HK := Lib.hid hK
          have HC := Lib.hid hc
          have HW := Lib.hid hw
          clear hK hc hw hvl
          obtain rfl : x3 = .int .i64 ((c1 - a1) * (c1 - a1) + (c2 - a2) * (c2 - a2)) := box_get (HW.out ⟨3, .data⟩ (by simp) rfl) rfl
          simp only [putAll, Act.put, List.setIfInBounds_toArray, List.set_cons_succ, List.set_cons_zero]
          clear HW
          go_wp2_with fail
          have fin := HK.out (.int .i64 ((c1 - a1) * (c1 - a1) + (c2 - a2) * (c2 - a2))) W (Below.refl _ _) rfl
          simp only [putAll, Act.put, List.setIfInBounds_toArray, List.set_cons_succ, List.set_cons_zero] at fin
          exact fin
      case fin =>
        rintro vs W hJ
        obtain ⟨x0, x1, x2, x3, x4, x5, rfl⟩ := len6 hJ.ln
        obtain rfl : x4 = .int .i64 ((b1 - a1) * (b1 - a1) + (b2 - a2) * (b2 - a2)) := box_get (hJ.val 4 rfl) rfl
        obtain rfl : x5 = .int .i64 ((c1 - a1) * (c1 - a1) + (c2 - a2) * (c2 - a2)) := box_get (hJ.val 5 rfl) rfl
        have HC := Lib.hid hJ.bl
        clear hJ
        simp only [putAll, Act.put, List.setIfInBounds_toArray, List.set_cons_succ, List.set_cons_zero]
        have RA4 := Lib.hid (RA3.out.below HC.out RA3.out.lt)
        have RR4 := Lib.hid (RR3.out.below HC.out RR3.out.lt)
        have R64 := Lib.hid (R6.out.below HC.out R6.out.lt)
        have R74 := Lib.hid (R7.out.below HC.out R7.out.lt)
        have BW3 := Lib.hid (Below.andThen BW2.out HC.out (Nat.le_refl _))
        have y0 := R64.out.cell 0
        have y1 := R64.out.cell 1
        have z0 := R74.out.cell 0
        have z1 := R74.out.cell 1
        have a0' := RA4.out.cell 0
        have a1' := RA4.out.cell 1
        simp only [List.getElem?_cons_zero, List.getElem?_cons_succ] at y0 y1 z0 z1 a0' a1'
        have hpp : Bd 3200 ((b1 - a1) * (b1 - a1) + (b2 - a2) * (b2 - a2)) := ((HP.out.1.mul HP.out.1).add (HP.out.2.1.mul HP.out.2.1)).mono (by omega)
        have hqq : Bd 3200 ((c1 - a1) * (c1 - a1) + (c2 - a2) * (c2 - a2)) := ((HP.out.2.2.1.mul HP.out.2.2.1).add (HP.out.2.2.2.mul HP.out.2.2.2)).mono (by omega)
        have mb1 := HP.out.2.2.2.mul hpp
        have mb2 := HP.out.2.1.mul hqq
        have mb3 := HP.out.1.mul hqq
        have mb4 := HP.out.2.2.1.mul hpp
        have hTX : Bd 256000 TX := by rw [HXX.out]; exact (mb1.sub mb2).mono (by omega)
        have hTY : Bd 256000 TY := by rw [HYY.out]; exact (mb3.sub mb4).mono (by omega)
        have m1 := i64_bd mb1 (by omega)
        have m2 := i64_bd mb2 (by omega)
        have m3 := i64_bd mb3 (by omega)
        have m4 := i64_bd mb4 (by omega)
        have m5 : IntKind.i64.wrap ((c2 - a2) * ((b1 - a1) * (b1 - a1) + (b2 - a2) * (b2 - a2)) - (b2 - a2) * ((c1 - a1) * (c1 - a1) + (c2 - a2) * (c2 - a2))) = TX := by rw [← HXX.out]; exact i64_bd hTX (by omega)
        have m6 : IntKind.i64.wrap ((b1 - a1) * ((c1 - a1) * (c1 - a1) + (c2 - a2) * (c2 - a2)) - (c1 - a1) * ((b1 - a1) * (b1 - a1) + (b2 - a2) * (b2 - a2))) = TY := by rw [← HYY.out]; exact i64_bd hTY (by omega)
        have md1 := HDB.out.mul HA.out.1
        have md2 := HDB.out.mul HA.out.2
        have m7 := i64_bd md1 (by omega)
        have m8 := i64_bd md2 (by omega)
        have m9 := i64_bd (md1.add hTX) (by omega)
        have m10 := i64_bd (md2.add hTY) (by omega)
        have HRD := Lib.hid (fun (W : World) => round_any (D * a1 + TX) (D * a2 + TY) D a1 a2 W ((md1.add hTX).mono (by omega)) ((md2.add hTY).mono (by omega)) (HDB.out.mono (by omega)) HD0.out HA.out.1 HA.out.2)
        have HTV2 := HTV.out
        rw [if_neg HD0.out] at HTV2
        obtain ⟨X, Y, Dd, R, hV⟩ : ∃ X Y Dd R, rndV (D * a1 + TX) (D * a2 + TY) D (a1, a2) = cirV X Y Dd R := ⟨_, _, _, _, rfl⟩
        rw [hV] at HRD HTV2
        unfold cirV at HRD
        have HT2 := Lib.hid HTV2
        have MM1 := Lib.hid m1
        have MM2 := Lib.hid m2
        have MM3 := Lib.hid m3
        have MM4 := Lib.hid m4
        have MM5 := Lib.hid m5
        have MM6 := Lib.hid m6
        clear m1 m2 m3 m4 m5 m6 y0 y1 z0 z1 a0' a1'
        clear mb1 mb2 mb3 mb4 hpp hqq hTX hTY md1 md2 HTV2 hV HS1 HS2 RA3 RR3 R6 R7 BW2
        go_wp2_with fail
        refine wp_region_box (by kernel_rfl) (by kernel_rfl) [32, 33, 34, 35, 36, 37, 38, 39, 40, 41, 42, 43, 44, 45, 46, 47, 48, 49, 13, 14] [(fun v => v = .pointer (some ⟨b7, 1, none⟩)), (fun v => v = .int .i64 (c2 - a2)), (fun v => v = .int .i64 ((b1 - a1) * (b1 - a1) + (b2 - a2) * (b2 - a2))), (fun v => v = .int .i64 ((c2 - a2) * ((b1 - a1) * (b1 - a1) + (b2 - a2) * (b2 - a2)))), (fun v => v = .pointer (some ⟨b6, 1, none⟩)), (fun v => v = .int .i64 (b2 - a2)), (fun v => v = .int .i64 ((c1 - a1) * (c1 - a1) + (c2 - a2) * (c2 - a2))), (fun v => v = .int .i64 ((b2 - a2) * ((c1 - a1) * (c1 - a1) + (c2 - a2) * (c2 - a2)))), (fun v => v = .int .i64 (TX)), (fun v => v = .pointer (some ⟨b6, 0, none⟩)), (fun v => v = .int .i64 (b1 - a1)), (fun v => v = .int .i64 ((c1 - a1) * (c1 - a1) + (c2 - a2) * (c2 - a2))), (fun v => v = .int .i64 ((b1 - a1) * ((c1 - a1) * (c1 - a1) + (c2 - a2) * (c2 - a2)))), (fun v => v = .pointer (some ⟨b7, 0, none⟩)), (fun v => v = .int .i64 (c1 - a1)), (fun v => v = .int .i64 ((b1 - a1) * (b1 - a1) + (b2 - a2) * (b2 - a2))), (fun v => v = .int .i64 ((c1 - a1) * ((b1 - a1) * (b1 - a1) + (b2 - a2) * (b2 - a2)))), (fun v => v = .int .i64 (TY)), (fun v => v = .int .i64 (TX)), (fun v => v = .int .i64 (TY))] [none, none, none, none, none, none, none, none, none, none, none, none, none, none, none, none, none, none, none, none] [none, none, none, none, none, none, none, none, none, none, none, none, none, none, none, none, none, none, none, none] 20 rfl (by kernel_rfl) ?tr ⟨[undef, undef, undef, undef, undef, undef, undef, undef, undef, undef, undef, undef, undef, undef, undef, undef, undef, undef, undef, undef], by simp only [putAll, Act.put, List.setIfInBounds_toArray, List.set_cons_succ, List.set_cons_zero], rfl⟩ ?steps ?fin
        case tr =>
          rintro i v h
          rcases i with _ | _ | _ | _ | _ | _ | _ | _ | _ | _ | _ | _ | _ | _ | _ | _ | _ | _ | _ | _ | i
          all_goals first | trivial | (exfalso; rcases h with h | h <;> simp at h)
        case steps =>
          simp only [boxSteps, Nat.reduceAdd, Nat.zero_add, List.getD_cons_succ, List.getD_cons_zero]
          refine ⟨?_, ?_, ?_, ?_, ?_, ?_, ?_, ?_, ?_, ?_, ?_, ?_, ?_, ?_, ?_, ?_, ?_, ?_, ?_, ?_, trivial⟩
          · rintro vs W K hc hvl hw hK
            obtain ⟨x0, x1, x2, x3, x4, x5, x6, x7, x8, x9, x10, x11, x12, x13, x14, x15, x16, x17, x18, x19, rfl⟩ := len20 hvl
            have HK := Lib.hid hK
            have HC := Lib.hid hc
            have HW := Lib.hid hw
            clear hK hc hw hvl
            simp only [putAll, Act.put, List.setIfInBounds_toArray, List.set_cons_succ, List.set_cons_zero]
            clear HW
            go_wp2_with fail
            have fin := HK.out (.pointer (some ⟨b7, 1, none⟩)) W (Below.refl _ _) rfl
            simp only [putAll, Act.put, List.setIfInBounds_toArray, List.set_cons_succ, List.set_cons_zero] at fin
            exact fin
          · rintro vs W K hc hvl hw hK
            obtain ⟨x0, x1, x2, x3, x4, x5, x6, x7, x8, x9, x10, x11, x12, x13, x14, x15, x16, x17, x18, x19, rfl⟩ := len20 hvl
            have HK := Lib.hid hK
            have HC := Lib.hid hc
            have HW := Lib.hid hw
            clear hK hc hw hvl
            obtain rfl : x0 = .pointer (some ⟨b7, 1, none⟩) := box_get (HW.out ⟨0, .data⟩ (by simp) rfl) rfl
            simp only [putAll, Act.put, List.setIfInBounds_toArray, List.set_cons_succ, List.set_cons_zero]
            have rr := R74.out.below HC.out R74.out.lt
            have k0 : W.cell? ⟨_, 1, none⟩ = some (.int .i64 (c2 - a2)) := rr.cell 1
            clear rr
            clear HW
            go_wp2_with fail
            have fin := HK.out (.int .i64 (c2 - a2)) W (Below.refl _ _) rfl
            simp only [putAll, Act.put, List.setIfInBounds_toArray, List.set_cons_succ, List.set_cons_zero] at fin
            exact fin
          · rintro vs W K hc hvl hw hK
            obtain ⟨x0, x1, x2, x3, x4, x5, x6, x7, x8, x9, x10, x11, x12, x13, x14, x15, x16, x17, x18, x19, rfl⟩ := len20 hvl
            have HK := Lib.hid hK
            have HC := Lib.hid hc
            have HW := Lib.hid hw
            clear hK hc hw hvl
            simp only [putAll, Act.put, List.setIfInBounds_toArray, List.set_cons_succ, List.set_cons_zero]
            clear HW
            go_wp2_with fail
            have fin := HK.out (.int .i64 ((b1 - a1) * (b1 - a1) + (b2 - a2) * (b2 - a2))) W (Below.refl _ _) rfl
            simp only [putAll, Act.put, List.setIfInBounds_toArray, List.set_cons_succ, List.set_cons_zero] at fin
            exact fin
          · rintro vs W K hc hvl hw hK
            obtain ⟨x0, x1, x2, x3, x4, x5, x6, x7, x8, x9, x10, x11, x12, x13, x14, x15, x16, x17, x18, x19, rfl⟩ := len20 hvl
            have HK := Lib.hid hK
            have HC := Lib.hid hc
            have HW := Lib.hid hw
            clear hK hc hw hvl
            obtain rfl : x1 = .int .i64 (c2 - a2) := box_get (HW.out ⟨1, .data⟩ (by simp) rfl) rfl
            obtain rfl : x2 = .int .i64 ((b1 - a1) * (b1 - a1) + (b2 - a2) * (b2 - a2)) := box_get (HW.out ⟨2, .data⟩ (by simp) rfl) rfl
            simp only [putAll, Act.put, List.setIfInBounds_toArray, List.set_cons_succ, List.set_cons_zero]
            have mm1 := MM1.out
            clear HW
            go_wp2_with fail
            have fin := HK.out (.int .i64 ((c2 - a2) * ((b1 - a1) * (b1 - a1) + (b2 - a2) * (b2 - a2)))) W (Below.refl _ _) rfl
            simp only [putAll, Act.put, List.setIfInBounds_toArray, List.set_cons_succ, List.set_cons_zero] at fin
            exact fin
          · rintro vs W K hc hvl hw hK
            obtain ⟨x0, x1, x2, x3, x4, x5, x6, x7, x8, x9, x10, x11, x12, x13, x14, x15, x16, x17, x18, x19, rfl⟩ := len20 hvl
            have HK := Lib.hid hK
            have HC := Lib.hid hc
            have HW := Lib.hid hw
            clear hK hc hw hvl
            simp only [putAll, Act.put, List.setIfInBounds_toArray, List.set_cons_succ, List.set_cons_zero]
            clear HW
            go_wp2_with fail
            have fin := HK.out (.pointer (some ⟨b6, 1, none⟩)) W (Below.refl _ _) rfl
            simp only [putAll, Act.put, List.setIfInBounds_toArray, List.set_cons_succ, List.set_cons_zero] at fin
            exact fin
          · rintro vs W K hc hvl hw hK
            obtain ⟨x0, x1, x2, x3, x4, x5, x6, x7, x8, x9, x10, x11, x12, x13, x14, x15, x16, x17, x18, x19, rfl⟩ := len20 hvl
            have HK := Lib.hid hK
            have HC := Lib.hid hc
            have HW := Lib.hid hw
            clear hK hc hw hvl
            obtain rfl : x4 = .pointer (some ⟨b6, 1, none⟩) := box_get (HW.out ⟨4, .data⟩ (by simp) rfl) rfl
            simp only [putAll, Act.put, List.setIfInBounds_toArray, List.set_cons_succ, List.set_cons_zero]
            have rr := R64.out.below HC.out R64.out.lt
            have k0 : W.cell? ⟨_, 1, none⟩ = some (.int .i64 (b2 - a2)) := rr.cell 1
            clear rr
            clear HW
            go_wp2_with fail
            have fin := HK.out (.int .i64 (b2 - a2)) W (Below.refl _ _) rfl
            simp only [putAll, Act.put, List.setIfInBounds_toArray, List.set_cons_succ, List.set_cons_zero] at fin
            exact fin
          · rintro vs W K hc hvl hw hK
            obtain ⟨x0, x1, x2, x3, x4, x5, x6, x7, x8, x9, x10, x11, x12, x13, x14, x15, x16, x17, x18, x19, rfl⟩ := len20 hvl
            have HK := Lib.hid hK
            have HC := Lib.hid hc
            have HW := Lib.hid hw
            clear hK hc hw hvl
            simp only [putAll, Act.put, List.setIfInBounds_toArray, List.set_cons_succ, List.set_cons_zero]
            clear HW
            go_wp2_with fail
            have fin := HK.out (.int .i64 ((c1 - a1) * (c1 - a1) + (c2 - a2) * (c2 - a2))) W (Below.refl _ _) rfl
            simp only [putAll, Act.put, List.setIfInBounds_toArray, List.set_cons_succ, List.set_cons_zero] at fin
            exact fin
          · rintro vs W K hc hvl hw hK
            obtain ⟨x0, x1, x2, x3, x4, x5, x6, x7, x8, x9, x10, x11, x12, x13, x14, x15, x16, x17, x18, x19, rfl⟩ := len20 hvl
            have HK := Lib.hid hK
            have HC := Lib.hid hc
            have HW := Lib.hid hw
            clear hK hc hw hvl
            obtain rfl : x5 = .int .i64 (b2 - a2) := box_get (HW.out ⟨5, .data⟩ (by simp) rfl) rfl
            obtain rfl : x6 = .int .i64 ((c1 - a1) * (c1 - a1) + (c2 - a2) * (c2 - a2)) := box_get (HW.out ⟨6, .data⟩ (by simp) rfl) rfl
            simp only [putAll, Act.put, List.setIfInBounds_toArray, List.set_cons_succ, List.set_cons_zero]
            have mm2 := MM2.out
            clear HW
            go_wp2_with fail
            have fin := HK.out (.int .i64 ((b2 - a2) * ((c1 - a1) * (c1 - a1) + (c2 - a2) * (c2 - a2)))) W (Below.refl _ _) rfl
            simp only [putAll, Act.put, List.setIfInBounds_toArray, List.set_cons_succ, List.set_cons_zero] at fin
            exact fin
          · rintro vs W K hc hvl hw hK
            obtain ⟨x0, x1, x2, x3, x4, x5, x6, x7, x8, x9, x10, x11, x12, x13, x14, x15, x16, x17, x18, x19, rfl⟩ := len20 hvl
            have HK := Lib.hid hK
            have HC := Lib.hid hc
            have HW := Lib.hid hw
            clear hK hc hw hvl
            obtain rfl : x3 = .int .i64 ((c2 - a2) * ((b1 - a1) * (b1 - a1) + (b2 - a2) * (b2 - a2))) := box_get (HW.out ⟨3, .data⟩ (by simp) rfl) rfl
            obtain rfl : x7 = .int .i64 ((b2 - a2) * ((c1 - a1) * (c1 - a1) + (c2 - a2) * (c2 - a2))) := box_get (HW.out ⟨7, .data⟩ (by simp) rfl) rfl
            simp only [putAll, Act.put, List.setIfInBounds_toArray, List.set_cons_succ, List.set_cons_zero]
            have mm5 := MM5.out
            clear HW
            go_wp2_with fail
            have fin := HK.out (.int .i64 (TX)) W (Below.refl _ _) rfl
            simp only [putAll, Act.put, List.setIfInBounds_toArray, List.set_cons_succ, List.set_cons_zero] at fin
            exact fin
          · rintro vs W K hc hvl hw hK
            obtain ⟨x0, x1, x2, x3, x4, x5, x6, x7, x8, x9, x10, x11, x12, x13, x14, x15, x16, x17, x18, x19, rfl⟩ := len20 hvl
            have HK := Lib.hid hK
            have HC := Lib.hid hc
            have HW := Lib.hid hw
            clear hK hc hw hvl
            simp only [putAll, Act.put, List.setIfInBounds_toArray, List.set_cons_succ, List.set_cons_zero]
            clear HW
            go_wp2_with fail
            have fin := HK.out (.pointer (some ⟨b6, 0, none⟩)) W (Below.refl _ _) rfl
            simp only [putAll, Act.put, List.setIfInBounds_toArray, List.set_cons_succ, List.set_cons_zero] at fin
            exact fin
          · rintro vs W K hc hvl hw hK
            obtain ⟨x0, x1, x2, x3, x4, x5, x6, x7, x8, x9, x10, x11, x12, x13, x14, x15, x16, x17, x18, x19, rfl⟩ := len20 hvl
            have HK := Lib.hid hK
            have HC := Lib.hid hc
            have HW := Lib.hid hw
            clear hK hc hw hvl
            obtain rfl : x9 = .pointer (some ⟨b6, 0, none⟩) := box_get (HW.out ⟨9, .data⟩ (by simp) rfl) rfl
            simp only [putAll, Act.put, List.setIfInBounds_toArray, List.set_cons_succ, List.set_cons_zero]
            have rr := R64.out.below HC.out R64.out.lt
            have k0 : W.cell? ⟨_, 0, none⟩ = some (.int .i64 (b1 - a1)) := rr.cell 0
            clear rr
            clear HW
            go_wp2_with fail
            have fin := HK.out (.int .i64 (b1 - a1)) W (Below.refl _ _) rfl
            simp only [putAll, Act.put, List.setIfInBounds_toArray, List.set_cons_succ, List.set_cons_zero] at fin
            exact fin
          · rintro vs W K hc hvl hw hK
            obtain ⟨x0, x1, x2, x3, x4, x5, x6, x7, x8, x9, x10, x11, x12, x13, x14, x15, x16, x17, x18, x19, rfl⟩ := len20 hvl
            have HK := Lib.hid hK
            have HC := Lib.hid hc
            have HW := Lib.hid hw
            clear hK hc hw hvl
            simp only [putAll, Act.put, List.setIfInBounds_toArray, List.set_cons_succ, List.set_cons_zero]
            clear HW
            go_wp2_with fail
            have fin := HK.out (.int .i64 ((c1 - a1) * (c1 - a1) + (c2 - a2) * (c2 - a2))) W (Below.refl _ _) rfl
            simp only [putAll, Act.put, List.setIfInBounds_toArray, List.set_cons_succ, List.set_cons_zero] at fin
            exact fin
          · rintro vs W K hc hvl hw hK
            obtain ⟨x0, x1, x2, x3, x4, x5, x6, x7, x8, x9, x10, x11, x12, x13, x14, x15, x16, x17, x18, x19, rfl⟩ := len20 hvl
            have HK := Lib.hid hK
            have HC := Lib.hid hc
            have HW := Lib.hid hw
            clear hK hc hw hvl
            obtain rfl : x10 = .int .i64 (b1 - a1) := box_get (HW.out ⟨10, .data⟩ (by simp) rfl) rfl
            obtain rfl : x11 = .int .i64 ((c1 - a1) * (c1 - a1) + (c2 - a2) * (c2 - a2)) := box_get (HW.out ⟨11, .data⟩ (by simp) rfl) rfl
            simp only [putAll, Act.put, List.setIfInBounds_toArray, List.set_cons_succ, List.set_cons_zero]
            have mm3 := MM3.out
            clear HW
            go_wp2_with fail
            have fin := HK.out (.int .i64 ((b1 - a1) * ((c1 - a1) * (c1 - a1) + (c2 - a2) * (c2 - a2)))) W (Below.refl _ _) rfl
            simp only [putAll, Act.put, List.setIfInBounds_toArray, List.set_cons_succ, List.set_cons_zero] at fin
            exact fin
          · rintro vs W K hc hvl hw hK
            obtain ⟨x0, x1, x2, x3, x4, x5, x6, x7, x8, x9, x10, x11, x12, x13, x14, x15, x16, x17, x18, x19, rfl⟩ := len20 hvl
            have HK := Lib.hid hK
            have HC := Lib.hid hc
            have HW := Lib.hid hw
            clear hK hc hw hvl
            simp only [putAll, Act.put, List.setIfInBounds_toArray, List.set_cons_succ, List.set_cons_zero]
            clear HW
            go_wp2_with fail
            have fin := HK.out (.pointer (some ⟨b7, 0, none⟩)) W (Below.refl _ _) rfl
            simp only [putAll, Act.put, List.setIfInBounds_toArray, List.set_cons_succ, List.set_cons_zero] at fin
            exact fin
          · rintro vs W K hc hvl hw hK
            obtain ⟨x0, x1, x2, x3, x4, x5, x6, x7, x8, x9, x10, x11, x12, x13, x14, x15, x16, x17, x18, x19, rfl⟩ := len20 hvl
            have HK := Lib.hid hK
            have HC := Lib.hid hc
            have HW := Lib.hid hw
            clear hK hc hw hvl
            obtain rfl : x13 = .pointer (some ⟨b7, 0, none⟩) := box_get (HW.out ⟨13, .data⟩ (by simp) rfl) rfl
            simp only [putAll, Act.put, List.setIfInBounds_toArray, List.set_cons_succ, List.set_cons_zero]
            have rr := R74.out.below HC.out R74.out.lt
            have k0 : W.cell? ⟨_, 0, none⟩ = some (.int .i64 (c1 - a1)) := rr.cell 0
            clear rr
            clear HW
            go_wp2_with fail
            have fin := HK.out (.int .i64 (c1 - a1)) W (Below.refl _ _) rfl
            simp only [putAll, Act.put, List.setIfInBounds_toArray, List.set_cons_succ, List.set_cons_zero] at fin
            exact fin
          · rintro vs W K hc hvl hw hK
            obtain ⟨x0, x1, x2, x3, x4, x5, x6, x7, x8, x9, x10, x11, x12, x13, x14, x15, x16, x17, x18, x19, rfl⟩ := len20 hvl
            have HK := Lib.hid hK
            have HC := Lib.hid hc
            have HW := Lib.hid hw
            clear hK hc hw hvl
            simp only [putAll, Act.put, List.setIfInBounds_toArray, List.set_cons_succ, List.set_cons_zero]
            clear HW
            go_wp2_with fail
            have fin := HK.out (.int .i64 ((b1 - a1) * (b1 - a1) + (b2 - a2) * (b2 - a2))) W (Below.refl _ _) rfl
            simp only [putAll, Act.put, List.setIfInBounds_toArray, List.set_cons_succ, List.set_cons_zero] at fin
            exact fin
          · rintro vs W K hc hvl hw hK
            obtain ⟨x0, x1, x2, x3, x4, x5, x6, x7, x8, x9, x10, x11, x12, x13, x14, x15, x16, x17, x18, x19, rfl⟩ := len20 hvl
            have HK := Lib.hid hK
            have HC := Lib.hid hc
            have HW := Lib.hid hw
            clear hK hc hw hvl
            obtain rfl : x14 = .int .i64 (c1 - a1) := box_get (HW.out ⟨14, .data⟩ (by simp) rfl) rfl
            obtain rfl : x15 = .int .i64 ((b1 - a1) * (b1 - a1) + (b2 - a2) * (b2 - a2)) := box_get (HW.out ⟨15, .data⟩ (by simp) rfl) rfl
            simp only [putAll, Act.put, List.setIfInBounds_toArray, List.set_cons_succ, List.set_cons_zero]
            have mm4 := MM4.out
            clear HW
            go_wp2_with fail
            have fin := HK.out (.int .i64 ((c1 - a1) * ((b1 - a1) * (b1 - a1) + (b2 - a2) * (b2 - a2)))) W (Below.refl _ _) rfl
            simp only [putAll, Act.put, List.setIfInBounds_toArray, List.set_cons_succ, List.set_cons_zero] at fin
            exact fin
          · rintro vs W K hc hvl hw hK
            obtain ⟨x0, x1, x2, x3, x4, x5, x6, x7, x8, x9, x10, x11, x12, x13, x14, x15, x16, x17, x18, x19, rfl⟩ := len20 hvl
            have HK := Lib.hid hK
            have HC := Lib.hid hc
            have HW := Lib.hid hw
            clear hK hc hw hvl
            obtain rfl : x12 = .int .i64 ((b1 - a1) * ((c1 - a1) * (c1 - a1) + (c2 - a2) * (c2 - a2))) := box_get (HW.out ⟨12, .data⟩ (by simp) rfl) rfl
            obtain rfl : x16 = .int .i64 ((c1 - a1) * ((b1 - a1) * (b1 - a1) + (b2 - a2) * (b2 - a2))) := box_get (HW.out ⟨16, .data⟩ (by simp) rfl) rfl
            simp only [putAll, Act.put, List.setIfInBounds_toArray, List.set_cons_succ, List.set_cons_zero]
            have mm6 := MM6.out
            clear HW
            go_wp2_with fail
            have fin := HK.out (.int .i64 (TY)) W (Below.refl _ _) rfl
            simp only [putAll, Act.put, List.setIfInBounds_toArray, List.set_cons_succ, List.set_cons_zero] at fin
            exact fin
          · rintro vs W K hc hvl hw hK
            obtain ⟨x0, x1, x2, x3, x4, x5, x6, x7, x8, x9, x10, x11, x12, x13, x14, x15, x16, x17, x18, x19, rfl⟩ := len20 hvl
            have HK := Lib.hid hK
            have HC := Lib.hid hc
            have HW := Lib.hid hw
            clear hK hc hw hvl
            obtain rfl : x8 = .int .i64 (TX) := box_get (HW.out ⟨8, .data⟩ (by simp) rfl) rfl
            simp only [putAll, Act.put, List.setIfInBounds_toArray, List.set_cons_succ, List.set_cons_zero]
            clear HW
            go_wp2_with fail
            have fin := HK.out (.int .i64 (TX)) W (Below.refl _ _) rfl
            simp only [putAll, Act.put, List.setIfInBounds_toArray, List.set_cons_succ, List.set_cons_zero] at fin
            exact fin
          · rintro vs W K hc hvl hw hK
            obtain ⟨x0, x1, x2, x3, x4, x5, x6, x7, x8, x9, x10, x11, x12, x13, x14, x15, x16, x17, x18, x19, rfl⟩ := len20 hvl
            have HK := Lib.hid hK
            have HC := Lib.hid hc
            have HW := Lib.hid hw
            clear hK hc hw hvl
            obtain rfl : x17 = .int .i64 (TY) := box_get (HW.out ⟨17, .data⟩ (by simp) rfl) rfl
            simp only [putAll, Act.put, List.setIfInBounds_toArray, List.set_cons_succ, List.set_cons_zero]
            clear HW
            go_wp2_with fail
            have fin := HK.out (.int .i64 (TY)) W (Below.refl _ _) rfl
            simp only [putAll, Act.put, List.setIfInBounds_toArray, List.set_cons_succ, List.set_cons_zero] at fin
            exact fin
        case fin =>
          rintro vs W hJ
          obtain ⟨x0, x1, x2, x3, x4, x5, x6, x7, x8, x9, x10, x11, x12, x13, x14, x15, x16, x17, x18, x19, rfl⟩ := len20 hJ.ln
          obtain rfl : x18 = .int .i64 (TX) := box_get (hJ.val 18 rfl) rfl
          obtain rfl : x19 = .int .i64 (TY) := box_get (hJ.val 19 rfl) rfl
          have HC := Lib.hid hJ.bl
          clear hJ
          simp only [putAll, Act.put, List.setIfInBounds_toArray, List.set_cons_succ, List.set_cons_zero]
          have rA5 := RA4.out.below HC.out RA4.out.lt
          have RR5 := Lib.hid (RR4.out.below HC.out RR4.out.lt)
          have BW4 := Lib.hid (Below.andThen BW3.out HC.out (Nat.le_refl _))
          have a0' := rA5.cell 0
          have a1' := rA5.cell 1
          simp only [List.getElem?_cons_zero, List.getElem?_cons_succ] at a0' a1'
          clear rA5
          go_wp2_with fail
          refine (HRD.out _).mono ?_
          rintro e w5 ⟨rfl, hb5⟩
          have BW5 := Lib.hid (Below.andThen BW4.out hb5 (Nat.le_refl _))
          have rT := RR5.out.below hb5 RR5.out.lt
          have RT := Lib.hid rT
          have t0 := rT.cell 0
          have t1 := rT.cell 1
          have t2 := rT.cell 2
          have t3 := rT.cell 3
          have g0 := frozen_of_row _ (w.heap.size + 1 + 1 + 1) 0 _ _ rT
          have g1 := frozen_of_row _ (w.heap.size + 1 + 1 + 1) 1 _ _ rT
          have g2 := frozen_of_row _ (w.heap.size + 1 + 1 + 1) 2 _ _ rT
          have g3 := frozen_of_row _ (w.heap.size + 1 + 1 + 1) 3 _ _ rT
          simp only [List.getElem?_cons_zero, List.getElem?_cons_succ] at t0 t1 t2 t3
          clear rT hb5 a0' a1'
          go_wp2_with fail
          have hr := (((RT.out.set 0 (.int .i64 X)).set 1 (.int .i64 Y)).set 2 (.int .i64 Dd)).set 3 (.int .i64 R)
          have v0 := hr.cell 0
          have v1 := hr.cell 1
          have v2 := hr.cell 2
          have v3 := hr.cell 3
          simp only [List.set_cons_zero, List.set_cons_succ, List.getElem?_cons_zero, List.getElem?_cons_succ] at v0 v1 v2 v3
          refine bodyPost_ret (v := .tuple #[cirV X Y Dd R, .bool true]) (by simp [results, Try.results61, go_sem, v0, v1, v2, v3, cirV]) rfl ⟨by rw [HT2.out, decide_eq_false HD0.out]; rfl, ?_⟩
          exact (((BW5.out.setCell (p := ⟨w.heap.size + 1 + 1 + 1, 0, none⟩) (by dsimp only; omega) _).setCell (p := ⟨w.heap.size + 1 + 1 + 1, 1, none⟩) (by dsimp only; omega) _).setCell (p := ⟨w.heap.size + 1 + 1 + 1, 2, none⟩) (by dsimp only; omega) _).setCell (p := ⟨w.heap.size + 1 + 1 + 1, 3, none⟩) (by dsimp only; omega) _
end Go.Proofs.Ytlemipnplgbckaa
namespace Go.Proofs.Ytlemipnplgbckaa
open Go.RowKit Go.Shelf
attribute [local go_sem] Oper.semAt_some
set_option maxRecDepth 100000 in
set_option maxHeartbeats 600000 in
theorem where_any (X Y D R p q : Int) (w : World) (h1 : Bd 1000000 X) (h2 : Bd 1000000 Y) (h3 : Bd 1000000 D) (h4 : Bd 20 p) (h5 : Bd 20 q) :
    Calls Try.prog 63 #[.agg #[.int .i64 X, .int .i64 Y, .int .i64 D, .int .i64 R], .agg #[.int .i64 p, .int .i64 q]] w fun e w' => e = .returned (.int .i64 (cmpI (apF X Y D (p, q)) R)) ∧ Below w.heap.size w w' := by
  have HAP := Lib.hid (fun (W : World) => apart_any X Y D R p q W h1 h2 h3 h4 h5)
  have HCM := Lib.hid (fun (W : World) => show Calls Try.prog 94 #[.int .i64 (apF X Y D (p, q)), .int .i64 R] W fun e w' => e = .returned (.int .i64 (cmpI (apF X Y D (p, q)) R)) ∧ Below W.heap.size W w' from (cmp_any (apF X Y D (p, q)) R W).mono fun e w' ⟨e1, e2⟩ => ⟨e1, by rw [e2]; exact Below.refl _ _⟩)
  generalize cmpI (apF X Y D (p, q)) R = C at *
  generalize apF X Y D (p, q) = A at *
  clear h1 h2 h3 h4 h5
  have rA : Row ((w.alloc (.cells #[.int .i64 X, .int .i64 Y, .int .i64 D, .int .i64 R] 30)).alloc (.cells #[.int .i64 p, .int .i64 q] 28)) w.heap.size 30 [.int .i64 X, .int .i64 Y, .int .i64 D, .int .i64 R] := (Row.new w 30 [.int .i64 X, .int .i64 Y, .int .i64 D, .int .i64 R]).below (Below.al (Below.refl _ _) (Nat.le_refl _) _) (by simp)
  have rB : Row ((w.alloc (.cells #[.int .i64 X, .int .i64 Y, .int .i64 D, .int .i64 R] 30)).alloc (.cells #[.int .i64 p, .int .i64 q] 28)) (w.heap.size + 1) 28 [.int .i64 p, .int .i64 q] := by
    have := Row.new (w.alloc (.cells #[.int .i64 X, .int .i64 Y, .int .i64 D, .int .i64 R] 30)) 28 [.int .i64 p, .int .i64 q]
    simpa using this
  have ba : Below w.heap.size w ((w.alloc (.cells #[.int .i64 X, .int .i64 Y, .int .i64 D, .int .i64 R] 30)).alloc (.cells #[.int .i64 p, .int .i64 q] 28)) := ((Below.refl w.heap.size w).alloc (Nat.le_refl _) _).alloc (by simp) _
  obtain ⟨V, hV⟩ : ∃ V, V = (w.alloc (.cells #[.int .i64 X, .int .i64 Y, .int .i64 D, .int .i64 R] 30)).alloc (.cells #[.int .i64 p, .int .i64 q] 28) := ⟨_, rfl⟩
  rw [← hV] at rA rB ba
  have RA := Lib.hid rA
  have RB := Lib.hid rB
  have BA := Lib.hid ba
  have HV := Lib.hid hV
  clear rA rB ba hV
  go_enter Try.func63, Try.ntmps63
  go_wp2_with fail
  rw [← HV.out]
  clear HV
  refine wp_region_box (by kernel_rfl) (by kernel_rfl) [5, 6, 7, 8, 9, 10, 4] [(fun v => v = .agg #[.int .i64 X, .int .i64 Y, .int .i64 D, .int .i64 R]), (fun v => v = .agg #[.int .i64 p, .int .i64 q]), (fun v => v = .int .i64 (A)), (fun v => v = .pointer (some ⟨w.heap.size, 3, none⟩)), (fun v => v = .int .i64 (R)), (fun v => v = .int .i64 (C)), (fun v => v = .int .i64 (C))] [none, none, none, none, none, none, none] [none, none, none, none, none, none, none] 7 rfl (by kernel_rfl) ?tr ⟨[undef, undef, undef, undef, undef, undef, .int .i64 0], by simp only [putAll, Act.put, List.setIfInBounds_toArray, List.set_cons_succ, List.set_cons_zero], rfl⟩ ?steps ?fin
  case tr =>
    rintro i v h
    rcases i with _ | _ | _ | _ | _ | _ | _ | i
    all_goals first | trivial | (exfalso; rcases h with h | h <;> simp at h)
  case steps =>
    simp only [boxSteps, Nat.reduceAdd, Nat.zero_add, List.getD_cons_succ, List.getD_cons_zero]
    refine ⟨?_, ?_, ?_, ?_, ?_, ?_, ?_, trivial⟩
    · rintro vs W K hc hvl hw hK
      obtain ⟨x0, x1, x2, x3, x4, x5, x6, rfl⟩ := len7 hvl
      have HK := Lib.hid hK
      have HC := Lib.hid hc
      have HW := Lib.hid hw
      clear hK hc hw hvl
      simp only [putAll, Act.put, List.setIfInBounds_toArray, List.set_cons_succ, List.set_cons_zero]
      have rr := RA.out.below HC.out RA.out.lt
      have k0 := rr.cell 0
      have k1 := rr.cell 1
      have k2 := rr.cell 2
      have k3 := rr.cell 3
      simp only [List.getElem?_cons_zero, List.getElem?_cons_succ] at k0 k1 k2 k3
      clear rr
      clear HW
      go_wp2_with fail
      have fin := HK.out (.agg #[.int .i64 X, .int .i64 Y, .int .i64 D, .int .i64 R]) W (Below.refl _ _) rfl
      simp only [putAll, Act.put, List.setIfInBounds_toArray, List.set_cons_succ, List.set_cons_zero] at fin
      exact fin
    · rintro vs W K hc hvl hw hK
      obtain ⟨x0, x1, x2, x3, x4, x5, x6, rfl⟩ := len7 hvl
      have HK := Lib.hid hK
      have HC := Lib.hid hc
      have HW := Lib.hid hw
      clear hK hc hw hvl
      simp only [putAll, Act.put, List.setIfInBounds_toArray, List.set_cons_succ, List.set_cons_zero]
      have rr := RB.out.below HC.out RB.out.lt
      have k0 := rr.cell 0
      have k1 := rr.cell 1
      simp only [List.getElem?_cons_zero, List.getElem?_cons_succ] at k0 k1
      clear rr
      clear HW
      go_wp2_with fail
      have fin := HK.out (.agg #[.int .i64 p, .int .i64 q]) W (Below.refl _ _) rfl
      simp only [putAll, Act.put, List.setIfInBounds_toArray, List.set_cons_succ, List.set_cons_zero] at fin
      exact fin
    · rintro vs W K hc hvl hw hK
      obtain ⟨x0, x1, x2, x3, x4, x5, x6, rfl⟩ := len7 hvl
      have HK := Lib.hid hK
      have HC := Lib.hid hc
      have HW := Lib.hid hw
      clear hK hc hw hvl
      obtain rfl : x0 = .agg #[.int .i64 X, .int .i64 Y, .int .i64 D, .int .i64 R] := box_get (HW.out ⟨0, .data⟩ (by simp) rfl) rfl
      obtain rfl : x1 = .agg #[.int .i64 p, .int .i64 q] := box_get (HW.out ⟨1, .data⟩ (by simp) rfl) rfl
      simp only [putAll, Act.put, List.setIfInBounds_toArray, List.set_cons_succ, List.set_cons_zero]
      clear HW
      go_wp2_with fail
      refine (HAP.out W).mono ?_
      rintro e W' ⟨rfl, hb'⟩
      have HB' := Lib.hid hb'
      clear hb'
      go_wp2_with fail
      have fin := HK.out (.int .i64 (A)) W' HB'.out rfl
      simp only [putAll, Act.put, List.setIfInBounds_toArray, List.set_cons_succ, List.set_cons_zero] at fin
      exact fin
    · rintro vs W K hc hvl hw hK
      obtain ⟨x0, x1, x2, x3, x4, x5, x6, rfl⟩ := len7 hvl
      have HK := Lib.hid hK
      have HC := Lib.hid hc
      have HW := Lib.hid hw
      clear hK hc hw hvl
      simp only [putAll, Act.put, List.setIfInBounds_toArray, List.set_cons_succ, List.set_cons_zero]
      clear HW
      go_wp2_with fail
      have fin := HK.out (.pointer (some ⟨w.heap.size, 3, none⟩)) W (Below.refl _ _) rfl
      simp only [putAll, Act.put, List.setIfInBounds_toArray, List.set_cons_succ, List.set_cons_zero] at fin
      exact fin
    · rintro vs W K hc hvl hw hK
      obtain ⟨x0, x1, x2, x3, x4, x5, x6, rfl⟩ := len7 hvl
      have HK := Lib.hid hK
      have HC := Lib.hid hc
      have HW := Lib.hid hw
      clear hK hc hw hvl
      obtain rfl : x3 = .pointer (some ⟨w.heap.size, 3, none⟩) := box_get (HW.out ⟨3, .data⟩ (by simp) rfl) rfl
      simp only [putAll, Act.put, List.setIfInBounds_toArray, List.set_cons_succ, List.set_cons_zero]
      have rr := RA.out.below HC.out RA.out.lt
      have k0 := rr.cell 0
      have k1 := rr.cell 1
      have k2 := rr.cell 2
      have k3 := rr.cell 3
      simp only [List.getElem?_cons_zero, List.getElem?_cons_succ] at k0 k1 k2 k3
      clear rr
      clear HW
      go_wp2_with fail
      have fin := HK.out (.int .i64 (R)) W (Below.refl _ _) rfl
      simp only [putAll, Act.put, List.setIfInBounds_toArray, List.set_cons_succ, List.set_cons_zero] at fin
      exact fin
    · rintro vs W K hc hvl hw hK
      obtain ⟨x0, x1, x2, x3, x4, x5, x6, rfl⟩ := len7 hvl
      have HK := Lib.hid hK
      have HC := Lib.hid hc
      have HW := Lib.hid hw
      clear hK hc hw hvl
      obtain rfl : x2 = .int .i64 (A) := box_get (HW.out ⟨2, .data⟩ (by simp) rfl) rfl
      obtain rfl : x4 = .int .i64 (R) := box_get (HW.out ⟨4, .data⟩ (by simp) rfl) rfl
      simp only [putAll, Act.put, List.setIfInBounds_toArray, List.set_cons_succ, List.set_cons_zero]
      clear HW
      go_wp2_with fail
      refine (HCM.out W).mono ?_
      rintro e W' ⟨rfl, hb'⟩
      have HB' := Lib.hid hb'
      clear hb'
      go_wp2_with fail
      have fin := HK.out (.int .i64 (C)) W' HB'.out rfl
      simp only [putAll, Act.put, List.setIfInBounds_toArray, List.set_cons_succ, List.set_cons_zero] at fin
      exact fin
    · rintro vs W K hc hvl hw hK
      obtain ⟨x0, x1, x2, x3, x4, x5, x6, rfl⟩ := len7 hvl
      have HK := Lib.hid hK
      have HC := Lib.hid hc
      have HW := Lib.hid hw
      clear hK hc hw hvl
      obtain rfl : x5 = .int .i64 (C) := box_get (HW.out ⟨5, .data⟩ (by simp) rfl) rfl
      simp only [putAll, Act.put, List.setIfInBounds_toArray, List.set_cons_succ, List.set_cons_zero]
      clear HW
      go_wp2_with fail
      have fin := HK.out (.int .i64 (C)) W (Below.refl _ _) rfl
      simp only [putAll, Act.put, List.setIfInBounds_toArray, List.set_cons_succ, List.set_cons_zero] at fin
      exact fin
  case fin =>
    rintro vs W hJ
    obtain ⟨x0, x1, x2, x3, x4, x5, x6, rfl⟩ := len7 hJ.ln
    obtain rfl : x6 = .int .i64 (C) := box_get (hJ.val 6 rfl) rfl
    have HC := Lib.hid hJ.bl
    clear hJ
    simp only [putAll, Act.put, List.setIfInBounds_toArray, List.set_cons_succ, List.set_cons_zero]
    go_wp2_with fail
    go_ret
    exact ⟨rfl, Below.andThen BA.out HC.out (Nat.le_refl _)⟩
end Go.Proofs.Ytlemipnplgbckaa
namespace Go.Proofs.Ytlemipnplgbckaa
open Go.RowKit Go.Shelf
attribute [local go_sem] Oper.semAt_some
end Go.Proofs.Ytlemipnplgbckaa
namespace Go.Proofs
open Go.Shelf
def Try.lays264b_ren : Go.Shelf.Ren := ⟨fun | 264 => 99 | n => n, fun | 53 => 120 | 46 => 77 | n => n, fun | n => n⟩
theorem Try.lays264b : Go.Proofs.Lays.n264 Try.prog Try.lays264b_ren := {
  mixed := by kernel_rfl
  f264 := Try.func99.trans (congrArg some (by kernel_rfl))
  t46 := Try.underlying77
  a46 := Try.isAgg77
  z46 := Try.sizeOf77
  v46 := Try.zeroValue77
  t53 := Try.underlying120
  a53 := Try.isAgg120
  z53 := Try.sizeOf120
  v53 := Try.zeroValue120 }
end Go.Proofs
namespace Go.Proofs.Ytlemipnplgbckaa
open Go.RowKit Go.Shelf Go.Lib
attribute [local go_sem] Oper.semAt_some
theorem mul64_any (x y : Nat) (hx : x < 18446744073709551616) (hy : y < 18446744073709551616) (w : World) :
    Calls Try.prog 99 #[.int .u64 x, .int .u64 y] w fun e w' => e = .returned (.tuple #[.int .u64 ((x * y / 18446744073709551616 : Nat) : Int), .int .u64 ((x * y % 18446744073709551616 : Nat) : Int)]) ∧ w' = w := Any.bits_Mul64 Try.lays264b x y hx hy w
set_option maxHeartbeats 400000 in
theorem isNaNu_any (a : Int) (w : World) : Calls Try.prog 105 #[.int .u64 a] w fun e w' => e = .returned (.bool false) ∧ w' = w := by
  have h : (a != a) = false := by simp
  go_enter Try.func105, Try.ntmps105
  go_wp2_with fail
  go_ret
  exact ⟨by simp, rfl⟩
set_option maxHeartbeats 400000 in
theorem cmpu_any (a b : Int) (w : World) : Calls Try.prog 101 #[.int .u64 a, .int .u64 b] w fun e w' => e = .returned (.int .i64 (cmpI a b)) ∧ w' = w := by
  go_enter Try.func101, Try.ntmps101
  go_wp2_with fail
  refine (isNaNu_any a w).mono ?_
  rintro e w1 ⟨rfl, rfl⟩
  go_wp2_with fail
  refine (isNaNu_any b w1).mono ?_
  rintro e w2 ⟨rfl, rfl⟩
  by_cases h1 : a < b
  · have d1 : decide (a < b) = true := decide_eq_true h1
    go_wp2_with fail
    go_ret
    exact ⟨ret_int (by unfold cmpI; (repeat' split) <;> omega), rfl⟩
  · have d1 : decide (a < b) = false := decide_eq_false h1
    by_cases h2 : b < a
    · have d2 : decide (b < a) = true := decide_eq_true h2
      go_wp2_with fail
      go_ret
      exact ⟨ret_int (by unfold cmpI; (repeat' split) <;> omega), rfl⟩
    · have d2 : decide (b < a) = false := decide_eq_false h2
      go_wp2_with fail
      go_ret
      exact ⟨ret_int (by unfold cmpI; (repeat' split) <;> omega), rfl⟩
set_option maxHeartbeats 400000 in
theorem or_any (x y : Int) (b : Nat) (w : World) (hx : w.cell? ⟨b, 0, none⟩ = some (.int .i64 x)) (hy : w.cell? ⟨b, 1, none⟩ = some (.int .i64 y)) :
    Calls Try.prog 100 #[.slice (some ⟨b, 0, none⟩) 2 2] w fun e w' => e = .returned (.int .i64 (if x ≠ 0 then x else y)) ∧ w' = w := by
  have HX := Lib.hid hx
  have HY := Lib.hid hy
  clear hx hy
  go_enter Try.func100, Try.ntmps100
  go_wp2_with fail
  go_loopw [8] (fun iv wr => ∃ k : Nat, k ≤ 2 ∧ iv = .int .i64 (k : Int) ∧ Hid ((1 ≤ k → x = 0) ∧ (k = 2 → y = 0)) ∧ wr = w) (fun iv _ => (2 - intOf iv).toNat)
  case atStart => exact ⟨0, by omega, rfl, Lib.hid ⟨by omega, by omega⟩, rfl⟩
  case round =>
    obtain ⟨k, hk, rfl, HK, rfl⟩ := hrel
    rcases (show k = 0 ∨ k = 1 ∨ k = 2 by omega) with rfl | rfl | rfl
    · have c0 := HX.out
      by_cases h : x = 0
      · have d : (x != 0) = false := by simp [h]
        have HZ := Lib.hid h
        clear h
        go_wp2_with fail
        exact ⟨⟨1, by omega, by simp, Lib.hid ⟨fun _ => HZ.out, by omega⟩, trivial⟩, by simp [intOf]⟩
      · have d : (x != 0) = true := by simp [h]
        go_wp2_with fail
        go_ret
        exact ⟨rfl, rfl⟩
    · have c0 := HY.out
      have h0 := HK.out.1 (by omega)
      by_cases h : y = 0
      · have d : (y != 0) = false := by simp [h]
        have HZ := Lib.hid h
        have HZ0 := Lib.hid h0
        clear h h0
        go_wp2_with fail
        exact ⟨⟨2, by omega, by simp, Lib.hid ⟨fun _ => HZ0.out, fun _ => HZ.out⟩, trivial⟩, by simp [intOf]⟩
      · have d : (y != 0) = true := by simp [h]
        have HZ0 := Lib.hid h0
        clear h0
        go_wp2_with fail
        go_ret
        exact ⟨rfl, rfl⟩
    · have h0 := Lib.hid (HK.out.1 (by omega))
      have h1 := Lib.hid (HK.out.2 rfl)
      go_wp2_with fail
      go_ret
      exact ⟨ret_int h1.out.symm, rfl⟩
theorem cmp_words (a b : Nat) : (if cmpI ((a / 18446744073709551616 : Nat) : Int) ((b / 18446744073709551616 : Nat) : Int) ≠ 0 then cmpI ((a / 18446744073709551616 : Nat) : Int) ((b / 18446744073709551616 : Nat) : Int) else cmpI ((a % 18446744073709551616 : Nat) : Int) ((b % 18446744073709551616 : Nat) : Int)) = cmpI (a : Int) (b : Int) := by
  unfold cmpI
  (repeat' split) <;> omega
/-- the comparison of two radii -/
def cmpC (D R D' R' : Int) : Int := cmpI (R * (D' * D')) (R' * (D * D))
set_option maxRecDepth 100000 in
set_option maxHeartbeats 1000000 in
theorem compare_any (X Y X' Y' : Int) (D R D' R' : Nat) (w : World) (h1 : D ≤ 1000000) (h2 : D' ≤ 1000000) (h3 : R ≤ 1000000000000) (h4 : R' ≤ 1000000000000) :
    Calls Try.prog 75 #[.agg #[.int .i64 X, .int .i64 Y, .int .i64 (D : Int), .int .i64 (R : Int)], .agg #[.int .i64 X', .int .i64 Y', .int .i64 (D' : Int), .int .i64 (R' : Int)]] w fun e w' => e = .returned (.int .i64 (cmpC D R D' R')) ∧ Below w.heap.size w w' := by
  have q1 : D * D ≤ 1000000000000 := Nat.mul_le_mul h1 h1
  have q2 : D' * D' ≤ 1000000000000 := Nat.mul_le_mul h2 h2
  obtain ⟨dd, hdd⟩ : ∃ dd : Nat, D * D = dd := ⟨_, rfl⟩
  obtain ⟨ee, hee⟩ : ∃ ee : Nat, D' * D' = ee := ⟨_, rfl⟩
  have hdi : (D : Int) * (D : Int) = (dd : Int) := by rw [← hdd]; simp
  have hei : (D' : Int) * (D' : Int) = (ee : Int) := by rw [← hee]; simp
  rw [hdd] at q1
  rw [hee] at q2
  have HM1 := Lib.hid (fun W => mul64_any R ee (by omega) (by omega) W)
  have HM2 := Lib.hid (fun W => mul64_any R' dd (by omega) (by omega) W)
  have hw := cmp_words (R * ee) (R' * dd)
  have hc : cmpC D R D' R' = cmpI ((R * ee : Nat) : Int) ((R' * dd : Nat) : Int) := by unfold cmpC; rw [hdi, hei]; simp
  rw [← hc] at hw
  obtain ⟨ph, hph⟩ : ∃ ph : Int, ((R * ee / 18446744073709551616 : Nat) : Int) = ph := ⟨_, rfl⟩
  obtain ⟨pl, hpl⟩ : ∃ ph : Int, ((R * ee % 18446744073709551616 : Nat) : Int) = ph := ⟨_, rfl⟩
  obtain ⟨qh, hqh⟩ : ∃ ph : Int, ((R' * dd / 18446744073709551616 : Nat) : Int) = ph := ⟨_, rfl⟩
  obtain ⟨ql, hql⟩ : ∃ ph : Int, ((R' * dd % 18446744073709551616 : Nat) : Int) = ph := ⟨_, rfl⟩
  rw [hph, hpl] at HM1 hw
  rw [hqh, hql] at HM2 hw
  obtain ⟨ch, hch⟩ : ∃ c, cmpI ph qh = c := ⟨_, rfl⟩
  obtain ⟨cl, hcl⟩ : ∃ c, cmpI pl ql = c := ⟨_, rfl⟩
  rw [hch, hcl] at hw
  have HOR := Lib.hid (fun (W : World) (b : Nat) (h1 : W.cell? ⟨b, 0, none⟩ = some (.int .i64 ch)) (h2 : W.cell? ⟨b, 1, none⟩ = some (.int .i64 cl)) => or_any ch cl b W h1 h2)
  rw [hw] at HOR
  have HCH := Lib.hid (fun (W : World) => cmpu_any ph qh W)
  have HCL := Lib.hid (fun (W : World) => cmpu_any pl ql W)
  rw [hch] at HCH
  rw [hcl] at HCL
  generalize cmpC (D : Int) (R : Int) (D' : Int) (R' : Int) = C at *
  clear hw hc hph hpl hqh hql hch hcl
  have u1 : IntKind.u64.wrap (R : Int) = (R : Int) := by rw [u64_wrap]; omega
  have u2 : IntKind.u64.wrap (R' : Int) = (R' : Int) := by rw [u64_wrap]; omega
  have i1 : IntKind.i64.wrap ((D : Int) * (D : Int)) = (dd : Int) := by rw [hdi]; exact i64_of _ (by omega) (by omega)
  have i2 : IntKind.i64.wrap ((D' : Int) * (D' : Int)) = (ee : Int) := by rw [hei]; exact i64_of _ (by omega) (by omega)
  have u3 : IntKind.u64.wrap (dd : Int) = (dd : Int) := by rw [u64_wrap]; omega
  have u4 : IntKind.u64.wrap (ee : Int) = (ee : Int) := by rw [u64_wrap]; omega
  clear hdd hee hdi hei
  clear h1 h2 h3 h4 q1 q2
  have ba : Below w.heap.size w ((w.alloc (.cells #[.int .i64 X, .int .i64 Y, .int .i64 (D : Int), .int .i64 (R : Int)] 30)).alloc (.cells #[.int .i64 X', .int .i64 Y', .int .i64 (D' : Int), .int .i64 (R' : Int)] 30)) := ((Below.refl w.heap.size w).alloc (Nat.le_refl _) _).alloc (by simp) _
  have BA := Lib.hid ba
  clear ba
  go_enter Try.func75, Try.ntmps75
  go_wp2_with fail
  refine (HM1.out _).mono ?_
  rintro e w1 ⟨rfl, rfl⟩
  clear HM1
  go_wp2_with fail
  refine (HM2.out _).mono ?_
  rintro e w1 ⟨rfl, rfl⟩
  clear HM2 u1 u2 u3 u4 i1 i2
  go_wp2_with fail
  refine (HCH.out _).mono ?_
  rintro e w1 ⟨rfl, rfl⟩
  go_wp2_with fail
  refine (HCL.out _).mono ?_
  rintro e w1 ⟨rfl, rfl⟩
  go_wp2_with fail
  refine (HOR.out _ _ (by simp [cell_al]) (by simp [cell_al])).mono ?_
  rintro e w1 ⟨rfl, rfl⟩
  go_wp2_with fail
  go_ret
  exact ⟨rfl, BA.out.alloc BA.out.size _⟩
end Go.Proofs.Ytlemipnplgbckaa
namespace Go.Proofs.Ytlemipnplgbckaa
open Go.RowKit Go.Shelf
attribute [local go_sem] Oper.semAt_some
def okP (p : Pt) : Bool := !(decide (min p.1 p.2 < -20) || decide (20 < max p.1 p.2))
theorem okP_iff {p : Pt} : okP p = true ↔ Bd 20 p.1 ∧ Bd 20 p.2 := by
  unfold okP Bd
  simp only [Bool.not_eq_true', Bool.or_eq_false_iff, decide_eq_false_iff_not]
  omega
set_option maxRecDepth 100000 in
set_option maxHeartbeats 600000 in
theorem checkPairs_any (ps : List Pt) (v : Value) (w : World) (hv : SlP w v ps) (hl : ps.length ≤ 1000000) :
    Calls Try.prog 53 #[v] w fun e w' => e = .returned (.int .i64 (if ps.all okP = true then 0 else 1)) ∧ Below w.heap.size w w' := by
  obtain ⟨a, c, rfl, hc, hs⟩ := hv
  have HS := Lib.hid hs
  obtain ⟨E, hE⟩ : ∃ E : Int, (if ps.all okP = true then (0 : Int) else 1) = E := ⟨_, rfl⟩
  rw [hE]
  have HE := Lib.hid hE
  clear hs hE
  go_enter Try.func53, Try.ntmps53
  go_wp2_with fail
  go_loopw [7] (fun iv wr => ∃ k : Nat, k ≤ ps.length ∧ iv = .int .i64 (k : Int) ∧ Hid ((ps.take k).all okP = true ∧ Below w.heap.size w wr)) (fun iv _ => (ps.length - intOf iv).toNat)
  case atStart => exact ⟨0, by omega, rfl, Lib.hid ⟨rfl, Below.refl _ _⟩⟩
  case round =>
    obtain ⟨k, hk, rfl, HB⟩ := hrel
    have kw : IntKind.i64.wrap ((k : Int) + 1) = ((k + 1 : Nat) : Int) := by rw [i64_of _ (by omega) (by omega)]; omega
    by_cases hlt : k < ps.length
    · have hd : decide ((k : Int) < (ps.length : Int)) = true := decide_eq_true (by omega)
      have hdn : decide (k < ps.length) = true := decide_eq_true hlt
      obtain ⟨g, o, rfl, hps⟩ : ∃ g o, a = some ⟨g, o, none⟩ ∧ PtsAt w g o ps := HS.out.resolve_left (fun e => by rw [e] at hlt; simp at hlt)
      have hp2 := hps.below HB.out.2 hps.lt
      have k0 := hp2.x k hlt
      have k1 := hp2.y k hlt
      have HT := Lib.hid (show (ps.take (k + 1)).all okP = ((ps.take k).all okP && okP ps[k]) by rw [List.take_succ_eq_append_getElem hlt, List.all_append]; simp)
      have HM := Lib.hid (show okP ps[k] = false → ps.all okP = false from fun h => by
        rw [List.all_eq_false]; exact ⟨_, List.getElem_mem hlt, by rw [h]; simp⟩)
      have HO := Lib.hid (okP_iff (p := ps[k]))
      clear hps hp2
      generalize ps[k] = pk at *
      obtain ⟨x, y⟩ := pk
      dsimp only at k0 k1
      have HOE := Lib.hid (show okP (x, y) = !(decide (min x y < -20) || decide (20 < max x y)) from rfl)
      obtain ⟨bad, hbad⟩ : ∃ bad, (!okP (x, y)) = bad := ⟨_, rfl⟩
      have HBAD := Lib.hid hbad
      clear hbad
      go_upto_region 4 with fail
      go_cut [24] (fun t wx => t = .bool bad ∧ Hid (Below w.heap.size w wx))
      case first =>
        go_wp2_with fail
        all_goals go_meet
        all_goals
          refine ⟨congrArg _ ?_, Lib.hid (HB.out.2.alloc HB.out.2.size _)⟩
          rw [← HBAD.out, HOE.out, Bool.not_not, Bool.eq_iff_iff]
          simp only [Bool.or_eq_true, decide_eq_true_eq]
          first | omega | (simp; omega)
      case rest =>
        obtain ⟨rfl, HBC⟩ := hcut
        cases bad with
        | true =>
          have HF := Lib.hid (HM.out (by simpa using HBAD.out))
          go_wp2_with fail
          go_ret
          exact ⟨ret_int (by rw [← HE.out, HF.out]; rfl), HBC.out⟩
        | false =>
          have HN := Lib.hid (show (ps.take (k + 1)).all okP = true by rw [HT.out, HB.out.1]; simpa using HBAD.out)
          go_wp2_with fail
          exact ⟨⟨k + 1, by omega, by simp, Lib.hid ⟨HN.out, HBC.out⟩⟩, by simp [intOf]; omega⟩
    · have hd : decide ((k : Int) < (ps.length : Int)) = false := decide_eq_false (by omega)
      have hdn : decide (k < ps.length) = false := decide_eq_false hlt
      obtain rfl : k = ps.length := by omega
      have HA := Lib.hid (show ps.all okP = true by have := HB.out.1; rwa [List.take_length] at this)
      go_wp2_with fail
      go_ret
      exact ⟨ret_int (by rw [← HE.out, HA.out]; rfl), HB.out.2⟩
end Go.Proofs.Ytlemipnplgbckaa
