import Derived.Test.YtlamppplnojpbaaJd
import Derived.Maps.OwnIn
import Derived.Maps.AppendAt
import Derived.RangeFuncNested
import Derived.RangeFuncBound
import Derived.RangeFuncCalls
import Derived.RangeFuncLeaves
import Derived.Shelf.Abstract
import Derived.Shelf.RegionOpen
import Derived.WalkKit
import Derived.OwnWalkIn
import Derived.TacticsInMore
import Derived.LoopNIn
import Derived.LoopIn
import Derived.WalkSpells
import Derived.WalkLawsBesides
import Derived.BigQuiet
import Derived.Deep.QuietTactic
import Derived.Lib.Hide
import Derived.Deep.RegionHeld3
import Derived.StillTailTactics
import Derived.Deep.LoopGhost
import Derived.Maps.OwnSet
import Derived.Lib.IndexAny
import Derived.Sort.QuietThIn
import Derived.Sort.QuietTacIn
import Derived.Sort.BigQuietIn
namespace Go.Proofs.Ytlamppplnojpbaa
open Go.RowKit Go.Shelf
attribute [local go_sem] Oper.semAt_some
/-- a fact on worlds that outlives new blocks, and what happens to blocks from B on that are no cells -/
def Lasts (B : Nat) (I : World → Prop) : Prop :=
  ∀ W W' row, I W → W.grownBy W' row → (∀ r, row = some r → B ≤ r ∧ ∃ o : Obj, W.heap[r]? = some o ∧ o.isCells = false) → I W'
theorem Lasts.put {B : Nat} {I : World → Prop} (h : Lasts B I) {W : World} {l : Nat} {o : Obj} (o' : Obj) (hi : I W) (hB : B ≤ l) (hl : W.heap[l]? = some o) (ho : o.isCells = false) : I (W.putObj l o') :=
  h W _ (some l) hi (grownBy_putObj' W l o') (fun r e => by cases e; exact ⟨hB, o, hl, ho⟩)
theorem Lasts.grow {B : Nat} {I : World → Prop} (h : Lasts B I) {W W' : World} (hi : I W) (hb : Below W.heap.size W W') : I W' :=
  h W W' none hi ⟨hb.os, hb.tape, hb.output, hb.size, fun k hk _ => hb.block k hk⟩ (fun r e => by cases e)
theorem Lasts.and {B : Nat} {I I' : World → Prop} (h : Lasts B I) (h' : Lasts B I') : Lasts B (fun W => I W ∧ I' W) := fun W W' row hi hg hr => ⟨h W W' row hi.1 hg hr, h' W W' row hi.2 hg hr⟩
theorem lasts_pure (B : Nat) (p : Prop) : Lasts B (fun _ => p) := fun _ _ _ hi _ _ => hi
theorem lasts_size (B m : Nat) : Lasts B (fun W => m ≤ W.heap.size) := fun _ _ _ hi hg _ => Nat.le_trans hi hg.size
theorem lasts_below (B n₀ : Nat) (w : World) (hB : n₀ ≤ B) (hw : n₀ ≤ w.heap.size) : Lasts B (fun W => Below n₀ w W) := fun _ _ _ hi hg hr =>
  hi.grown hg (Nat.le_trans hw hi.size) (fun k e => Nat.le_trans hB (hr k e).1)
theorem lasts_row (B g : Nat) (E : TypeId) (vs : List Value) : Lasts B (fun W => Row W g E vs) := fun W W' row hi hg hr => by
  show W'.heap[g]? = _
  rw [hg.block g (Row.lt hi) (fun e => by
    obtain ⟨_, o, ho, hc⟩ := hr g e.symm
    rw [show W.heap[g]? = _ from hi] at ho; cases ho; cases hc)]
  exact hi
theorem lasts_cell (B : Nat) (a : Addr) (v : Value) : Lasts B (fun W => W.cell? a = some v) := fun _ _ _ hi hg hr => cell_kept hi hg (fun r e => (hr r e).2)
theorem Lasts.own {B : Nat} {β : Type} {I : β → World → Prop} (h : ∀ s, Lasts B (I s)) : OwnFrom B I := fun s W W' row hi hg hr => h s W W' row hi hg hr
theorem rowL_len (ls f : Int) (k : Nat) : (rowL ls f k).length ≤ k := by
  unfold rowL
  exact Nat.le_trans (List.length_filter_le _ _) (by simp)
theorem flat_len (g : Nat → List (Int × Int)) (m : Nat) (h : ∀ a, (g a).length ≤ m) : ∀ i, ((List.range i).flatMap g).length ≤ i * m
  | 0 => by simp
  | i + 1 => by
    have ih := flat_len g m h i
    have := h i
    rw [List.range_succ, List.flatMap_append, List.length_append]
    simp only [List.flatMap_cons, List.flatMap_nil, List.append_nil]
    rw [Nat.add_mul, Nat.one_mul]; omega
theorem beforeL_len (ls : Int) (m i j : Nat) : (beforeL ls m i j).length ≤ i * m + j := by
  unfold beforeL
  rw [List.length_append]
  have h1 := flat_len (fun a : Nat => rowL ls (ls + (a : Int)) m) m (fun a => rowL_len _ _ _) i
  have h2 := rowL_len ls (ls + (i : Int)) j
  omega
theorem step_mem (ls : Int) (m i j : Nat) (hi : i < m) (hj : j < m) (hij : i ≠ j) : (ls + (i : Int), ls + (j : Int)) ∈ stepsL ls m := by
  unfold stepsL rowL
  rw [List.mem_flatMap]
  refine ⟨i, List.mem_range.2 hi, ?_⟩
  rw [List.mem_filter]
  refine ⟨List.mem_map.2 ⟨j, List.mem_range.2 hj, rfl⟩, ?_⟩
  rw [decide_eq_true_eq]
  dsimp only; omega
theorem mem_step {ls : Int} {m : Nat} {p : Int × Int} (h : p ∈ stepsL ls m) : ls ≤ p.1 ∧ p.1 < ls + m ∧ ls ≤ p.2 ∧ p.2 < ls + m ∧ p.1 ≠ p.2 := by
  unfold stepsL rowL at h
  rw [List.mem_flatMap] at h
  obtain ⟨i, hi, h⟩ := h
  rw [List.mem_filter] at h
  obtain ⟨h1, h2⟩ := h
  obtain ⟨j, hj, rfl⟩ := List.mem_map.1 h1
  have a := List.mem_range.1 hi
  have b := List.mem_range.1 hj
  rw [decide_eq_true_eq] at h2
  dsimp only at *
  omega
abbrev Stp (ls : Int) (m : Nat) := { p : Int × Int // p ∈ stepsL ls m }
def encS (p : Int × Int) : Value := .agg #[.int .i64 p.1, .int .i64 p.2]
theorem steps_stops (nf bl bj n : Nat) (hn : n ≤ 4) (p0 p1 p2 p3 ls : Int) (m : Nat) (hls : ls = -1 ∨ ls = 0) (hm : (n : Int) = ls + (m : Int)) (w : World) (hbl : bl < w.heap.size) (hbj : bj < w.heap.size)
    (rl : Row w bl 3 [.int .i64 ls]) (rj : Row w bj 80 [.int .i64 (n : Int), .int .i64 p0, .int .i64 p1, .int .i64 p2, .int .i64 p3]) :
    SeqStopsK Fence.wide nf Try.prog 70 #[.pointer (some ⟨bl, 0, none⟩), .pointer (some ⟨bj, 0, none⟩)] (fun x : Stp ls m => #[encS x.1]) (Keeps2 bl bj) (fun ys => ys.map Subtype.val = stepsL ls m) (fun _ => True) (m * m) w := fun l J Jx W hW hJ _ hY h0 => by
  refine (steps1_in nf l bl bj n hn p0 p1 p2 p3 ls m hls hm (fun pre W' => ∃ pf : List (Stp ls m), pf.map Subtype.val = pre ∧ J pf W') (fun W' => ∃ pf, Jx pf W') ?_ W (rl.below hW hbl) (rj.below hW hbj) ⟨[], rfl, h0⟩).mono ?_
  · rintro i j A hi hj hij ⟨pf, hp, hA⟩
    obtain ⟨fn, tmps, assign, body, hy, hR⟩ := hY pf ⟨(ls + (i : Int), ls + (j : Int)), step_mem ls m i j hi hj hij⟩ A hA (by
      have h1 := beforeL_len ls m i j
      rw [← hp, List.length_map] at h1
      have h2 : (i + 1) * m ≤ m * m := Nat.mul_le_mul_right m hi
      rw [Nat.add_mul, Nat.one_mul] at h2
      omega)
    refine ⟨fn, tmps, assign, body, hy, hR.mono ?_⟩
    rintro e W' (⟨he, h1, h2⟩ | ⟨he, h1⟩)
    · exact .inl ⟨he, ⟨_, by rw [List.map_append, hp, beforeL_ne _ _ _ _ hij]; rfl, h1⟩, h2⟩
    · exact .inr ⟨he, _, h1⟩
  · rintro e W' ⟨he, ⟨pf, hp, hj⟩ | ⟨pf, hj⟩⟩
    · exact ⟨he, .inl ⟨_, hp, hj⟩⟩
    · exact ⟨he, .inr ⟨_, trivial, hj⟩⟩
/-- how a round's body may be left -/
def roundEnds (B b Bs : Nat) (I : List (Int × Int) → World → Prop) (Ix : Code → World → Prop) (xs : List (Int × Int)) (W : World) : Exit → Act → World → Prop
  | .normal, _, W' => KeepsFrom B W W' ∧ Keeps2 b Bs W W' ∧ I xs W'
  | .ret, _, W' => KeepsFrom B W W' ∧ Ix .ret W'
  | .exit id, _, W' => KeepsFrom B W W' ∧ Ix (.exit id) W'
  | _, _, _ => False
/-- **a range over the steps of jugs** -/
theorem range_steps {g : Operand} {p0' : Tmp} {assign body : Code} {Q : Exit → Act → World → Prop} {a : Act} {w : World} (nf bl bj n : Nat) (hnf : 1 ≤ nf) (hn : n ≤ 4) (p0 p1 p2 p3 ls : Int) (m : Nat) (hls : ls = -1 ∨ ls = 0) (hm : (n : Int) = ls + (m : Int))
    (hg : a.eval g = .func (.func 70) #[] #[.pointer (some ⟨bl, 0, none⟩), .pointer (some ⟨bj, 0, none⟩)]) (hbl : bl < w.heap.size) (hbj : bj < w.heap.size)
    (rl : Row w bl 3 [.int .i64 ls]) (rj : Row w bj 80 [.int .i64 (n : Int), .int .i64 p0, .int .i64 p1, .int .i64 p2, .int .i64 p3])
    (I : List (Int × Int) → World → Prop) (Ix : Code → World → Prop) (hI : ∀ k, Lasts w.heap.size (I k)) (hIx : ∀ c, Lasts w.heap.size (Ix c)) (h0 : I [] w) (a₁ : Int × Int → Act)
    (hassign : ∀ (l : Nat) (x : Int × Int) (W : World) (K : Act → World → Prop), K (a₁ x) W →
      assign.wpIn (Fence.wide.inRound l) (nf - 1 - 1) Try.prog (Exit.then K (fun _ _ _ => False)) { tmps := a.tmps.setIfInBounds p0' (encS x), defers := [] } W)
    (hbody : ∀ (l : Nat) (x : Int × Int) (pre : List (Int × Int)) (W : World), x ∈ stepsL ls m → w.heap.size ≤ W.heap.size → I pre W → body.wpIn (Fence.wide.inRound l) (nf - 1 - 1) Try.prog (roundEnds w.heap.size bl bj I Ix (pre ++ [x]) W) (a₁ x) W)
    (hdone : ∀ (D : Nat) (W : World), w.heap.size ≤ D → I (stepsL ls m) W → W.heap[D]? = some (.deferred (some [])) → Q .normal { a with defers := { target := .collected D, args := #[] } :: a.defers } W)
    (hstop : ∀ (D : Nat) (c : Code) (W : World), w.heap.size ≤ D → Ix c W → W.heap[D]? = some (.deferred (some [])) → c.wpIn Fence.wide nf Try.prog Q { a with defers := { target := .collected D, args := #[] } :: a.defers } W) :
    (Code.rangeFunc g #[p0'] assign body).wpIn Fence.wide nf Try.prog Q a w := by
  refine wpIn_rangeFunc_ownH (F := Fence.wide) rfl hnf hg trivial (enters_of Try.func70 (by kernel_rfl) rfl) (steps_stops (nf - 1) bl bj n hn p0 p1 p2 p3 ls m hls hm w hbl hbj rl rj)
    (fun h k => Keeps2.trans h k) (fun W l o o' hl h _ _ => Keeps2.put (Nat.lt_of_lt_of_le hbl hl) (Nat.lt_of_lt_of_le hbj hl) W o') (Below.refl _ _) (fun _ => rfl)
    (fun pre W => w.heap.size ≤ W.heap.size ∧ I (pre.map Subtype.val) W) (fun c _ W => Ix c W)
    (Lasts.own (fun s => (lasts_size _ _).and (hI (s.map Subtype.val)))) (fun c => Lasts.own (fun _ => hIx c)) ⟨Nat.le_refl _, h0⟩
    (fun x a' _ => a' = a₁ x.1)
    ?_ ?assign ?body ?done ?stop
  case done =>
    rintro D xs W hD hxs ⟨_, hi⟩ hK
    rw [hxs] at hi
    exact hdone D W hD hi hK
  case stop =>
    rintro D c pre W hD _ hi hK
    exact hstop D c W hD hi hK
  case assign =>
    rintro l pre x W K ⟨hs, hi⟩ hK
    have h := hassign l x.1 W K (hK _ _ (KeepsFrom.refl _ _) (Keeps2.refl _ _ _) ⟨hs, hi⟩ rfl)
    have e : (#[p0'].zip #[encS x.1]).foldl (fun t (p, v) => t.setIfInBounds p v) a.tmps = a.tmps.setIfInBounds p0' (encS x.1) := by simp
    rw [e]; exact h
  case body =>
    rintro l pre x a' W hl hr ⟨hs, hi⟩ rfl hlen
    refine wpIn_mono (hbody l x.1 (pre.map Subtype.val) W x.2 hs hi) ?_
    rintro e a3 W3 hp
    cases e with
    | normal => exact ⟨hp.1, hp.2.1, Nat.le_trans hs hp.2.1.1, by rw [List.map_append]; exact hp.2.2⟩
    | ret => exact hp
    | exit id => exact hp
    | goto t => exact hp.elim
    | panic ch => exact hp.elim
    | outgrown => exact hp.elim
  · intro x a' s W W' row hs hg hr
    exact hs
end Go.Proofs.Ytlamppplnojpbaa
