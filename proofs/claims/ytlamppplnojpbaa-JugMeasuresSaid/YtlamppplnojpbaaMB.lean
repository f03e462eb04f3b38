import Derived.Test.YtlamppplnojpbaaMA
import Derived.Maps.OwnIn
import Derived.Maps.AppendAt
import Derived.RangeFuncNested
import Derived.RangeFuncBound
import Derived.RangeFuncCalls
import Derived.RangeFuncLeaves
import Derived.Shelf.Abstract
import Derived.Shelf.RegionOpen
import Derived.WalkKit
import Derived.OwnWalkIn
import Derived.TacticsInMore
import Derived.LoopNIn
import Derived.LoopIn
import Derived.WalkSpells
import Derived.WalkLawsBesides
import Derived.BigQuiet
import Derived.Deep.QuietTactic
import Derived.Lib.Hide
import Derived.Deep.RegionHeld3
import Derived.StillTailTactics
import Derived.Deep.LoopGhost
import Derived.Maps.OwnSet
import Derived.Lib.IndexAny
import Derived.Sort.QuietThIn
import Derived.Sort.QuietTacIn
import Derived.Sort.BigQuietIn
import Derived.DeepKeys4
import Derived.Maps.Views
import Derived.Maps.OwnOps
import Derived.Laws.AppendOwn
import Derived.WalkMore
namespace Go.Proofs.Ytlamppplnojpbaa
open Go.RowKit Go.Shelf
attribute [local go_sem] Oper.semAt_some
/-- a fact on worlds that outlives new blocks, and what happens to blocks from B on that are no cells -/
def Lasts (B : Nat) (I : World → Prop) : Prop :=
  ∀ W W' row, I W → W.grownBy W' row → (∀ r, row = some r → B ≤ r ∧ ∃ o : Obj, W.heap[r]? = some o ∧ o.isCells = false) → I W'
theorem Lasts.put {B : Nat} {I : World → Prop} (h : Lasts B I) {W : World} {l : Nat} {o : Obj} (o' : Obj) (hi : I W) (hB : B ≤ l) (hl : W.heap[l]? = some o) (ho : o.isCells = false) : I (W.putObj l o') :=
  h W _ (some l) hi (grownBy_putObj' W l o') (fun r e => by cases e; exact ⟨hB, o, hl, ho⟩)
theorem Lasts.grow {B : Nat} {I : World → Prop} (h : Lasts B I) {W W' : World} (hi : I W) (hb : Below W.heap.size W W') : I W' :=
  h W W' none hi ⟨hb.os, hb.tape, hb.output, hb.size, fun k hk _ => hb.block k hk⟩ (fun r e => by cases e)
theorem Lasts.and {B : Nat} {I I' : World → Prop} (h : Lasts B I) (h' : Lasts B I') : Lasts B (fun W => I W ∧ I' W) := fun W W' row hi hg hr => ⟨h W W' row hi.1 hg hr, h' W W' row hi.2 hg hr⟩
theorem lasts_pure (B : Nat) (p : Prop) : Lasts B (fun _ => p) := fun _ _ _ hi _ _ => hi
theorem lasts_size (B m : Nat) : Lasts B (fun W => m ≤ W.heap.size) := fun _ _ _ hi hg _ => Nat.le_trans hi hg.size
theorem lasts_below (B n₀ : Nat) (w : World) (hB : n₀ ≤ B) (hw : n₀ ≤ w.heap.size) : Lasts B (fun W => Below n₀ w W) := fun _ _ _ hi hg hr =>
  hi.grown hg (Nat.le_trans hw hi.size) (fun k e => Nat.le_trans hB (hr k e).1)
theorem lasts_row (B g : Nat) (E : TypeId) (vs : List Value) : Lasts B (fun W => Row W g E vs) := fun W W' row hi hg hr => by
  show W'.heap[g]? = _
  rw [hg.block g (Row.lt hi) (fun e => by
    obtain ⟨_, o, ho, hc⟩ := hr g e.symm
    rw [show W.heap[g]? = _ from hi] at ho; cases ho; cases hc)]
  exact hi
theorem lasts_cell (B : Nat) (a : Addr) (v : Value) : Lasts B (fun W => W.cell? a = some v) := fun _ _ _ hi hg hr => cell_kept hi hg (fun r e => (hr r e).2)
theorem Lasts.own {B : Nat} {β : Type} {I : β → World → Prop} (h : ∀ s, Lasts B (I s)) : OwnFrom B I := fun s W W' row hi hg hr => h s W W' row hi hg hr
theorem rowL_len (ls f : Int) (k : Nat) : (rowL ls f k).length ≤ k := by
  unfold rowL
  exact Nat.le_trans (List.length_filter_le _ _) (by simp)
theorem flat_len (g : Nat → List (Int × Int)) (m : Nat) (h : ∀ a, (g a).length ≤ m) : ∀ i, ((List.range i).flatMap g).length ≤ i * m
  | 0 => by simp
  | i + 1 => by
    have ih := flat_len g m h i
    have := h i
    rw [List.range_succ, List.flatMap_append, List.length_append]
    simp only [List.flatMap_cons, List.flatMap_nil, List.append_nil]
    rw [Nat.add_mul, Nat.one_mul]; omega
theorem beforeL_len (ls : Int) (m i j : Nat) : (beforeL ls m i j).length ≤ i * m + j := by
  unfold beforeL
  rw [List.length_append]
  have h1 := flat_len (fun a : Nat => rowL ls (ls + (a : Int)) m) m (fun a => rowL_len _ _ _) i
  have h2 := rowL_len ls (ls + (i : Int)) j
  omega
theorem step_mem (ls : Int) (m i j : Nat) (hi : i < m) (hj : j < m) (hij : i ≠ j) : (ls + (i : Int), ls + (j : Int)) ∈ stepsL ls m := by
  unfold stepsL rowL
  rw [List.mem_flatMap]
  refine ⟨i, List.mem_range.2 hi, ?_⟩
  rw [List.mem_filter]
  refine ⟨List.mem_map.2 ⟨j, List.mem_range.2 hj, rfl⟩, ?_⟩
  rw [decide_eq_true_eq]
  dsimp only; omega
theorem mem_step {ls : Int} {m : Nat} {p : Int × Int} (h : p ∈ stepsL ls m) : ls ≤ p.1 ∧ p.1 < ls + m ∧ ls ≤ p.2 ∧ p.2 < ls + m ∧ p.1 ≠ p.2 := by
  unfold stepsL rowL at h
  rw [List.mem_flatMap] at h
  obtain ⟨i, hi, h⟩ := h
  rw [List.mem_filter] at h
  obtain ⟨h1, h2⟩ := h
  obtain ⟨j, hj, rfl⟩ := List.mem_map.1 h1
  have a := List.mem_range.1 hi
  have b := List.mem_range.1 hj
  rw [decide_eq_true_eq] at h2
  dsimp only at *
  omega
abbrev Stp (ls : Int) (m : Nat) := { p : Int × Int // p ∈ stepsL ls m }
def encS (p : Int × Int) : Value := .agg #[.int .i64 p.1, .int .i64 p.2]
theorem steps_stops (nf bl bj n : Nat) (hn : n ≤ 4) (p0 p1 p2 p3 ls : Int) (m : Nat) (hls : ls = -1 ∨ ls = 0) (hm : (n : Int) = ls + (m : Int)) (w : World) (hbl : bl < w.heap.size) (hbj : bj < w.heap.size)
    (rl : Row w bl 3 [.int .i64 ls]) (rj : Row w bj 80 [.int .i64 (n : Int), .int .i64 p0, .int .i64 p1, .int .i64 p2, .int .i64 p3]) :
    SeqStopsK Fence.wide nf Try.prog 70 #[.pointer (some ⟨bl, 0, none⟩), .pointer (some ⟨bj, 0, none⟩)] (fun x : Stp ls m => #[encS x.1]) (Keeps2 bl bj) (fun ys => ys.map Subtype.val = stepsL ls m) (fun _ => True) (m * m) w := fun l J Jx W hW hJ _ hY h0 => by
  refine (steps1_in nf l bl bj n hn p0 p1 p2 p3 ls m hls hm (fun pre W' => ∃ pf : List (Stp ls m), pf.map Subtype.val = pre ∧ J pf W') (fun W' => ∃ pf, Jx pf W') ?_ W (rl.below hW hbl) (rj.below hW hbj) ⟨[], rfl, h0⟩).mono ?_
  · rintro i j A hi hj hij ⟨pf, hp, hA⟩
    obtain ⟨fn, tmps, assign, body, hy, hR⟩ := hY pf ⟨(ls + (i : Int), ls + (j : Int)), step_mem ls m i j hi hj hij⟩ A hA (by
      have h1 := beforeL_len ls m i j
      rw [← hp, List.length_map] at h1
      have h2 : (i + 1) * m ≤ m * m := Nat.mul_le_mul_right m hi
      rw [Nat.add_mul, Nat.one_mul] at h2
      omega)
    refine ⟨fn, tmps, assign, body, hy, hR.mono ?_⟩
    rintro e W' (⟨he, h1, h2⟩ | ⟨he, h1⟩)
    · exact .inl ⟨he, ⟨_, by rw [List.map_append, hp, beforeL_ne _ _ _ _ hij]; rfl, h1⟩, h2⟩
    · exact .inr ⟨he, _, h1⟩
  · rintro e W' ⟨he, ⟨pf, hp, hj⟩ | ⟨pf, hj⟩⟩
    · exact ⟨he, .inl ⟨_, hp, hj⟩⟩
    · exact ⟨he, .inr ⟨_, trivial, hj⟩⟩
/-- how a round's body may be left -/
def roundEnds (B b Bs : Nat) (I : List (Int × Int) → World → Prop) (Ix : Code → World → Prop) (xs : List (Int × Int)) (W : World) : Exit → Act → World → Prop
  | .normal, _, W' => KeepsFrom B W W' ∧ Keeps2 b Bs W W' ∧ I xs W'
  | .ret, _, W' => KeepsFrom B W W' ∧ Ix .ret W'
  | .exit id, _, W' => KeepsFrom B W W' ∧ Ix (.exit id) W'
  | _, _, _ => False
/-- **a range over the steps of jugs** -/
theorem range_steps {g : Operand} {p0' : Tmp} {assign body : Code} {Q : Exit → Act → World → Prop} {a : Act} {w : World} (nf bl bj n : Nat) (hnf : 1 ≤ nf) (hn : n ≤ 4) (p0 p1 p2 p3 ls : Int) (m : Nat) (hls : ls = -1 ∨ ls = 0) (hm : (n : Int) = ls + (m : Int))
    (hg : a.eval g = .func (.func 70) #[] #[.pointer (some ⟨bl, 0, none⟩), .pointer (some ⟨bj, 0, none⟩)]) (hbl : bl < w.heap.size) (hbj : bj < w.heap.size)
    (rl : Row w bl 3 [.int .i64 ls]) (rj : Row w bj 80 [.int .i64 (n : Int), .int .i64 p0, .int .i64 p1, .int .i64 p2, .int .i64 p3])
    (I : List (Int × Int) → World → Prop) (Ix : Code → World → Prop) (hI : ∀ k, Lasts w.heap.size (I k)) (hIx : ∀ c, Lasts w.heap.size (Ix c)) (h0 : I [] w) (a₁ : Int × Int → Act)
    (hassign : ∀ (l : Nat) (x : Int × Int) (W : World) (K : Act → World → Prop), K (a₁ x) W →
      assign.wpIn (Fence.wide.inRound l) (nf - 1 - 1) Try.prog (Exit.then K (fun _ _ _ => False)) { tmps := a.tmps.setIfInBounds p0' (encS x), defers := [] } W)
    (hbody : ∀ (l : Nat) (x : Int × Int) (pre : List (Int × Int)) (W : World), x ∈ stepsL ls m → w.heap.size ≤ W.heap.size → I pre W → body.wpIn (Fence.wide.inRound l) (nf - 1 - 1) Try.prog (roundEnds w.heap.size bl bj I Ix (pre ++ [x]) W) (a₁ x) W)
    (hdone : ∀ (D : Nat) (W : World), w.heap.size ≤ D → I (stepsL ls m) W → W.heap[D]? = some (.deferred (some [])) → Q .normal { a with defers := { target := .collected D, args := #[] } :: a.defers } W)
    (hstop : ∀ (D : Nat) (c : Code) (W : World), w.heap.size ≤ D → Ix c W → W.heap[D]? = some (.deferred (some [])) → c.wpIn Fence.wide nf Try.prog Q { a with defers := { target := .collected D, args := #[] } :: a.defers } W) :
    (Code.rangeFunc g #[p0'] assign body).wpIn Fence.wide nf Try.prog Q a w := by
  refine wpIn_rangeFunc_ownH (F := Fence.wide) rfl hnf hg trivial (enters_of Try.func70 (by kernel_rfl) rfl) (steps_stops (nf - 1) bl bj n hn p0 p1 p2 p3 ls m hls hm w hbl hbj rl rj)
    (fun h k => Keeps2.trans h k) (fun W l o o' hl h _ _ => Keeps2.put (Nat.lt_of_lt_of_le hbl hl) (Nat.lt_of_lt_of_le hbj hl) W o') (Below.refl _ _) (fun _ => rfl)
    (fun pre W => w.heap.size ≤ W.heap.size ∧ I (pre.map Subtype.val) W) (fun c _ W => Ix c W)
    (Lasts.own (fun s => (lasts_size _ _).and (hI (s.map Subtype.val)))) (fun c => Lasts.own (fun _ => hIx c)) ⟨Nat.le_refl _, h0⟩
    (fun x a' _ => a' = a₁ x.1)
    ?_ ?assign ?body ?done ?stop
  case done =>
    rintro D xs W hD hxs ⟨_, hi⟩ hK
    rw [hxs] at hi
    exact hdone D W hD hi hK
  case stop =>
    rintro D c pre W hD _ hi hK
    exact hstop D c W hD hi hK
  case assign =>
    rintro l pre x W K ⟨hs, hi⟩ hK
    have h := hassign l x.1 W K (hK _ _ (KeepsFrom.refl _ _) (Keeps2.refl _ _ _) ⟨hs, hi⟩ rfl)
    have e : (#[p0'].zip #[encS x.1]).foldl (fun t (p, v) => t.setIfInBounds p v) a.tmps = a.tmps.setIfInBounds p0' (encS x.1) := by simp
    rw [e]; exact h
  case body =>
    rintro l pre x a' W hl hr ⟨hs, hi⟩ rfl hlen
    refine wpIn_mono (hbody l x.1 (pre.map Subtype.val) W x.2 hs hi) ?_
    rintro e a3 W3 hp
    cases e with
    | normal => exact ⟨hp.1, hp.2.1, Nat.le_trans hs hp.2.1.1, by rw [List.map_append]; exact hp.2.2⟩
    | ret => exact hp
    | exit id => exact hp
    | goto t => exact hp.elim
    | panic ch => exact hp.elim
    | outgrown => exact hp.elim
  · intro x a' s W W' row hs hg hr
    exact hs
end Go.Proofs.Ytlamppplnojpbaa
namespace Go.Proofs.Ytlamppplnojpbaa
open Go.RowKit Go.Shelf
attribute [local go_sem] Oper.semAt_some
theorem laidJ : laidOutB Try.prog = true := by kernel_rfl
theorem row77 : (77 : TypeId) < Try.prog.types.size := of_decide_eq_true (by kernel_rfl)
theorem wide77 : (match Try.prog.underlying 77 with | some (.array _ _) | some (.struct _) => true | _ => false) = true := by rw [Try.underlying77]
set_option maxRecDepth 100000 in
theorem law77 : Maps.Keyed Try.prog 77 := Maps.Keyed.of_law (deep_law_laid laidJ (m := 2) (by omega) row77 (by kernel_rfl) wide77)
theorem cells77 : Try.prog.cellsOf 77 = 4 := by kernel_rfl
theorem cells3 : Try.prog.cellsOf 3 = 1 := by kernel_rfl
theorem wfJ {x : Int} (h : Bd 100 x) : (Lit.int .i64 x).wf = true := WalkArith.wf_i64 (by have := h.1; have := h.2; omega)
theorem lit3 (d : Nat) {x : Int} (h : Bd 100 x) : Try.prog.keyLits (d + 1) 3 [.int .i64 x] = some [.int .i64 x] := by
  unfold Program.keyLits
  rw [Try.underlying3]
  dsimp only
  rw [if_pos ⟨rfl, wfJ h⟩]
theorem keyType77 : Try.prog.keyType 77 = true := by kernel_rfl
theorem types_size : Try.prog.types.size + 1 = 126 := by kernel_rfl
set_option maxRecDepth 100000 in
/-- a filling is a key -/
theorem keyF (f0 f1 f2 f3 : Int) (h0 : Bd 100 f0) (h1 : Bd 100 f1) (h2 : Bd 100 f2) (h3 : Bd 100 f3) : ∃ kl, keyOf Try.prog 77 (.agg #[.int .i64 f0, .int .i64 f1, .int .i64 f2, .int .i64 f3]) = some kl := by
  unfold keyOf
  rw [Try.underlying77]
  dsimp only
  rw [types_size]
  have e : Try.prog.keyLits 126 77 (Value.agg #[.int .i64 f0, .int .i64 f1, .int .i64 f2, .int .i64 f3]).cells.toList = some [.int .i64 f0, .int .i64 f1, .int .i64 f2, .int .i64 f3] := by
    unfold Program.keyLits
    rw [Try.underlying77]
    dsimp only
    have e0 := lit3 124 h0
    have e1 := lit3 124 h1
    have e2 := lit3 124 h2
    have e3 := lit3 124 h3
    rw [show (Value.agg #[.int .i64 f0, .int .i64 f1, .int .i64 f2, .int .i64 f3]).cells.toList = [.int .i64 f0, .int .i64 f1, .int .i64 f2, .int .i64 f3] from rfl, cells77, cells3]
    rw [if_pos (show [Value.int .i64 f0, .int .i64 f1, .int .i64 f2, .int .i64 f3].length = 4 from rfl)]
    simp only [show List.range 4 = [0, 1, 2, 3] from rfl, List.mapM_cons, List.mapM_nil, Nat.mul_one, List.drop_zero, List.drop_succ_cons, List.take_succ_cons, List.take_zero, e0, e1, e2, e3]
    rfl
  rw [e, keyType77]
  have hf : Value.formed Try.prog 77 (.agg #[.int .i64 f0, .int .i64 f1, .int .i64 f2, .int .i64 f3]) = true := by
    simp [Value.formed, Try.underlying77, cells77]
  rw [hf]
  exact ⟨_, rfl⟩
/-- an element of the map is read as itself -/
def heldE (v : Value) : Option (DataW Value × List MemPlace) := some (.held v, [])
def Fok (F : List Int) : Prop := F.length = 4 ∧ ∀ i, i < 4 → Bd 100 (F.getD i 0)
theorem Fok.key {F : List Int} (h : Fok F) : ∃ kl, keyOf Try.prog 77 (aggI F) = some kl := by
  obtain ⟨h1, h2⟩ := h
  obtain ⟨f0, f1, f2, f3, rfl⟩ := agg4 F h1
  exact keyF f0 f1 f2 f3 (h2 0 (by omega)) (h2 1 (by omega)) (h2 2 (by omega)) (h2 3 (by omega))
theorem aggI_inj {F G : List Int} (h : aggI F = aggI G) : F = G := by
  unfold aggI at h
  have h1 := congrArg (fun v : Value => match v with | .agg cs => cs.toList | _ => []) h
  simp only at h1
  have : ∀ (F G : List Int), F.map encI = G.map encI → F = G := by
    intro F
    induction F with
    | nil => intro G h; cases G with
      | nil => rfl
      | cons _ _ => simp at h
    | cons a F ih => intro G h; cases G with
      | nil => simp at h
      | cons b G =>
        simp only [List.map_cons, List.cons.injEq] at h
        obtain ⟨h1, h2⟩ := h
        unfold encI at h1
        cases h1
        rw [ih G h2]
  exact this F G (by simpa using h1)
/-- block b is a map of at most n entries that holds S -/
def SeenAt (W : World) (b n : Nat) (S : List Int → Option Value) : Prop :=
  ∃ D : DataW Value, W.ownsMap Try.prog 77 heldE b n D ∧ (∀ F, Fok F → ∀ kl, keyOf Try.prog 77 (aggI F) = some kl → Maps.has D kl = (S F).isSome ∧ ∀ v zd, S F = some v → D.atKey kl zd = .held v) ∧ Maps.size D = n ∧ ∀ kl, Maps.has D kl = true → ∃ F, Fok F ∧ keyOf Try.prog 77 (aggI F) = some kl
theorem SeenAt.kept {W W' : World} {b n : Nat} {S : List Int → Option Value} {row : Option Nat} (h : SeenAt W b n S) (hg : W.grownBy W' row) (hne : some b ≠ row) : SeenAt W' b n S := by
  obtain ⟨D, h1, h2⟩ := h
  exact ⟨D, h1.kept hg hne, h2⟩
theorem SeenAt.lt {W : World} {b n : Nat} {S : List Int → Option Value} (h : SeenAt W b n S) : b < W.heap.size := by
  obtain ⟨D, h1, _⟩ := h
  exact h1.lt
theorem SeenAt.grow {W W' : World} {b n : Nat} {S : List Int → Option Value} (h : SeenAt W b n S) (hb : Below W.heap.size W W') : SeenAt W' b n S :=
  h.kept (row := none) ⟨hb.os, hb.tape, hb.output, hb.size, fun k hk _ => hb.block k hk⟩ (by simp)
theorem seen_made (W : World) : SeenAt (W.alloc (.map #[] 0)) W.heap.size 0 (fun _ => none) :=
  ⟨_, World.ownsMap_made W Try.prog 77 heldE, fun F _ kl _ => ⟨rfl, fun v zd h => by cases h⟩, rfl, fun kl h => by cases h⟩
/-- what a new entry is read as where there is none -/
def zeroC : Value := .agg #[.int .i64 0, .int .i64 0, .int .i64 0, .int .i64 0, .int .i64 0, .int .i64 0, .int .i64 0]
theorem zero94 (w : World) : (zeroValue 94).run Try.prog w = .ok zeroC w := by kernel_rfl
theorem SeenAt.look {W : World} {b n : Nat} {S : List Int → Option Value} (h : SeenAt W b n S) {F : List Int} (hF : Fok F) :
    (Instr.lookup 74 (.map (some b)) (aggI F) true).run Try.prog W = .ok (.tuple #[(S F).getD zeroC, .bool (S F).isSome]) W := by
  obtain ⟨D, h1, h2⟩ := h
  obtain ⟨kl, hk⟩ := hF.key
  obtain ⟨v, ps, hrun, hv⟩ := h1.look_ok law77 Try.underlying74 (zero94 W) (zd := .held zeroC) (zp := []) rfl hk
  obtain ⟨g1, g2⟩ := h2.1 F hF kl hk
  rw [hrun, g1]
  cases hS : S F with
  | none =>
    rw [hS] at g1
    rw [Maps.atKey_of_not_has g1] at hv
    unfold heldE at hv
    simp only [Option.some.injEq, Prod.mk.injEq, DataW.held.injEq] at hv
    rw [hv.1]; rfl
  | some u =>
    rw [g2 u _ hS] at hv
    unfold heldE at hv
    simp only [Option.some.injEq, Prod.mk.injEq, DataW.held.injEq] at hv
    rw [hv.1]; rfl
theorem SeenAt.look1 {W : World} {b n : Nat} {S : List Int → Option Value} (h : SeenAt W b n S) {F : List Int} (hF : Fok F) :
    (Instr.lookup 74 (.map (some b)) (aggI F) false).run Try.prog W = .ok ((S F).getD zeroC) W := by
  obtain ⟨D, h1, h2⟩ := h
  obtain ⟨kl, hk⟩ := hF.key
  obtain ⟨v, ps, hrun, hv⟩ := h1.lookup law77 Try.underlying74 (zero94 W) (zd := .held zeroC) (zp := []) rfl hk
  obtain ⟨g1, g2⟩ := h2.1 F hF kl hk
  rw [hrun]
  cases hS : S F with
  | none =>
    rw [hS] at g1
    rw [Maps.atKey_of_not_has g1] at hv
    unfold heldE at hv
    simp only [Option.some.injEq, Prod.mk.injEq, DataW.held.injEq] at hv
    rw [hv.1]; rfl
  | some u =>
    rw [g2 u _ hS] at hv
    unfold heldE at hv
    simp only [Option.some.injEq, Prod.mk.injEq, DataW.held.injEq] at hv
    rw [hv.1]; rfl
def putS (S : List Int → Option Value) (F : List Int) (v : Value) : List Int → Option Value := fun G => if G = F then some v else S G
theorem SeenAt.put {W : World} {b n : Nat} {S : List Int → Option Value} (h : SeenAt W b n S) {F : List Int} (hF : Fok F) (v : Value) (hn : n < maxLen) (hnew : S F = none) :
    ∃ W', (Instr.mapUpdate 74 (.map (some b)) (aggI F) v).run Try.prog W = .ok () W' ∧ SeenAt W' b (n + 1) (putS S F v) ∧ W.grownBy W' (some b) := by
  obtain ⟨D, h1, h2⟩ := h
  obtain ⟨kl, hk⟩ := hF.key
  obtain ⟨W', hrun, ho, hg⟩ := h1.update law77 Try.underlying74 hn (d := .held v) (ps := []) hk rfl
  obtain ⟨h2, hsz, hks⟩ := h2
  have hti : Maps.Tidy D := by obtain ⟨es, e, hp, _⟩ := h1.entries law77; exact ⟨es, e, hp⟩
  have hhas : Maps.has D kl = false := by rw [(h2 F hF kl hk).1, hnew]; rfl
  refine ⟨W', hrun, ⟨_, ho, fun G hG kl' hk' => ?_, by rw [Maps.size_put hti, hhas, hsz]; rfl, fun kl' hk' => ?_⟩, hg⟩
  rotate_left
  · by_cases e : kl' = kl
    · subst e; exact ⟨F, hF, hk⟩
    · rw [Maps.has_put_other e] at hk'
      exact hks kl' hk'
  unfold putS
  by_cases e : G = F
  · subst e
    rw [hk] at hk'
    cases hk'
    rw [if_pos rfl]
    exact ⟨Maps.has_put_same h1.isMap (law77.key hk) _, fun u zd hu => by cases hu; exact Maps.atKey_put_same h1.isMap (law77.key hk) _ _⟩
  · have hne : kl' ≠ kl := fun ee => e (aggI_inj (law77.inj (hk'.trans (by rw [ee])) hk))
    rw [if_neg e]
    obtain ⟨g1, g2⟩ := h2 G hG kl' hk'
    exact ⟨by rw [Maps.has_put_other hne]; exact g1, fun u zd hu => by rw [Maps.atKey_put_other hne]; exact g2 u zd hu⟩
end Go.Proofs.Ytlamppplnojpbaa
namespace Go.Proofs.Ytlamppplnojpbaa
open Go.RowKit Go.Shelf
attribute [local go_sem] Oper.semAt_some
/-! a queue: a slice that may begin anywhere in its block -/
section
variable {P : Program} (w : World)
theorem run_append_room_off (t ty e : TypeId) (i : TypeInfo) (ht : P.underlying t = some (.slice e)) (hi : P.info? e = some i)
    (g off sLen sCap : Nat) (cur : Array Value) (hg : w.heap[g]? = some (.cells cur e (0, 0)))
    (a : Addr) (m c : Nat) (news : List Value) (hl : news.length = m * i.size) (hnews : ∀ j u, news[j]? = some u → w.cell? (a.add j) = some u) (h1 : ∀ u ∈ news, u.oneCell' = true)
    (hroom : sLen + m ≤ sCap) (hfit : off + sLen * i.size + news.length ≤ cur.size) :
    (Builtin.append_ #[t, t] ty #[.slice (some ⟨g, off, none⟩) sLen sCap, .slice (some a) m c]).run P w =
      .ok (.slice (some ⟨g, off, none⟩) (sLen + m) sCap) (w.setRow g (cur.toList.take (off + sLen * i.size) ++ news ++ cur.toList.drop (off + sLen * i.size + news.length)).toArray) := by
  have hf := run_firstCells_some (P := P) w i.size m a m c news hl hnews
  have hst := run_storeCells_at P g (off + sLen * i.size) e news 0 cur w hg (by simpa using hfit) h1
  simp only [Nat.add_zero] at hst
  simp [Builtin.append_, run_underlying ht, sizeOf, typeInfo, hi, Builtin.lenOf, hroom, hf, Addr.add_lit, hst]
end
/-- v is a queue of fillings, in a block from base on -/
def QAt (W : World) (base : Nat) (v : Value) (qs : List (List Int)) : Prop :=
  (∀ q ∈ qs, q.length = 4) ∧ ∃ g off cap cur, v = .slice (some ⟨g, off, none⟩) qs.length cap ∧ base ≤ g ∧ W.heap[g]? = some (.cells cur 77 (0, 0)) ∧ qs.length ≤ cap ∧ cap ≤ maxLen ∧ off + cap * 4 ≤ cur.size ∧ (cur.toList.drop off).take (qs.length * 4) = qs.flatten.map encI
theorem flat4 : ∀ (qs : List (List Int)), (∀ q ∈ qs, q.length = 4) → qs.flatten.length = qs.length * 4
  | [], _ => rfl
  | q :: qs, h => by
    have h1 := h q (by simp)
    have h2 := flat4 qs (fun x hx => h x (List.mem_cons_of_mem _ hx))
    rw [List.flatten_cons, List.length_append, h1, h2, List.length_cons]; omega
theorem QAt.kept {W W' : World} {base : Nat} {v : Value} {qs : List (List Int)} (h : QAt W base v qs) {row : Option Nat} (hg : W.grownBy W' row) (hne : v.ownBlock ≠ row) : QAt W' base v qs := by
  obtain ⟨h4, g, off, cap, cur, rfl, hb, hh, r⟩ := h
  exact ⟨h4, g, off, cap, cur, rfl, hb, by rw [hg.block g (Array.getElem?_eq_some_iff.1 hh).1 (fun e => hne (by simp [Value.ownBlock, e]))]; exact hh, r⟩
/-- the first of the queue -/
theorem QAt.head {W : World} {base : Nat} {v : Value} {q : List Int} {qs : List (List Int)} (h : QAt W base v (q :: qs)) : ∃ g off cap, v = .slice (some ⟨g, off, none⟩) (qs.length + 1) cap ∧ qs.length + 1 ≤ cap ∧ ∀ i (hi : i < q.length), W.cell? ⟨g, off + i, none⟩ = some (.int .i64 q[i]) := by
  obtain ⟨h4, g, off, cap, cur, rfl, hb, hh, hc, hm, hs, ht⟩ := h
  refine ⟨g, off, cap, rfl, hc, fun i hi => ?_⟩
  rw [cell_of_row W g (off + i) _ _ _ hh]
  have hq := h4 q (by simp)
  have e := congrArg (fun l => l[i]?) ht
  simp only [List.flatten_cons, List.map_append] at e
  rw [List.getElem?_take, if_pos (by rw [List.length_cons]; omega), List.getElem?_drop, List.getElem?_append_left (by rw [List.length_map]; exact hi), List.getElem?_map, List.getElem?_eq_getElem hi] at e
  simpa [encI] using e
/-- without the first one -/
theorem QAt.tail {W : World} {base g off cap : Nat} {q : List Int} {qs : List (List Int)} (h : QAt W base (.slice (some ⟨g, off, none⟩) (qs.length + 1) cap) (q :: qs)) : QAt W base (.slice (some ⟨g, off + 4, none⟩) qs.length (cap - 1)) qs := by
  obtain ⟨h4, g', off', cap', cur, he, hb, hh, hc, hm, hs, ht⟩ := h
  cases he
  rw [List.length_cons] at hc ht
  refine ⟨fun x hx => h4 x (List.mem_cons_of_mem _ hx), g, off + 4, cap - 1, cur, rfl, hb, hh, by omega, by omega, by omega, ?_⟩
  have hq := h4 q (by simp)
  have e := congrArg (List.drop 4) ht
  rw [List.drop_take, List.drop_drop, List.flatten_cons, List.map_append, List.drop_append_of_le_length (by rw [List.length_map]; omega), List.drop_of_length_le (l := q.map encI) (by rw [List.length_map]; omega), List.nil_append, show (qs.length + 1) * 4 - 4 = qs.length * 4 by omega] at e
  exact e
theorem take_mid (A B C : List Value) (n : Nat) (h : n = A.length + B.length) : (A ++ (B ++ C)).take n = A ++ B := by
  subst h
  rw [List.take_length_add_append, List.take_left]
theorem info77 : (Try.prog.info? 77).map (fun i => (i.zero, i.size, i.bytes)) = some (some (.agg #[.int .i64 0, .int .i64 0, .int .i64 0, .int .i64 0]), 4, 32) := by kernel_rfl
/-- one more at the end -/
theorem QAt.push {W : World} {base : Nat} {v : Value} {qs : List (List Int)} (h : QAt W base v qs) (f : List Int) (hf : f.length = 4) (a : Addr) (c : Nat) (ha : ∀ j u, (f.map encI)[j]? = some u → W.cell? (a.add j) = some u) (hq : qs.length + 1 ≤ 1000000) (hbase : base ≤ W.heap.size) (ty : TypeId) :
    ∃ v' W', (Builtin.append_ #[102, 102] ty #[v, .slice (some a) 1 c]).run Try.prog W = .ok v' W' ∧ QAt W' base v' (qs ++ [f]) ∧ W.grownBy W' v.ownBlock ∧ (v'.ownBlock = v.ownBlock ∨ ∃ g, v'.ownBlock = some g ∧ W.heap.size ≤ g) := by
  obtain ⟨i0, hi, hz0, hz1, hz2⟩ := info_parts info77
  obtain ⟨h4, g, off, cap, cur, rfl, hb, hh, hc, hm, hs, ht⟩ := h
  have hfl : (f.map encI).length = 1 * i0.size := by rw [List.length_map, hz1]; omega
  have hfl4 : (f.map encI).length = 4 := by rw [List.length_map]; exact hf
  have h4' : ∀ q ∈ qs ++ [f], q.length = 4 := fun q hq => by
    rcases List.mem_append.1 hq with h | h
    · exact h4 q h
    · rw [List.mem_singleton.1 h]; exact hf
  have hone : ∀ u ∈ f.map encI, u.oneCell' = true := fun u hu => by
    obtain ⟨x, _, rfl⟩ := List.mem_map.1 hu
    simp [encI, Value.oneCell']
  have hflat : (qs ++ [f]).flatten.map encI = qs.flatten.map encI ++ f.map encI := by simp
  have hql : (qs.flatten.map encI).length = qs.length * 4 := by rw [List.length_map, flat4 qs h4]
  by_cases hroom : qs.length + 1 ≤ cap
  · have hr := run_append_room_off (P := Try.prog) W 102 ty 77 i0 Try.underlying102 hi g off qs.length cap cur hh a 1 c (f.map encI) hfl ha hone hroom (by rw [hz1, hfl4]; omega)
    refine ⟨_, _, hr, ⟨h4', g, off, cap, _, by rw [List.length_append]; rfl, hb, setRow_heap W g cur _ 77 _ hh, by rw [List.length_append]; exact hroom, hm, ?_, ?_⟩, ⟨rfl, rfl, rfl, by simp, fun k _ hk => setRow_other W g k _ (fun e => hk (by simp [Value.ownBlock, e]))⟩, .inl rfl⟩
    · simp only [List.size_toArray, List.length_append, List.length_take, List.length_drop, Array.length_toList, hfl4, hz1]
      omega
    · rw [List.length_append, List.length_singleton, hflat, ← ht, hz1]
      have hct : cur.toList.length = cur.size := Array.length_toList
      have hl1 : ((cur.toList.drop off).take (qs.length * 4)).length = qs.length * 4 := by rw [ht, hql]
      have e : ((cur.toList.take (off + qs.length * 4) ++ f.map encI ++ cur.toList.drop (off + qs.length * 4 + (f.map encI).length)).toArray.toList).drop off = (cur.toList.drop off).take (qs.length * 4) ++ (f.map encI ++ cur.toList.drop (off + qs.length * 4 + (f.map encI).length)) := by
        rw [List.append_assoc, List.drop_append_of_le_length (by rw [List.length_take, hct]; omega), List.drop_take, show off + qs.length * 4 - off = qs.length * 4 by omega]
      rw [e]
      exact take_mid _ _ _ _ (by rw [hl1, hfl4]; omega)
  · have holds : ∀ j u, (qs.flatten.map encI)[j]? = some u → W.cell? ((⟨g, off, none⟩ : Addr).add j) = some u := by
      intro j u hj
      rw [Go.WideShapes.add_plain, cell_of_row W g (off + j) _ _ _ hh]
      rw [← ht, List.getElem?_take, List.getElem?_drop] at hj
      split at hj
      · simpa using hj
      · cases hj
    have hr := run_append_grow (P := Try.prog) W 102 ty 77 i0 (.agg #[.int .i64 0, .int .i64 0, .int .i64 0, .int .i64 0]) Try.underlying102 hi hz0 ⟨g, off, none⟩ qs.length cap (qs.flatten.map encI) (by rw [hql, hz1]) holds a 1 c (f.map encI) hfl ha (by omega) (by omega) (growslice_fits (by omega) (by rw [hz2]; omega))
    have hge := grownCap_ge W (qs.length + 1) cap 77
    have hcm : grownCap W (qs.length + 1) cap 77 ≤ maxLen := grownCap_le_maxLen W (qs.length + 1) cap 77 (by unfold maxLen; omega)
    refine ⟨_, _, hr, ⟨h4', W.heap.size, 0, _, _, by rw [List.length_append]; rfl, hbase, heap_alloc_new W.drew _, by rw [List.length_append]; exact hge, hcm, ?_, ?_⟩, ⟨rfl, rfl, rfl, by simp, fun k hk _ => Below.heap_alloc W.drew _ k hk⟩, .inr ⟨_, rfl, Nat.le_refl _⟩⟩
    · simp only [Array.size_append, List.size_toArray, size_zeroCells, hql, hfl4]
      show 0 + _ ≤ qs.length * 4 + 4 + (grownCap W (qs.length + 1) cap 77 - (qs.length + 1)) * 4
      omega
    · rw [List.length_append, List.length_singleton, hflat, List.drop_zero]
      simp only [Array.toList_append]
      rw [List.take_append_of_le_length (by rw [List.length_append, hql, hfl4]; omega), List.take_of_length_le (by rw [List.length_append, hql, hfl4]; omega)]
end Go.Proofs.Ytlamppplnojpbaa
namespace Go.Proofs.Ytlamppplnojpbaa
open Go.RowKit Go.Shelf
attribute [local go_sem] Oper.semAt_some
section
variable {P : Program} {w : World} {ops : Array Oper} {rest : List Oper} {o : Oper} {a : Act} {Q : Exit → Act → World → Prop}
/-- an entry of a map that is written out -/
theorem wpList_insert (hg : o.guard = none) (m x v : Operand) (t : TypeId) (hop : o.op = Op.insert t m x v) (vm vx vv : Value) (hm : a.eval m = vm) (hx : a.eval x = vx) (hv : a.eval v = vv)
    (w' : World) (hr : (Instr.mapUpdate t vm vx vv).run P w = .ok () w') (h : wpList P ops Q rest (a.put o.dst undef) w') : wpList P ops Q (o :: rest) a w := by
  refine wpList_plain hg fun K' hK' => ?_
  unfold Oper.wp
  simp [execOp, hop, hm, hx, hv, hr, Result.andThen]
  exact hK' _ _ h
end
theorem search_start (w : World) (f0 f1 f2 f3 : Int) (hF : Fok [f0, f1, f2, f3]) (fd fg : Value) : ∃ V,
    (Instr.mapUpdate 74 (.map (some (w.heap.size + 1 + 1 + 1 + 1))) (.agg #[.int .i64 f0, .int .i64 f1, .int .i64 f2, .int .i64 f3]) (.agg #[.int .i64 0, .int .i64 0, .int .i64 0, .int .i64 0, .int .i64 0, .int .i64 0, .int .i64 0])).run Try.prog
      (((((w.alloc (.cells #[.int .i64 f0, .int .i64 f1, .int .i64 f2, .int .i64 f3] 77)).alloc (.cells #[fd] 86)).alloc (.cells #[fg] 91)).alloc (.cells #[.map none, .int .i64 0, .int .i64 0, .int .i64 0, .int .i64 0, .bool false] 89)).alloc (.map #[] 0)) = .ok () V ∧
    SeenAt V (w.heap.size + 1 + 1 + 1 + 1) 1 (putS (fun _ => none) [f0, f1, f2, f3] zeroC) ∧ Row V w.heap.size 77 [.int .i64 f0, .int .i64 f1, .int .i64 f2, .int .i64 f3] ∧ Row V (w.heap.size + 1) 86 [fd] ∧ Row V (w.heap.size + 1 + 1) 91 [fg] ∧
    Row V (w.heap.size + 1 + 1 + 1) 89 [.map none, .int .i64 0, .int .i64 0, .int .i64 0, .int .i64 0, .bool false] ∧ Below w.heap.size w V ∧ w.heap.size + 1 + 1 + 1 + 1 + 1 ≤ V.heap.size := by
  have r0 := Row.new w 77 [.int .i64 f0, .int .i64 f1, .int .i64 f2, .int .i64 f3]
  have b0 := (Below.refl w.heap.size w).alloc (Nat.le_refl _) (.cells #[.int .i64 f0, .int .i64 f1, .int .i64 f2, .int .i64 f3] 77)
  have z0 := size_al w (.cells #[.int .i64 f0, .int .i64 f1, .int .i64 f2, .int .i64 f3] 77)
  generalize hW0 : w.alloc (.cells #[.int .i64 f0, .int .i64 f1, .int .i64 f2, .int .i64 f3] 77) = W0 at *
  have r1 := Row.new W0 86 [fd]
  have b1 := (Below.refl W0.heap.size W0).alloc (Nat.le_refl _) (.cells #[fd] 86)
  have z1 := size_al W0 (.cells #[fd] 86)
  generalize hW1 : W0.alloc (.cells #[fd] 86) = W1 at *
  have r2 := Row.new W1 91 [fg]
  have b2 := (Below.refl W1.heap.size W1).alloc (Nat.le_refl _) (.cells #[fg] 91)
  have z2 := size_al W1 (.cells #[fg] 91)
  generalize hW2 : W1.alloc (.cells #[fg] 91) = W2 at *
  have r3 := Row.new W2 89 [.map none, .int .i64 0, .int .i64 0, .int .i64 0, .int .i64 0, .bool false]
  have b3 := (Below.refl W2.heap.size W2).alloc (Nat.le_refl _) (.cells #[.map none, .int .i64 0, .int .i64 0, .int .i64 0, .int .i64 0, .bool false] 89)
  have z3 := size_al W2 (.cells #[.map none, .int .i64 0, .int .i64 0, .int .i64 0, .int .i64 0, .bool false] 89)
  generalize hW3 : W2.alloc (.cells #[.map none, .int .i64 0, .int .i64 0, .int .i64 0, .int .i64 0, .bool false] 89) = W3 at *
  have b4 := (Below.refl W3.heap.size W3).alloc (Nat.le_refl _) (.map #[] 0)
  have z4 := size_al W3 (.map #[] 0)
  have hm := seen_made W3
  generalize hW4 : W3.alloc (.map #[] 0) = W4 at *
  obtain ⟨V, hr, hs, hg⟩ := hm.put hF zeroC (by unfold maxLen; omega) rfl
  have eB : W3.heap.size = w.heap.size + 1 + 1 + 1 + 1 := by rw [z3, z2, z1, z0]
  have keep : ∀ (g : Nat) (E : TypeId) (vs : List Value), g < W3.heap.size → Row W4 g E vs → Row V g E vs := fun g E vs hlt h => by
    show V.heap[g]? = _
    rw [hg.block g (by omega) (fun e => by cases e; omega)]
    exact h
  rw [eB] at hr hs
  have bw : Below w.heap.size w W4 := Below.andThen (Below.andThen (Below.andThen (Below.andThen b0 b1 (by omega)) b2 (by omega)) b3 (by omega)) b4 (by omega)
  refine ⟨V, hr, hs, keep _ _ _ (by omega) ((((r0.below b1 (by omega)).below b2 (by omega)).below b3 (by omega)).below b4 (by omega)), ?_, ?_, ?_, bw.grown hg (by omega) (fun k e => by cases e; omega), by have := hg.size; omega⟩
  · rw [← z0]; exact keep _ _ _ (by omega) (((r1.below b2 (by omega)).below b3 (by omega)).below b4 (by omega))
  · rw [← z0, ← z1]; exact keep _ _ _ (by omega) ((r2.below b3 (by omega)).below b4 (by omega))
  · rw [← z0, ← z1, ← z2]; exact keep _ _ _ (by omega) (r3.below b4 (by omega))
theorem lasts_seen (B b n : Nat) (S : List Int → Option Value) (hb : b < B) : Lasts B (fun W => SeenAt W b n S) := fun _ _ _ hi hg hr =>
  hi.kept hg (fun e => by have := (hr b e.symm).1; omega)
theorem lasts_queue (B base : Nat) (v : Value) (qs : List (List Int)) : Lasts B (fun W => QAt W base v qs) := fun W W' row hi hg hr => by
  refine hi.kept hg (fun e => ?_)
  obtain ⟨_, g, off, cap, cur, rfl, _, hh, _⟩ := hi
  obtain ⟨_, o, ho, hc⟩ := hr g (by rw [← e]; rfl)
  rw [hh] at ho; cases ho; cases hc
theorem rowL_pre (ls f : Int) (j k : Nat) (h : j ≤ k) : rowL ls f j <+: rowL ls f k := by
  obtain ⟨d, rfl⟩ : ∃ d, k = j + d := ⟨k - j, by omega⟩
  unfold rowL
  rw [List.range_add, List.map_append, List.filter_append]
  exact List.prefix_append _ _
theorem beforeL_pre (ls : Int) (m i j : Nat) (hi : i < m) (hj : j ≤ m) : beforeL ls m i j <+: stepsL ls m := by
  unfold beforeL stepsL
  obtain ⟨d, rfl⟩ : ∃ d, m = i + 1 + d := ⟨m - i - 1, by omega⟩
  rw [List.range_add, List.flatMap_append, List.range_succ, List.flatMap_append]
  obtain ⟨t, ht⟩ := rowL_pre ls (ls + (i : Int)) j (i + 1 + d) hj
  refine ⟨t ++ (List.map (fun x => i + 1 + x) (List.range d)).flatMap (fun a : Nat => rowL ls (ls + (a : Int)) (i + 1 + d)), ?_⟩
  simp only [List.flatMap_cons, List.flatMap_nil, List.append_nil, List.append_assoc]
  rw [← List.append_assoc (rowL ls (ls + (i : Int)) j) t, ht]
theorem steps_stops2 (nf bl bj n : Nat) (hn : n ≤ 4) (p0 p1 p2 p3 ls : Int) (m : Nat) (hls : ls = -1 ∨ ls = 0) (hm : (n : Int) = ls + (m : Int)) (w : World) (hbl : bl < w.heap.size) (hbj : bj < w.heap.size)
    (rl : Row w bl 3 [.int .i64 ls]) (rj : Row w bj 80 [.int .i64 (n : Int), .int .i64 p0, .int .i64 p1, .int .i64 p2, .int .i64 p3]) :
    SeqStopsK Fence.wide nf Try.prog 70 #[.pointer (some ⟨bl, 0, none⟩), .pointer (some ⟨bj, 0, none⟩)] (fun x : Stp ls m => #[encS x.1]) (Keeps2 bl bj) (fun ys => ys.map Subtype.val = stepsL ls m) (fun ys => ys.map Subtype.val <+: stepsL ls m) (m * m) w := fun l J Jx W hW hJ _ hY h0 => by
  refine (steps1_in nf l bl bj n hn p0 p1 p2 p3 ls m hls hm (fun pre W' => ∃ pf : List (Stp ls m), pf.map Subtype.val = pre ∧ J pf W') (fun W' => ∃ pf, pf.map Subtype.val <+: stepsL ls m ∧ Jx pf W') ?_ W (rl.below hW hbl) (rj.below hW hbj) ⟨[], rfl, h0⟩).mono ?_
  · rintro i j A hi hj hij ⟨pf, hp, hA⟩
    obtain ⟨fn, tmps, assign, body, hy, hR⟩ := hY pf ⟨(ls + (i : Int), ls + (j : Int)), step_mem ls m i j hi hj hij⟩ A hA (by
      have h1 := beforeL_len ls m i j
      rw [← hp, List.length_map] at h1
      have h2 : (i + 1) * m ≤ m * m := Nat.mul_le_mul_right m hi
      rw [Nat.add_mul, Nat.one_mul] at h2
      omega)
    have hnx : (pf ++ [(⟨(ls + (i : Int), ls + (j : Int)), step_mem ls m i j hi hj hij⟩ : Stp ls m)]).map Subtype.val = beforeL ls m i (j + 1) := by rw [List.map_append, hp, beforeL_ne _ _ _ _ hij]; rfl
    refine ⟨fn, tmps, assign, body, hy, hR.mono ?_⟩
    rintro e W' (⟨he, h1, h2⟩ | ⟨he, h1⟩)
    · exact .inl ⟨he, ⟨_, hnx, h1⟩, h2⟩
    · exact .inr ⟨he, _, by rw [hnx]; exact beforeL_pre ls m i (j + 1) hi hj, h1⟩
  · rintro e W' ⟨he, ⟨pf, hp, hj⟩ | ⟨pf, hp, hj⟩⟩
    · exact ⟨he, .inl ⟨_, hp, hj⟩⟩
    · exact ⟨he, .inr ⟨_, hp, hj⟩⟩
/-- how a round's body may be left -/
def roundEnds2 (B b Bs : Nat) (I : List (Int × Int) → World → Prop) (Ix : Code → List (Int × Int) → World → Prop) (xs : List (Int × Int)) (W : World) : Exit → Act → World → Prop
  | .normal, _, W' => KeepsFrom B W W' ∧ Keeps2 b Bs W W' ∧ I xs W'
  | .ret, _, W' => KeepsFrom B W W' ∧ Ix .ret xs W'
  | .exit id, _, W' => KeepsFrom B W W' ∧ Ix (.exit id) xs W'
  | _, _, _ => False
/-- a range over the steps, where what is assigned makes a block -/
theorem range_steps2 {g : Operand} {p0' : Tmp} {assign body : Code} {Q : Exit → Act → World → Prop} {a : Act} {w : World} (nf bl bj n : Nat) (hnf : 1 ≤ nf) (hn : n ≤ 4) (p0 p1 p2 p3 ls : Int) (m : Nat) (hls : ls = -1 ∨ ls = 0) (hm : (n : Int) = ls + (m : Int))
    (hg : a.eval g = .func (.func 70) #[] #[.pointer (some ⟨bl, 0, none⟩), .pointer (some ⟨bj, 0, none⟩)]) (hbl : bl < w.heap.size) (hbj : bj < w.heap.size)
    (rl : Row w bl 3 [.int .i64 ls]) (rj : Row w bj 80 [.int .i64 (n : Int), .int .i64 p0, .int .i64 p1, .int .i64 p2, .int .i64 p3])
    (I : List (Int × Int) → World → Prop) (Ix : Code → List (Int × Int) → World → Prop) (hI : ∀ k, Lasts w.heap.size (I k)) (hIx : ∀ c k, Lasts w.heap.size (Ix c k)) (h0 : I [] w) (R : Int × Int → Act → World → Prop) (hR : ∀ x a', Lasts w.heap.size (R x a'))
    (hassign : ∀ (l : Nat) (x : Int × Int) (W : World) (K : Act → World → Prop), w.heap.size ≤ W.heap.size → (∀ a' W', R x a' W' → Below W.heap.size W W' → K a' W') →
      assign.wpIn (Fence.wide.inRound l) (nf - 1 - 1) Try.prog (Exit.then K (fun _ _ _ => False)) { tmps := a.tmps.setIfInBounds p0' (encS x), defers := [] } W)
    (hbody : ∀ (l : Nat) (x : Int × Int) (pre : List (Int × Int)) (a' : Act) (W : World), x ∈ stepsL ls m → pre.length < m * m → w.heap.size ≤ W.heap.size → I pre W → R x a' W → body.wpIn (Fence.wide.inRound l) (nf - 1 - 1) Try.prog (roundEnds2 w.heap.size bl bj I Ix (pre ++ [x]) W) a' W)
    (hdone : ∀ (D : Nat) (W : World), w.heap.size ≤ D → I (stepsL ls m) W → W.heap[D]? = some (.deferred (some [])) → Q .normal { a with defers := { target := .collected D, args := #[] } :: a.defers } W)
    (hstop : ∀ (D : Nat) (c : Code) (pre : List (Int × Int)) (W : World), w.heap.size ≤ D → pre <+: stepsL ls m → Ix c pre W → W.heap[D]? = some (.deferred (some [])) → c.wpIn Fence.wide nf Try.prog Q { a with defers := { target := .collected D, args := #[] } :: a.defers } W) :
    (Code.rangeFunc g #[p0'] assign body).wpIn Fence.wide nf Try.prog Q a w := by
  refine wpIn_rangeFunc_ownH (F := Fence.wide) rfl hnf hg trivial (enters_of Try.func70 (by kernel_rfl) rfl) (steps_stops2 (nf - 1) bl bj n hn p0 p1 p2 p3 ls m hls hm w hbl hbj rl rj)
    (fun h k => Keeps2.trans h k) (fun W l o o' hl h _ _ => Keeps2.put (Nat.lt_of_lt_of_le hbl hl) (Nat.lt_of_lt_of_le hbj hl) W o') (Below.refl _ _) (fun _ => rfl)
    (fun pre W => w.heap.size ≤ W.heap.size ∧ I (pre.map Subtype.val) W) (fun c pre W => Ix c (pre.map Subtype.val) W)
    (Lasts.own (fun s => (lasts_size _ _).and (hI (s.map Subtype.val)))) (fun c => Lasts.own (fun s => hIx c (s.map Subtype.val))) ⟨Nat.le_refl _, h0⟩
    (fun x a' W => R x.1 a' W)
    ?_ ?assign ?body ?done ?stop
  case done =>
    rintro D xs W hD hxs ⟨_, hi⟩ hK
    rw [hxs] at hi
    exact hdone D W hD hi hK
  case stop =>
    rintro D c pre W hD hp hi hK
    exact hstop D c _ W hD hp hi hK
  case assign =>
    rintro l pre x W K ⟨hs, hi⟩ hK
    have h := hassign l x.1 W K hs (fun a' W' hr hb => hK a' W' (KeepsFrom.of_grownBy (row := none) ⟨hb.os, hb.tape, hb.output, hb.size, fun k hk _ => hb.block k hk⟩ (by simp)) (Keeps2.of_below hb (Nat.lt_of_lt_of_le hbl hs) (Nat.lt_of_lt_of_le hbj hs)) ⟨Nat.le_trans hs hb.size, (hI _).grow hi hb⟩ hr)
    have e : (#[p0'].zip #[encS x.1]).foldl (fun t (p, v) => t.setIfInBounds p v) a.tmps = a.tmps.setIfInBounds p0' (encS x.1) := by simp
    rw [e]; exact h
  case body =>
    rintro l pre x a' W hl hr ⟨hs, hi⟩ ha' hlen
    refine wpIn_mono (hbody l x.1 (pre.map Subtype.val) a' W x.2 (by rw [List.length_map]; exact hlen) hs hi ha') ?_
    rintro e a3 W3 hp
    cases e with
    | normal => exact ⟨hp.1, hp.2.1, Nat.le_trans hs hp.2.1.1, by rw [List.map_append]; exact hp.2.2⟩
    | ret => exact ⟨hp.1, by dsimp only; rw [List.map_append]; exact hp.2⟩
    | exit id => exact ⟨hp.1, by dsimp only; rw [List.map_append]; exact hp.2⟩
    | goto t => exact hp.elim
    | panic ch => exact hp.elim
    | outgrown => exact hp.elim
  · intro x a' s W W' row hs hg hr
    exact hR x.1 a' W W' row hs hg hr
end Go.Proofs.Ytlamppplnojpbaa
namespace Go.Proofs.Ytlamppplnojpbaa
open Go.RowKit Go.Shelf
attribute [local go_sem] Oper.semAt_some
/-! the search, on lists -/
/-- how a search came to a filling -/
structure Cm where
  frm : List Int
  sa : Int
  sb : Int
  k : Int
def Cm.V (c : Cm) : Value := .agg (c.frm.map encI ++ [encI c.sa, encI c.sb, encI c.k]).toArray
abbrev Sn := List (List Int × Cm)
def lookA : Sn → List Int → Option Cm
  | [], _ => none
  | p :: r, F => if p.1 = F then some p.2 else lookA r F
def seenV (A : Sn) : List Int → Option Value := fun F => (lookA A F).map Cm.V
theorem seenV_cons (A : Sn) (F : List Int) (c : Cm) : putS (seenV A) F c.V = seenV ((F, c) :: A) := by
  funext G
  unfold putS seenV
  rw [lookA]
  by_cases h : G = F
  · subst h; simp
  · rw [if_neg h, if_neg (fun e => h e.symm)]
theorem seenV_nil : seenV [] = fun _ => none := by funext G; rfl
def c0 : Cm := ⟨[0, 0, 0, 0], 0, 0, 0⟩
theorem c0_V : c0.V = zeroC := by simp [c0, Cm.V, zeroC, encI]
theorem lookA_mem : ∀ (A : Sn) (F : List Int) (c : Cm), lookA A F = some c → (F, c) ∈ A
  | [], _, _, h => by simp [lookA] at h
  | p :: r, F, c, h => by
    rw [lookA] at h
    by_cases e : p.1 = F
    · rw [if_pos e] at h; cases h; subst e; exact List.mem_cons_self
    · rw [if_neg e] at h; exact List.mem_cons_of_mem _ (lookA_mem r F c h)
/-- one filling's steps: the fillings that are new are laid into the map and the queue, up to a goal -/
def visit (P : List Int) (gl : List Int → Bool) (here : List Int) (cnt : Int) : List (Int × Int) → Sn × List (List Int) → (Sn × List (List Int)) × Option (List Int)
  | [], s => (s, none)
  | x :: xs, s =>
    if (lookA s.1 (afterF P here x.1 x.2)).isSome = true then visit P gl here cnt xs s
    else if gl (afterF P here x.1 x.2) = true then (((afterF P here x.1 x.2, ⟨here, x.1, x.2, cnt⟩) :: s.1, s.2), some (afterF P here x.1 x.2))
    else visit P gl here cnt xs ((afterF P here x.1 x.2, ⟨here, x.1, x.2, cnt⟩) :: s.1, s.2 ++ [afterF P here x.1 x.2])
section
variable {P : List Int} {gl : List Int → Bool} {here : List Int} {cnt : Int}
theorem visit_go : ∀ (xs ys : List (Int × Int)) (s t : Sn × List (List Int)), visit P gl here cnt xs s = (t, none) → visit P gl here cnt (xs ++ ys) s = visit P gl here cnt ys t
  | [], ys, s, t, h => by rw [visit] at h; cases h; rfl
  | x :: xs, ys, s, t, h => by
    rw [List.cons_append, visit]
    rw [visit] at h
    split
    · rename_i e; rw [if_pos e] at h; exact visit_go xs ys _ t h
    · rename_i e; rw [if_neg e] at h
      split
      · rename_i e2; rw [if_pos e2] at h; cases h
      · rename_i e2; rw [if_neg e2] at h; exact visit_go xs ys _ t h
theorem visit_end : ∀ (xs ys : List (Int × Int)) (s t : Sn × List (List Int)) (g : List Int), visit P gl here cnt xs s = (t, some g) → visit P gl here cnt (xs ++ ys) s = (t, some g)
  | [], ys, s, t, g, h => by rw [visit] at h; cases h
  | x :: xs, ys, s, t, g, h => by
    rw [List.cons_append, visit]
    rw [visit] at h
    split
    · rename_i e; rw [if_pos e] at h; exact visit_end xs ys _ t g h
    · rename_i e; rw [if_neg e] at h
      split
      · rename_i e2; rw [if_pos e2] at h; exact h
      · rename_i e2; rw [if_neg e2] at h; exact visit_end xs ys _ t g h
theorem visit_pre {xs ys : List (Int × Int)} {s t : Sn × List (List Int)} {g : List Int} (h : xs <+: ys) (hv : visit P gl here cnt xs s = (t, some g)) : visit P gl here cnt ys s = (t, some g) := by
  obtain ⟨r, rfl⟩ := h
  exact visit_end xs r s t g hv
theorem visit_known {pre : List (Int × Int)} {x : Int × Int} {s t : Sn × List (List Int)} (h : visit P gl here cnt pre s = (t, none)) (hk : (lookA t.1 (afterF P here x.1 x.2)).isSome = true) : visit P gl here cnt (pre ++ [x]) s = (t, none) := by
  rw [visit_go pre [x] s t h, visit, if_pos hk, visit]
theorem visit_goal {pre : List (Int × Int)} {x : Int × Int} {s t : Sn × List (List Int)} (h : visit P gl here cnt pre s = (t, none)) (hk : (lookA t.1 (afterF P here x.1 x.2)).isSome = false) (hg : gl (afterF P here x.1 x.2) = true) :
    visit P gl here cnt (pre ++ [x]) s = (((afterF P here x.1 x.2, ⟨here, x.1, x.2, cnt⟩) :: t.1, t.2), some (afterF P here x.1 x.2)) := by
  rw [visit_go pre [x] s t h, visit, if_neg (by rw [hk]; simp), if_pos hg]
theorem visit_new {pre : List (Int × Int)} {x : Int × Int} {s t : Sn × List (List Int)} (h : visit P gl here cnt pre s = (t, none)) (hk : (lookA t.1 (afterF P here x.1 x.2)).isSome = false) (hg : gl (afterF P here x.1 x.2) = false) :
    visit P gl here cnt (pre ++ [x]) s = (((afterF P here x.1 x.2, ⟨here, x.1, x.2, cnt⟩) :: t.1, t.2 ++ [afterF P here x.1 x.2]), none) := by
  rw [visit_go pre [x] s t h, visit, if_neg (by rw [hk]; simp), if_neg (by rw [hg]; simp), visit]
theorem visit_len : ∀ (xs : List (Int × Int)) (s t : Sn × List (List Int)) (o : Option (List Int)), visit P gl here cnt xs s = (t, o) → t.1.length ≤ s.1.length + xs.length ∧ t.2.length + s.1.length ≤ s.2.length + t.1.length
  | [], s, t, o, h => by rw [visit] at h; cases h; simp
  | x :: xs, s, t, o, h => by
    rw [visit] at h
    split at h
    · have := visit_len xs s t o h; simp only [List.length_cons]; omega
    · split at h
      · cases h; simp only [List.length_cons]; omega
      · have := visit_len xs _ t o h; simp only [List.length_cons, List.length_append, List.length_nil] at this ⊢; omega
/-- a property of fillings and one of how they were come to, kept by a visit -/
theorem visit_keeps (Kf : List Int → Prop) (Kc : Cm → Prop) : ∀ (xs : List (Int × Int)) (s t : Sn × List (List Int)) (o : Option (List Int)), (∀ x ∈ xs, Kf (afterF P here x.1 x.2) ∧ Kc ⟨here, x.1, x.2, cnt⟩) →
    (∀ p ∈ s.1, Kf p.1 ∧ Kc p.2) → (∀ q ∈ s.2, Kf q) → visit P gl here cnt xs s = (t, o) → (∀ p ∈ t.1, Kf p.1 ∧ Kc p.2) ∧ (∀ q ∈ t.2, Kf q)
  | [], s, t, o, _, h1, h2, h => by rw [visit] at h; cases h; exact ⟨h1, h2⟩
  | x :: xs, s, t, o, hx, h1, h2, h => by
    have hh := hx x List.mem_cons_self
    have hr : ∀ y ∈ xs, Kf (afterF P here y.1 y.2) ∧ Kc ⟨here, y.1, y.2, cnt⟩ := fun y hy => hx y (List.mem_cons_of_mem _ hy)
    have h1' : ∀ p ∈ (afterF P here x.1 x.2, (⟨here, x.1, x.2, cnt⟩ : Cm)) :: s.1, Kf p.1 ∧ Kc p.2 := fun p hp => by
      rcases List.mem_cons.1 hp with rfl | hp
      · exact hh
      · exact h1 p hp
    rw [visit] at h
    split at h
    · exact visit_keeps Kf Kc xs s t o hr h1 h2 h
    · split at h
      · cases h; exact ⟨h1', h2⟩
      · refine visit_keeps Kf Kc xs _ t o hr h1' (fun q hq => ?_) h
        rcases List.mem_append.1 hq with hq | hq
        · exact h2 q hq
        · rw [List.mem_singleton.1 hq]; exact hh.1
end
/-- the search, with a bound on the number of fillings that are gone out from -/
def bfs (P : List Int) (gl : List Int → Bool) (ss : List (Int × Int)) : Nat → Sn → List (List Int) → Option (Sn × Option (List Int))
  | 0, _, _ => none
  | _ + 1, A, [] => some (A, none)
  | n + 1, A, h :: qs =>
    match visit P gl h (((lookA A h).map Cm.k).getD 0 + 1) ss (A, qs) with
    | ((A', _), some g) => some (A', some g)
    | ((A', qs'), none) => bfs P gl ss n A' qs'
/-- a filling of jugs -/
def FitP (P F : List Int) : Prop := F.length = 4 ∧ ∀ i, i < 4 → 0 ≤ F.getD i 0 ∧ F.getD i 0 ≤ P.getD i 0 ∧ P.getD i 0 ≤ 12
theorem FitP.fok {P F : List Int} (h : FitP P F) : Fok F := ⟨h.1, fun i hi => by have := h.2 i hi; unfold Bd; omega⟩
theorem set_getD (F : List Int) (k i : Nat) (v : Int) (hk : k < F.length) : (F.set k v).getD i 0 = if i = k then v else F.getD i 0 := by
  rw [List.getD_eq_getElem?_getD, List.getD_eq_getElem?_getD, List.getElem?_set]
  by_cases h : k = i
  · subst h; simp [hk]
  · rw [if_neg h, if_neg (fun e => h e.symm)]
theorem FitP.after {P F : List Int} (h : FitP P F) {f t : Int} (hf : -1 ≤ f ∧ f ≤ 3) (ht : -1 ≤ t ∧ t ≤ 3) (_hne : f ≠ t) : FitP P (afterF P F f t) := by
  obtain ⟨hl, hb⟩ := h
  unfold afterF
  split
  · rename_i e
    refine ⟨by rw [List.length_set]; exact hl, fun i hi => ?_⟩
    rw [set_getD _ _ _ _ (by omega)]
    have h1 := hb i hi
    have h2 := hb t.toNat (by omega)
    split
    · rename_i e2; subst e2; omega
    · exact h1
  · split
    · refine ⟨by rw [List.length_set]; exact hl, fun i hi => ?_⟩
      rw [set_getD _ _ _ _ (by omega)]
      have h1 := hb i hi
      split
      · omega
      · exact h1
    · rename_i e1 e2
      refine ⟨by rw [List.length_set, List.length_set]; exact hl, fun i hi => ?_⟩
      rw [set_getD _ _ _ _ (by rw [List.length_set]; omega), set_getD _ _ _ _ (by omega)]
      have h1 := hb i hi
      have h2 := hb t.toNat (by omega)
      have h3 := hb f.toNat (by omega)
      split
      · rename_i e3; subst e3; omega
      · split
        · rename_i e3; subst e3; omega
        · exact h1
end Go.Proofs.Ytlamppplnojpbaa
namespace Go.Proofs.Ytlamppplnojpbaa
open Go.RowKit Go.Shelf
attribute [local go_sem] Oper.semAt_some
/-- what stands in memory through the whole search: the start, the two functions, the result's place, the map and its variable -/
structure SrB (W : World) (N S : Nat) (F : List Int) (fd fg : Value) : Prop where
  r0 : Row W N 77 (F.map encI)
  r1 : Row W (N + 1) 86 [fd]
  r2 : Row W (N + 1 + 1) 91 [fg]
  r3 : Row W (N + 1 + 1 + 1) 89 [.map none, .int .i64 0, .int .i64 0, .int .i64 0, .int .i64 0, .bool false]
  rS : Row W S 74 [.map (some (N + 1 + 1 + 1 + 1))]
  hS : N + 1 + 1 + 1 + 1 + 1 ≤ S
theorem SrB.below {W W' : World} {N S B : Nat} {F : List Int} {fd fg : Value} (h : SrB W N S F fd fg) (hb : Below B W W') (hB : S < B) : SrB W' N S F fd fg := by
  have := h.hS
  exact ⟨h.r0.below hb (by omega), h.r1.below hb (by omega), h.r2.below hb (by omega), h.r3.below hb (by omega), h.rS.below hb hB, h.hS⟩
theorem search_start2 (w : World) (f0 f1 f2 f3 : Int) (hF : Fok [f0, f1, f2, f3]) (fd fg : Value) : ∃ V W1 S,
    (Instr.mapUpdate 74 (.map (some (w.heap.size + 1 + 1 + 1 + 1))) (.agg #[.int .i64 f0, .int .i64 f1, .int .i64 f2, .int .i64 f3]) (.agg #[.int .i64 0, .int .i64 0, .int .i64 0, .int .i64 0, .int .i64 0, .int .i64 0, .int .i64 0])).run Try.prog
      (((((w.alloc (.cells #[.int .i64 f0, .int .i64 f1, .int .i64 f2, .int .i64 f3] 77)).alloc (.cells #[fd] 86)).alloc (.cells #[fg] 91)).alloc (.cells #[.map none, .int .i64 0, .int .i64 0, .int .i64 0, .int .i64 0, .bool false] 89)).alloc (.map #[] 0)) = .ok () V ∧
    V.heap.size = S ∧ V.alloc (.cells #[.map (some (w.heap.size + 1 + 1 + 1 + 1))] 74) = W1 ∧ W1.heap.size = S + 1 ∧ SrB W1 w.heap.size S [f0, f1, f2, f3] fd fg ∧
    SeenAt W1 (w.heap.size + 1 + 1 + 1 + 1) 1 (seenV [([f0, f1, f2, f3], c0)]) ∧ Below w.heap.size w W1 := by
  obtain ⟨V, hr, hs, r0, r1, r2, r3, bw, zV⟩ := search_start w f0 f1 f2 f3 hF fd fg
  have hb := (Below.refl V.heap.size V).alloc (Nat.le_refl _) (.cells #[.map (some (w.heap.size + 1 + 1 + 1 + 1))] 74)
  refine ⟨V, _, _, hr, rfl, rfl, size_al _ _, ⟨r0.below hb (by omega), r1.below hb (by omega), r2.below hb (by omega), r3.below hb (by omega), Row.new _ _ _, zV⟩, ?_, Below.andThen bw hb (by omega)⟩
  rw [← seenV_cons, seenV_nil, c0_V]
  exact hs.grow hb
/-- marks of ranges that are over, each with a block of its own from B on -/
def Marks (B : Nat) (ds : List Deferred) (W : World) : Prop := ∃ Ds : List Nat, ds = Ds.map (fun D => { target := .collected D, args := #[] }) ∧ Ds.Nodup ∧ ∀ D ∈ Ds, B ≤ D ∧ W.heap[D]? = some (.deferred (some []))
theorem marks_nil (B : Nat) (W : World) : Marks B [] W := ⟨[], rfl, List.nodup_nil, fun D h => by cases h⟩
theorem Marks.cons {B D : Nat} {ds : List Deferred} {W W' : World} (h : Marks B ds W) (hs : W.heap.size ≤ D) (hB : B ≤ W.heap.size) (hk : ∀ D', B ≤ D' → W.heap[D']? = some (.deferred (some [])) → W'.heap[D']? = some (.deferred (some []))) (hD : W'.heap[D]? = some (.deferred (some []))) :
    Marks B ({ target := .collected D, args := #[] } :: ds) W' := by
  obtain ⟨Ds, rfl, hn, hm⟩ := h
  refine ⟨D :: Ds, rfl, List.nodup_cons.2 ⟨fun h => ?_, hn⟩, fun E hE => ?_⟩
  · have := (Array.getElem?_eq_some_iff.1 (hm D h).2).1
    omega
  · rcases List.mem_cons.1 hE with rfl | hE
    · exact ⟨Nat.le_trans hB hs, hD⟩
    · exact ⟨(hm E hE).1, hk E (hm E hE).1 (hm E hE).2⟩
theorem Marks.keeps {B : Nat} {ds : List Deferred} {W W' : World} (h : Marks B ds W) (hk : ∀ D', B ≤ D' → W.heap[D']? = some (.deferred (some [])) → W'.heap[D']? = some (.deferred (some []))) : Marks B ds W' := by
  obtain ⟨Ds, rfl, hn, hm⟩ := h
  exact ⟨Ds, rfl, hn, fun E hE => ⟨(hm E hE).1, hk E (hm E hE).1 (hm E hE).2⟩⟩
theorem Marks.below {B : Nat} {ds : List Deferred} {W W' : World} (h : Marks B ds W) (hb : Below W.heap.size W W') : Marks B ds W' :=
  h.keeps fun D _ hD => by rw [hb.block D (Array.getElem?_eq_some_iff.1 hD).1]; exact hD
/-- a function leaves by its marks -/
theorem leaves_marks {F : Fence} {n : Nat} {P : Program} {fn : Func} {tmps : Array Value} {R : Ending → World → Prop} {B : Nat} (I : World → Prop) (hI : Lasts B I)
    (hend : ∀ W, I W → LeavesIn F n P fn tmps R [] .returning W) : ∀ (ds : List Deferred) (W : World), Marks B ds W → I W → LeavesInM F n P fn tmps R ds .returning W := by
  rintro ds W ⟨Ds, rfl, hn, hm⟩ hi
  induction Ds generalizing W with
  | nil => exact hend W hi
  | cons D Ds ih =>
    obtain ⟨hnot, hn⟩ := List.nodup_cons.1 hn
    obtain ⟨hB, hD⟩ := hm D List.mem_cons_self
    refine ⟨by simp, .inl ⟨D, _, rfl, run_takeDeferred hD, ?_⟩⟩
    refine ih _ hn (fun E hE => ⟨(hm E (List.mem_cons_of_mem _ hE)).1, ?_⟩) (hI.put _ hi hB hD rfl)
    have hne : E ≠ D := fun e => hnot (by rw [← e]; exact hE)
    rw [World.putObj_heap_other (by first | exact hne | exact hne.symm)]
    exact (hm E (List.mem_cons_of_mem _ hE)).2
end Go.Proofs.Ytlamppplnojpbaa
namespace Go.Proofs.Ytlamppplnojpbaa
open Go.RowKit Go.Shelf
attribute [local go_sem] Oper.semAt_some
/-- what holds whenever the search goes out from a filling -/
structure Lp (w : World) (S R : Nat) (F : List Int) (fd fg : Value) (P : List Int) (k : Nat) (A : Sn) (qs : List (List Int)) (v : Value) (W : World) : Prop where
  b : SrB W w.heap.size S F fd fg
  rR : Row W R 89 [.map (some (w.heap.size + 1 + 1 + 1 + 1)), .int .i64 0, .int .i64 0, .int .i64 0, .int .i64 0, .bool false]
  rQ : Row W (R + 1 + 1) 102 [v]
  q : QAt W 0 v qs
  ap : ∀ g, v.ownBlock = some g → R + 1 ≤ g ∧ g ≠ R + 1 + 1
  sn : SeenAt W (w.heap.size + 1 + 1 + 1 + 1) A.length (seenV A)
  bw : Below w.heap.size w W
  hR : S < R
  len : A.length + 25 * k ≤ 1000000 ∧ qs.length ≤ A.length
  okA : ∀ p ∈ A, FitP P p.1 ∧ (p.2.frm.length = 4 ∧ 0 ≤ p.2.k ∧ p.2.k + k ≤ 1000000)
  okQ : ∀ q ∈ qs, FitP P q
theorem lp_start (w w1 : World) (S : Nat) (f0 f1 f2 f3 : Int) (fd fg : Value) (P : List Int) (k : Nat) (hk : k ≤ 30000) (hF : FitP P [f0, f1, f2, f3]) (hb : SrB w1 w.heap.size S [f0, f1, f2, f3] fd fg)
    (hs : SeenAt w1 (w.heap.size + 1 + 1 + 1 + 1) 1 (seenV [([f0, f1, f2, f3], c0)])) (bw : Below w.heap.size w w1) :
    Lp w S w1.heap.size [f0, f1, f2, f3] fd fg P k [([f0, f1, f2, f3], c0)] [[f0, f1, f2, f3]] (.slice (some ⟨w1.heap.size + 1, 0, none⟩) 1 1)
      (((w1.alloc (.cells #[.map (some (w.heap.size + 1 + 1 + 1 + 1)), .int .i64 0, .int .i64 0, .int .i64 0, .int .i64 0, .bool false] 89)).alloc (.cells #[.int .i64 f0, .int .i64 f1, .int .i64 f2, .int .i64 f3] 77)).alloc (.cells #[.slice (some ⟨w1.heap.size + 1, 0, none⟩) 1 1] 102)) := by
  have a0 := Row.new w1 89 [.map (some (w.heap.size + 1 + 1 + 1 + 1)), .int .i64 0, .int .i64 0, .int .i64 0, .int .i64 0, .bool false]
  have b0 := (Below.refl w1.heap.size w1).alloc (Nat.le_refl _) (.cells #[.map (some (w.heap.size + 1 + 1 + 1 + 1)), .int .i64 0, .int .i64 0, .int .i64 0, .int .i64 0, .bool false] 89)
  have z0 := size_al w1 (.cells #[.map (some (w.heap.size + 1 + 1 + 1 + 1)), .int .i64 0, .int .i64 0, .int .i64 0, .int .i64 0, .bool false] 89)
  generalize w1.alloc (.cells #[.map (some (w.heap.size + 1 + 1 + 1 + 1)), .int .i64 0, .int .i64 0, .int .i64 0, .int .i64 0, .bool false] 89) = w2 at *
  have a1 := Row.new w2 77 [.int .i64 f0, .int .i64 f1, .int .i64 f2, .int .i64 f3]
  have b1 := (Below.refl w2.heap.size w2).alloc (Nat.le_refl _) (.cells #[.int .i64 f0, .int .i64 f1, .int .i64 f2, .int .i64 f3] 77)
  have z1 := size_al w2 (.cells #[.int .i64 f0, .int .i64 f1, .int .i64 f2, .int .i64 f3] 77)
  generalize w2.alloc (.cells #[.int .i64 f0, .int .i64 f1, .int .i64 f2, .int .i64 f3] 77) = w3 at *
  have a2 := Row.new w3 102 [.slice (some ⟨w1.heap.size + 1, 0, none⟩) 1 1]
  have b2 := (Below.refl w3.heap.size w3).alloc (Nat.le_refl _) (.cells #[.slice (some ⟨w1.heap.size + 1, 0, none⟩) 1 1] 102)
  generalize w3.alloc (.cells #[.slice (some ⟨w1.heap.size + 1, 0, none⟩) 1 1] 102) = w4 at *
  have hSz := hb.rS.lt
  have b02 := Below.andThen b0 (Below.andThen b1 b2 (by omega)) (by omega)
  rw [z0] at a1
  rw [z1, z0] at a2
  refine ⟨hb.below b02 hSz, (a0.below b1 (by omega)).below b2 (by omega), a2, ⟨fun q hq => ?_, w1.heap.size + 1, 0, 1, _, rfl, Nat.zero_le _, a1.below b2 (by omega), Nat.le_refl _, by decide, by simp, by simp [encI]⟩, fun g hg => ?_, hs.grow b02, Below.andThen bw b02 (Nat.le_refl _), hSz, ⟨by simp; omega, by simp⟩, fun p hp => ?_, fun q hq => ?_⟩
  · rw [List.mem_singleton.1 hq]; rfl
  · simp only [Value.ownBlock, Option.some.injEq] at hg
    omega
  · rw [List.mem_singleton.1 hp]; exact ⟨hF, by simp [c0], by simp [c0], by simp [c0]; omega⟩
  · rw [List.mem_singleton.1 hq]; exact hF
/-- the count that a filling's steps get -/
def cntA (A : Sn) (F : List Int) : Int := ((lookA A F).map Cm.k).getD 0 + 1
/-- the map's own word of a filling -/
theorem look_here {W : World} {b n : Nat} {A : Sn} (hs : SeenAt W b n (seenV A)) {q0 q1 q2 q3 : Int} (hF : Fok [q0, q1, q2, q3]) (hA : ∀ p ∈ A, p.2.frm.length = 4) :
    ∃ x0 x1 x2 x3 x4 x5 : Int, (Instr.lookup 74 (.map (some b)) (.agg #[.int .i64 q0, .int .i64 q1, .int .i64 q2, .int .i64 q3]) false).run Try.prog W = .ok (.agg #[.int .i64 x0, .int .i64 x1, .int .i64 x2, .int .i64 x3, .int .i64 x4, .int .i64 x5, .int .i64 (cntA A [q0, q1, q2, q3] - 1)]) W := by
  have h := hs.look1 hF
  rw [show aggI [q0, q1, q2, q3] = .agg #[.int .i64 q0, .int .i64 q1, .int .i64 q2, .int .i64 q3] from rfl] at h
  rw [h]
  unfold seenV cntA
  cases hl : lookA A [q0, q1, q2, q3] with
  | none => exact ⟨0, 0, 0, 0, 0, 0, rfl⟩
  | some c =>
    obtain ⟨a, b, c', d, e⟩ := agg4 c.frm (hA _ (lookA_mem _ _ _ hl))
    refine ⟨a, b, c', d, c.sa, c.sb, ?_⟩
    simp [Cm.V, e, encI]
end Go.Proofs.Ytlamppplnojpbaa
namespace Go.Proofs.Ytlamppplnojpbaa
open Go.RowKit Go.Shelf
attribute [local go_sem] Oper.semAt_some
theorem six_set (W : World) (b : Nat) (v0 v1 v2 v3 v4 v5 : Value) : W.grownBy ((((((W.setCell ⟨b, 0, none⟩ v0).setCell ⟨b, 1, none⟩ v1).setCell ⟨b, 2, none⟩ v2).setCell ⟨b, 3, none⟩ v3).setCell ⟨b, 4, none⟩ v4).setCell ⟨b, 5, none⟩ v5) (some b) := by
  have one : ∀ (W : World) (i : Nat) (v : Value), W.grownBy (W.setCell ⟨b, i, none⟩ v) (some b) := fun W i v => ⟨rfl, rfl, rfl, (KeepsWalks.setCell W _ v).size, fun k _ hk => Below.heap_setCell _ _ _ k (fun e => hk (by rw [e]))⟩
  exact (((((one _ _ _).trans (one _ _ _)).trans (one _ _ _)).trans (one _ _ _)).trans (one _ _ _)).trans (one _ _ _)
theorem one_set (W : World) (b i : Nat) (v : Value) : W.grownBy (W.setCell ⟨b, i, none⟩ v) (some b) :=
  ⟨rfl, rfl, rfl, (KeepsWalks.setCell W _ v).size, fun k _ hk => Below.heap_setCell _ _ _ k (fun e => hk (by rw [e]))⟩
theorem Row.kept {W W' : World} {g : Nat} {E : TypeId} {vs : List Value} {row : Option Nat} (h : Row W g E vs) (hg : W.grownBy W' row) (hne : some g ≠ row) : Row W' g E vs := by
  show W'.heap[g]? = _
  rw [hg.block g h.lt hne]
  exact h
theorem SrB.kept {W W' : World} {N S r : Nat} {F : List Int} {fd fg : Value} (h : SrB W N S F fd fg) (hg : W.grownBy W' (some r)) (hr : S < r) : SrB W' N S F fd fg := by
  have hS := h.hS
  exact ⟨h.r0.kept hg (fun e => by have := Option.some.inj e; omega), h.r1.kept hg (fun e => by have := Option.some.inj e; omega), h.r2.kept hg (fun e => by have := Option.some.inj e; omega), h.r3.kept hg (fun e => by have := Option.some.inj e; omega), h.rS.kept hg (fun e => by have := Option.some.inj e; omega), hS⟩
/-- the first of the queue is taken -/
theorem lp_pop {w W : World} {S R : Nat} {F : List Int} {fd fg : Value} {P : List Int} {k : Nat} {A : Sn} {q0 q1 q2 q3 : Int} {qs : List (List Int)} {g off cap : Nat}
    (h : Lp w S R F fd fg P k A ([q0, q1, q2, q3] :: qs) (.slice (some ⟨g, off, none⟩) (qs.length + 1) cap) W) (off' cap' : Nat) (ho : (1 < cap ∧ off' = off + 4 ∧ cap' = cap - 1) ∨ (cap = 1 ∧ off' = off ∧ cap' = 0)) :
    Lp w S R F fd fg P k A qs (.slice (some ⟨g, off', none⟩) qs.length cap') ((W.alloc (.cells #[.int .i64 q0, .int .i64 q1, .int .i64 q2, .int .i64 q3] 77)).setCell ⟨R + 1 + 1, 0, none⟩ (.slice (some ⟨g, off', none⟩) qs.length cap')) ∧
    Row ((W.alloc (.cells #[.int .i64 q0, .int .i64 q1, .int .i64 q2, .int .i64 q3] 77)).setCell ⟨R + 1 + 1, 0, none⟩ (.slice (some ⟨g, off', none⟩) qs.length cap')) W.heap.size 77 [.int .i64 q0, .int .i64 q1, .int .i64 q2, .int .i64 q3] ∧
    ((W.alloc (.cells #[.int .i64 q0, .int .i64 q1, .int .i64 q2, .int .i64 q3] 77)).setCell ⟨R + 1 + 1, 0, none⟩ (.slice (some ⟨g, off', none⟩) qs.length cap')).heap.size = W.heap.size + 1 := by
  have hq : QAt W 0 (.slice (some ⟨g, off', none⟩) qs.length cap') qs := by
    rcases ho with ⟨h1, rfl, rfl⟩ | ⟨h1, rfl, rfl⟩
    · exact h.q.tail
    · obtain ⟨h4, g', o', c', cur, he, hb, hh, hc, hm, hs, ht⟩ := h.q
      cases he
      rw [List.length_cons] at hc
      have hz : qs = [] := List.length_eq_zero_iff.1 (by omega)
      subst hz
      exact ⟨fun x hx => (by cases hx), g, off', 0, cur, rfl, hb, hh, Nat.le_refl _, Nat.zero_le _, by omega, by simp⟩
  have hap := h.ap g rfl
  have r7 := Row.new W 77 [.int .i64 q0, .int .i64 q1, .int .i64 q2, .int .i64 q3]
  have b0 := (Below.refl W.heap.size W).alloc (Nat.le_refl _) (.cells #[.int .i64 q0, .int .i64 q1, .int .i64 q2, .int .i64 q3] 77)
  have z0 := size_al W (.cells #[.int .i64 q0, .int .i64 q1, .int .i64 q2, .int .i64 q3] 77)
  have hRl := h.rQ.lt
  have hR := h.hR
  generalize W.alloc (.cells #[.int .i64 q0, .int .i64 q1, .int .i64 q2, .int .i64 q3] 77) = W2 at *
  have rQ2 := (h.rQ.below b0 hRl).set 0 (.slice (some ⟨g, off', none⟩) qs.length cap')
  have G := one_set W2 (R + 1 + 1) 0 (.slice (some ⟨g, off', none⟩) qs.length cap')
  have zz : (W2.setCell ⟨R + 1 + 1, 0, none⟩ (.slice (some ⟨g, off', none⟩) qs.length cap')).heap.size = W2.heap.size := by simp
  generalize W2.setCell ⟨R + 1 + 1, 0, none⟩ (.slice (some ⟨g, off', none⟩) qs.length cap') = W3 at *
  have g0 : W.grownBy W2 none := ⟨b0.os, b0.tape, b0.output, b0.size, fun k hk _ => b0.block k hk⟩
  have hN := h.b.hS
  have hl := h.len
  rw [List.length_cons] at hl
  refine ⟨⟨(h.b.below b0 h.b.rS.lt).kept G (by omega), (h.rR.below b0 (by omega)).kept G (fun e => by have := Option.some.inj e; omega), rQ2, (hq.kept g0 (by simp [Value.ownBlock])).kept G (fun e => by simp [Value.ownBlock] at e; omega), fun g2 hg2 => ?_, (h.sn.grow b0).kept G (fun e => by have := Option.some.inj e; omega),
    (Below.andThen h.bw b0 (Nat.le_refl _)).grown G (Nat.le_trans h.bw.size b0.size) (fun k e => by have := Option.some.inj e; have := h.bw.size; omega), hR, ⟨hl.1, by omega⟩, h.okA, fun q hq => h.okQ q (List.mem_cons_of_mem _ hq)⟩, Row.kept r7 G (fun e => by have := Option.some.inj e; omega), by rw [zz, z0]⟩
  simp only [Value.ownBlock, Option.some.injEq] at hg2
  subst hg2
  exact hap
end Go.Proofs.Ytlamppplnojpbaa
namespace Go.Proofs.Ytlamppplnojpbaa
open Go.RowKit Go.Shelf
attribute [local go_sem] Oper.semAt_some
set_option maxRecDepth 100000 in
set_option maxHeartbeats 1000000 in
theorem search_goal (f0 f1 f2 f3 : Int) (gl : List Int → Bool) (G : FuncId) (caps : Array Value) (jv : Value) (bl bj : Nat) (w : World) (_hbl : bl < w.heap.size) (_hbj : bj < w.heap.size)
   (hf : Fok [f0, f1, f2, f3])
  (hen : ∀ args W, (callFunc G args).run Try.prog W = .ok (.enter G args) W)
  (hg : ∀ W x0 x1 x2 x3, Below w.heap.size w W → Fok [x0, x1, x2, x3] → Calls Try.prog G (#[.agg #[.int .i64 x0, .int .i64 x1, .int .i64 x2, .int .i64 x3]] ++ caps) W fun e w' => e = .returned (.bool (gl [x0, x1, x2, x3])) ∧ Below W.heap.size W w')
  (hgl : gl [f0, f1, f2, f3] = true) :
    Calls Try.prog 57 #[.agg #[.int .i64 f0, .int .i64 f1, .int .i64 f2, .int .i64 f3], .func (.func 70) #[] #[.pointer (some ⟨bl, 0, none⟩), .pointer (some ⟨bj, 0, none⟩)], .func (.func 54) #[jv] #[], .func (.func G) #[] caps] w fun e w' => e = .returned (.agg #[.map (some (w.heap.size + 1 + 1 + 1 + 1)), .int .i64 f0, .int .i64 f1, .int .i64 f2, .int .i64 f3, .bool true]) ∧ SeenAt w' (w.heap.size + 1 + 1 + 1 + 1) 1 (seenV [([f0, f1, f2, f3], c0)]) ∧ Below w.heap.size w w' := by
  have HG := Lib.hid hg
  have HE := Lib.hid hen
  clear hg hen
  have HF := Lib.hid hf
  obtain ⟨V, W1, S, hr, hV, hW, hz, hB, hs, bw⟩ := search_start2 w f0 f1 f2 f3 hf (.func (.func 54) #[jv] #[]) (.func (.func G) #[] caps)
  clear hf
  have HS := Lib.hid hs
  have HR := Lib.hid hr
  have HB := Lib.hid hB
  have HW := Lib.hid hW
  have HV := Lib.hid hV
  have HZ := Lib.hid hz
  clear hr hs hV hW hz
  have hmm := @run_makeMap Try.prog
  refine callsIn_wide.1 (callsIn_of_wp_marks (F := Fence.wide) (n := 4) Try.func57 rfl trivial (wpIn_wide.2 ?_) rfl)
  simp only [Try.ntmps57, List.size_toArray, List.length_cons, List.length_nil, Nat.reduceAdd, Nat.reduceSub, Array.replicate_succ, Array.replicate_zero, List.push_toArray, List.append_toArray, List.nil_append, List.cons_append]
  go_wp2_with fail
  go_step3
  go_wp2_with fail
  rw [HR.out, Result.andThen_ok]
  have c2 : W1.cell? ⟨w.heap.size + 1 + 1, 0, none⟩ = some (.func (.func G) #[] caps) := hB.r2.cell 0
  have q0 : W1.cell? ⟨w.heap.size, 0, none⟩ = some (.int .i64 f0) := hB.r0.cell 0
  have q1 : W1.cell? ⟨w.heap.size, 1, none⟩ = some (.int .i64 f1) := hB.r0.cell 1
  have q2 : W1.cell? ⟨w.heap.size, 2, none⟩ = some (.int .i64 f2) := hB.r0.cell 2
  have q3 : W1.cell? ⟨w.heap.size, 3, none⟩ = some (.int .i64 f3) := hB.r0.cell 3
  rw [← HW.out] at c2 q0 q1 q2 q3
  clear hB
  go_wp2_with fail
  rw [HE.out, Oper.upon_enter]
  clear c2 q0 q1 q2 q3
  rw [HW.out, HV.out]
  refine (HG.out _ f0 f1 f2 f3 bw HF.out).mono ?_
  rintro e w1 ⟨rfl, hb1⟩
  rw [hgl]
  have hB1 := HB.out.below hb1 (by rw [HZ.out]; omega)
  have hs1 := HS.out.grow hb1
  have cS : w1.cell? ⟨S, 0, none⟩ = some (.map (some (w.heap.size + 1 + 1 + 1 + 1))) := hB1.rS.cell 0
  have q0 : w1.cell? ⟨w.heap.size, 0, none⟩ = some (.int .i64 f0) := hB1.r0.cell 0
  have q1 : w1.cell? ⟨w.heap.size, 1, none⟩ = some (.int .i64 f1) := hB1.r0.cell 1
  have q2 : w1.cell? ⟨w.heap.size, 2, none⟩ = some (.int .i64 f2) := hB1.r0.cell 2
  have q3 : w1.cell? ⟨w.heap.size, 3, none⟩ = some (.int .i64 f3) := hB1.r0.cell 3
  have t0 : w1.cell? ⟨w.heap.size + 1 + 1 + 1, 0, none⟩ = some (.map none) := hB1.r3.cell 0
  have k0 := frozen_of_row w1 (w.heap.size + 1 + 1 + 1) 0 _ _ hB1.r3
  have t1 : w1.cell? ⟨w.heap.size + 1 + 1 + 1, 1, none⟩ = some (.int .i64 0) := hB1.r3.cell 1
  have k1 := frozen_of_row w1 (w.heap.size + 1 + 1 + 1) 1 _ _ hB1.r3
  have t2 : w1.cell? ⟨w.heap.size + 1 + 1 + 1, 2, none⟩ = some (.int .i64 0) := hB1.r3.cell 2
  have k2 := frozen_of_row w1 (w.heap.size + 1 + 1 + 1) 2 _ _ hB1.r3
  have t3 : w1.cell? ⟨w.heap.size + 1 + 1 + 1, 3, none⟩ = some (.int .i64 0) := hB1.r3.cell 3
  have k3 := frozen_of_row w1 (w.heap.size + 1 + 1 + 1) 3 _ _ hB1.r3
  have t4 : w1.cell? ⟨w.heap.size + 1 + 1 + 1, 4, none⟩ = some (.int .i64 0) := hB1.r3.cell 4
  have k4 := frozen_of_row w1 (w.heap.size + 1 + 1 + 1) 4 _ _ hB1.r3
  have t5 : w1.cell? ⟨w.heap.size + 1 + 1 + 1, 5, none⟩ = some (.bool false) := hB1.r3.cell 5
  have k5 := frozen_of_row w1 (w.heap.size + 1 + 1 + 1) 5 _ _ hB1.r3
  have HB1 := Lib.hid hB1
  have HS1 := Lib.hid hs1
  have HK1 := Lib.hid (Below.andThen bw hb1 (Nat.le_refl _))
  have HZ1 := Lib.hid (show S + 1 ≤ w1.heap.size by have := hb1.size; have := HZ.out; omega)
  clear hs1 hB1 hb1 _hbl _hbj bw
  go_wp2_with fail
  rw [Exit.noGoto_ret]
  have hr3 := ((((((HB1.out.r3.set 0 (.map (some (w.heap.size + 1 + 1 + 1 + 1)))).set 1 (.int .i64 f0)).set 2 (.int .i64 f1)).set 3 (.int .i64 f2)).set 4 (.int .i64 f3)).set 5 (.bool true))
  have hN := HB1.out.hS
  have G6 : w1.grownBy ((((((w1.setCell ⟨w.heap.size + 1 + 1 + 1, 0, none⟩ (.map (some (w.heap.size + 1 + 1 + 1 + 1)))).setCell ⟨w.heap.size + 1 + 1 + 1, 1, none⟩ (.int .i64 f0)).setCell ⟨w.heap.size + 1 + 1 + 1, 2, none⟩ (.int .i64 f1)).setCell ⟨w.heap.size + 1 + 1 + 1, 3, none⟩ (.int .i64 f2)).setCell ⟨w.heap.size + 1 + 1 + 1, 4, none⟩ (.int .i64 f3)).setCell ⟨w.heap.size + 1 + 1 + 1, 5, none⟩ (.bool true)) (some (w.heap.size + 1 + 1 + 1)) := six_set w1 _ _ _ _ _ _ _
  generalize ((((((w1.setCell ⟨w.heap.size + 1 + 1 + 1, 0, none⟩ (.map (some (w.heap.size + 1 + 1 + 1 + 1)))).setCell ⟨w.heap.size + 1 + 1 + 1, 1, none⟩ (.int .i64 f0)).setCell ⟨w.heap.size + 1 + 1 + 1, 2, none⟩ (.int .i64 f1)).setCell ⟨w.heap.size + 1 + 1 + 1, 3, none⟩ (.int .i64 f2)).setCell ⟨w.heap.size + 1 + 1 + 1, 4, none⟩ (.int .i64 f3)).setCell ⟨w.heap.size + 1 + 1 + 1, 5, none⟩ (.bool true)) = W6 at *
  refine leaves_marks (B := w1.heap.size) (fun X => Row X (w.heap.size + 1 + 1 + 1) 89 [.map (some (w.heap.size + 1 + 1 + 1 + 1)), .int .i64 f0, .int .i64 f1, .int .i64 f2, .int .i64 f3, .bool true] ∧ SeenAt X (w.heap.size + 1 + 1 + 1 + 1) 1 (seenV [([f0, f1, f2, f3], c0)]) ∧ Below w.heap.size w X)
    ((lasts_row _ _ _ _).and ((lasts_seen _ _ _ _ (by have := HZ1.out; omega)).and (lasts_below _ _ _ (by have := HZ1.out; omega) (Nat.le_refl _)))) ?leave [] _ (marks_nil _ _) ⟨hr3, HS1.out.kept G6 (fun e => by have := Option.some.inj e; omega), HK1.out.grown G6 HK1.out.size (fun k e => by have := Option.some.inj e; omega)⟩
  rintro X ⟨x3, xs, xb⟩
  have e0 : X.cell? ⟨w.heap.size + 1 + 1 + 1, 0, none⟩ = some (.map (some (w.heap.size + 1 + 1 + 1 + 1))) := x3.cell 0
  have e1 : X.cell? ⟨w.heap.size + 1 + 1 + 1, 1, none⟩ = some (.int .i64 f0) := x3.cell 1
  have e2 : X.cell? ⟨w.heap.size + 1 + 1 + 1, 2, none⟩ = some (.int .i64 f1) := x3.cell 2
  have e3 : X.cell? ⟨w.heap.size + 1 + 1 + 1, 3, none⟩ = some (.int .i64 f2) := x3.cell 3
  have e4 : X.cell? ⟨w.heap.size + 1 + 1 + 1, 4, none⟩ = some (.int .i64 f3) := x3.cell 4
  have e5 : X.cell? ⟨w.heap.size + 1 + 1 + 1, 5, none⟩ = some (.bool true) := x3.cell 5
  refine ⟨.agg #[.map (some (w.heap.size + 1 + 1 + 1 + 1)), .int .i64 f0, .int .i64 f1, .int .i64 f2, .int .i64 f3, .bool true], ?_, rfl, xs, xb⟩
  simp [results, Try.results57, go_sem, e0, e1, e2, e3, e4, e5]
end Go.Proofs.Ytlamppplnojpbaa
namespace Go.Proofs.Ytlamppplnojpbaa
open Go.RowKit Go.Shelf
attribute [local go_sem] Oper.semAt_some
theorem seenV_none {A : Sn} {F : List Int} (h : (lookA A F).isSome = false) : seenV A F = none := by
  unfold seenV
  cases hl : lookA A F with
  | none => rfl
  | some c => rw [hl] at h; cases h
/-- the first range over a function in a code -/
def firstRange : Code → Option Code
  | .seq x y => (firstRange x).orElse fun _ => firstRange y
  | .cond _ x y => (firstRange x).orElse fun _ => firstRange y
  | .loop c | .block _ c | .scope c => firstRange c
  | .rangeFunc g p a b => some (.rangeFunc g p a b)
  | _ => none
/-- what holds in a range over the steps of a filling -/
structure Rd (w W0 : World) (S R H : Nat) (F : List Int) (fd fg : Value) (q : List Int) (cn : Int) (A : Sn) (qs : List (List Int)) (v : Value) (W : World) : Prop where
  b : SrB W w.heap.size S F fd fg
  rR : Row W R 89 [.map (some (w.heap.size + 1 + 1 + 1 + 1)), .int .i64 0, .int .i64 0, .int .i64 0, .int .i64 0, .bool false]
  rQ : Row W (R + 1 + 1) 102 [v]
  rH : Row W H 77 (q.map encI)
  rC : Row W (H + 1) 3 [.int .i64 cn]
  q : QAt W 0 v qs
  ap : ∀ g, v.ownBlock = some g → R + 1 ≤ g ∧ g ≠ R + 1 + 1 ∧ g ≠ H ∧ g ≠ H + 1
  sn : SeenAt W (w.heap.size + 1 + 1 + 1 + 1) A.length (seenV A)
  bw : Below w.heap.size w W
  hR : S < R
  hH : R + 1 + 1 < H
  ok4 : ∀ p ∈ A, p.2.frm.length = 4
  mrk : ∀ D, R < D → W0.heap[D]? = some (.deferred (some [])) → W.heap[D]? = some (.deferred (some []))
theorem wpListIn_append_run {F : Fence} {nF : Nat} {P : Program} {w : World} {ops : Array Oper} {rest : List Oper} {o : Oper} {a : Act} {Q : Exit → Act → World → Prop} (hgd : o.guard = none) (s x : Operand) (t : TypeId) (ho : o.op = .call { callee := .builtin .append, args := #[s, x], argTypes := #[t, t] })
    (v1 v2 v : Value) (w' : World) (hs : a.eval s = v1) (hx : a.eval x = v2) (hr : (Builtin.append_ #[t, t] o.type #[v1, v2]).run P w = .ok v w') (h : wpListIn F nF P ops Q rest (a.put o.dst v) w') : wpListIn F nF P ops Q (o :: rest) a w := by
  refine wpListIn_plain hgd fun K hK => ?_
  unfold Oper.wpIn
  refine ⟨by simp [Oper.about, ho, resolve, Target.leads, Sem.run_pure], ?_⟩
  rw [Oper.semAt_plain F _ _ (by rw [ho]; intro c hc'; cases hc')]
  simp [execOp, ho, resolve, invoke, builtin, hs, hx, hr, Result.andThen]
  exact hK _ _ h
theorem five_set (W : World) (b : Nat) (v1 v2 v3 v4 v5 : Value) : W.grownBy (((((W.setCell ⟨b, 1, none⟩ v1).setCell ⟨b, 2, none⟩ v2).setCell ⟨b, 3, none⟩ v3).setCell ⟨b, 4, none⟩ v4).setCell ⟨b, 5, none⟩ v5) (some b) :=
  ((((one_set _ _ _ _).trans (one_set _ _ _ _)).trans (one_set _ _ _ _)).trans (one_set _ _ _ _)).trans (one_set _ _ _ _)
theorem keeps_below {B : Nat} {W W' : World} (hb : Below W.heap.size W W') : KeepsFrom B W W' := KeepsFrom.of_grownBy (row := none) ⟨hb.os, hb.tape, hb.output, hb.size, fun k hk _ => hb.block k hk⟩ (by simp)
theorem keeps_row {B r : Nat} {W W' : World} (hg : W.grownBy W' (some r)) (hr : r < B) : KeepsFrom B W W' := KeepsFrom.of_grownBy hg (fun j e => by have := Option.some.inj e; omega)
/-- a mark stays where only another block changes -/
theorem mark_kept {W W' : World} {D : Nat} {row : Option Nat} (h : W.heap[D]? = some (.deferred (some []))) (hg : W.grownBy W' row) (hr : ∀ r, row = some r → ∀ o, W.heap[r]? = some o → o.isCells = false → r ≠ D) : W'.heap[D]? = some (.deferred (some [])) := by
  rw [hg.block D (Array.getElem?_eq_some_iff.1 h).1 (fun e => hr D e.symm _ h rfl rfl)]; exact h
theorem mark_row {W W' : World} {D g : Nat} {E : TypeId} {vs : List Value} (h : W.heap[D]? = some (.deferred (some []))) (hg : W.grownBy W' (some g)) (hr : Row W g E vs) : W'.heap[D]? = some (.deferred (some [])) :=
  mark_kept h hg (fun r e o ho hc => by cases e; rw [show W.heap[g]? = _ from hr] at ho; cases ho; cases hc)
/-- what holds where the search has come to a goal -/
structure Rx (w W0 : World) (S R : Nat) (F : List Int) (fd fg : Value) (A : Sn) (g0 g1 g2 g3 : Int) (W : World) : Prop where
  b : SrB W w.heap.size S F fd fg
  rR : Row W R 89 [.map (some (w.heap.size + 1 + 1 + 1 + 1)), .int .i64 g0, .int .i64 g1, .int .i64 g2, .int .i64 g3, .bool true]
  sn : SeenAt W (w.heap.size + 1 + 1 + 1 + 1) A.length (seenV A)
  bw : Below w.heap.size w W
  hR : S < R
  mrk : ∀ D, R < D → W0.heap[D]? = some (.deferred (some [])) → W.heap[D]? = some (.deferred (some []))
theorem lasts_rx (B : Nat) (w W0 : World) (S R : Nat) (F : List Int) (fd fg : Value) (A : Sn) (g0 g1 g2 g3 : Int) (hB : R < B) (hB0 : W0.heap.size ≤ B) : Lasts B (fun W => Rx w W0 S R F fd fg A g0 g1 g2 g3 W) := fun W W' row hi hg hr => by
  have hS := hi.b.hS
  have hR := hi.hR
  have rw' : ∀ (g : Nat) (E : TypeId) (vs : List Value), Row W g E vs → Row W' g E vs := fun g E vs h => lasts_row B g E vs W W' row h hg hr
  exact ⟨⟨rw' _ _ _ hi.b.r0, rw' _ _ _ hi.b.r1, rw' _ _ _ hi.b.r2, rw' _ _ _ hi.b.r3, rw' _ _ _ hi.b.rS, hi.b.hS⟩, rw' _ _ _ hi.rR, lasts_seen B _ _ _ (by omega) W W' row hi.sn hg hr, lasts_below B _ w (by omega) (Nat.le_refl _) W W' row hi.bw hg hr, hi.hR, fun D hD h0 => mark_kept (hi.mrk D hD h0) hg (fun r e _ _ _ => by have := (hr r e).1; have := (Array.getElem?_eq_some_iff.1 h0).1; omega)⟩
theorem Rd.put {w W0 W W' : World} {S R H : Nat} {F : List Int} {fd fg : Value} {q : List Int} {cn : Int} {A : Sn} {qs : List (List Int)} {v : Value} (h : Rd w W0 S R H F fd fg q cn A qs v W) (hg : W.grownBy W' (some (w.heap.size + 1 + 1 + 1 + 1))) (Y : List Int) (c : Cm) (hc : c.frm.length = 4)
    (hs : SeenAt W' (w.heap.size + 1 + 1 + 1 + 1) (A.length + 1) (putS (seenV A) Y c.V)) : Rd w W0 S R H F fd fg q cn ((Y, c) :: A) qs v W' := by
  have hS := h.b.hS
  have hR := h.hR
  have hH := h.hH
  have rk : ∀ (g : Nat) (E : TypeId) (vs : List Value), g ≠ w.heap.size + 1 + 1 + 1 + 1 → Row W g E vs → Row W' g E vs := fun g E vs hne h => h.kept hg (fun e => hne (Option.some.inj e))
  rw [seenV_cons] at hs
  refine ⟨⟨rk _ _ _ (by omega) h.b.r0, rk _ _ _ (by omega) h.b.r1, rk _ _ _ (by omega) h.b.r2, rk _ _ _ (by omega) h.b.r3, rk _ _ _ (by omega) h.b.rS, hS⟩, rk _ _ _ (by omega) h.rR, rk _ _ _ (by omega) h.rQ, rk _ _ _ (by omega) h.rH, rk _ _ _ (by omega) h.rC, h.q.kept hg (fun e => ?_), h.ap, hs, h.bw.grown hg h.bw.size (fun k e => by have := Option.some.inj e; omega), hR, hH, fun p hp => ?_, fun D hD h0 => mark_kept (h.mrk D hD h0) hg (fun r e _ _ _ => by have := Option.some.inj e; omega)⟩
  · have := (h.ap _ e).1; omega
  · rcases List.mem_cons.1 hp with rfl | hp
    · exact hc
    · exact h.ok4 p hp
theorem Rd.push {w W0 W W7 : World} {S R H : Nat} {F : List Int} {fd fg : Value} {q : List Int} {cn : Int} {A : Sn} {qs : List (List Int)} {v v7 : Value} {Y : List Int} (h : Rd w W0 S R H F fd fg q cn A qs v W) (hq : QAt W7 0 v7 (qs ++ [Y])) (hg : W.grownBy W7 v.ownBlock)
    (ho : v7.ownBlock = v.ownBlock ∨ ∃ g, v7.ownBlock = some g ∧ W.heap.size ≤ g) (hHs : H + 1 < W.heap.size) : Rd w W0 S R H F fd fg q cn A (qs ++ [Y]) v7 (W7.setCell ⟨R + 1 + 1, 0, none⟩ v7) := by
  have hS := h.b.hS
  have hR := h.hR
  have hH := h.hH
  have G := one_set W7 (R + 1 + 1) 0 v7
  have rk0 : ∀ (g : Nat) (E : TypeId) (vs : List Value), (g ≤ R ∨ g = R + 1 + 1 ∨ g = H ∨ g = H + 1) → Row W g E vs → Row W7 g E vs := fun g E vs hne hr => hr.kept hg (fun e => by have := h.ap g e.symm; omega)
  have rk : ∀ (g : Nat) (E : TypeId) (vs : List Value), (g ≤ R ∨ g = H ∨ g = H + 1) → Row W g E vs → Row (W7.setCell ⟨R + 1 + 1, 0, none⟩ v7) g E vs := fun g E vs hne hr => (rk0 g E vs (by omega) hr).kept G (fun e => by have := Option.some.inj e; omega)
  have ap7 : ∀ g, v7.ownBlock = some g → R + 1 ≤ g ∧ g ≠ R + 1 + 1 ∧ g ≠ H ∧ g ≠ H + 1 := fun g e => by
    rcases ho with h1 | ⟨g', h1, h2⟩
    · exact h.ap g (h1 ▸ e)
    · rw [h1] at e; have := Option.some.inj e; omega
  have rq := (rk0 _ _ _ (by omega) h.rQ).set 0 v7
  have hap2 : ∀ D r, v.ownBlock = some r → ∀ o, W.heap[r]? = some o → o.isCells = false → r ≠ D := fun D r e o hor hc => by
    obtain ⟨_, g9, o9, c9, cur9, rfl, _, hh9, _⟩ := h.q
    have e2 := Option.some.inj e
    rw [← e2, hh9] at hor; cases hor; cases hc
  have bwg : Below w.heap.size w W7 := h.bw.grown hg h.bw.size (fun k e => by have := h.ap k e; omega)
  exact ⟨⟨rk _ _ _ (by omega) h.b.r0, rk _ _ _ (by omega) h.b.r1, rk _ _ _ (by omega) h.b.r2, rk _ _ _ (by omega) h.b.r3, rk _ _ _ (by omega) h.b.rS, hS⟩, rk _ _ _ (by omega) h.rR, rq, rk _ _ _ (by omega) h.rH, rk _ _ _ (by omega) h.rC,
    hq.kept G (fun e => (ap7 _ e).2.1 rfl), ap7, (h.sn.kept hg (fun e => by have := h.ap _ e.symm; omega)).kept G (fun e => by have := Option.some.inj e; omega), bwg.grown G bwg.size (fun k e => by have := Option.some.inj e; have := h.b.r0.lt; omega), hR, hH, h.ok4, fun D hD h0 => mark_row (mark_kept (h.mrk D hD h0) hg (hap2 D)) G (rk0 _ _ _ (by omega) h.rQ)⟩
theorem look_next {W : World} {b n : Nat} {A : Sn} (hs : SeenAt W b n (seenV A)) {q0 q1 q2 q3 : Int} (hF : Fok [q0, q1, q2, q3]) (hA : ∀ p ∈ A, p.2.frm.length = 4) :
    ∃ x0 x1 x2 x3 x4 x5 x6 : Int, (Instr.lookup 74 (.map (some b)) (.agg #[.int .i64 q0, .int .i64 q1, .int .i64 q2, .int .i64 q3]) true).run Try.prog W = .ok (.tuple #[.agg #[.int .i64 x0, .int .i64 x1, .int .i64 x2, .int .i64 x3, .int .i64 x4, .int .i64 x5, .int .i64 x6], .bool (lookA A [q0, q1, q2, q3]).isSome]) W := by
  have h := hs.look hF
  rw [show aggI [q0, q1, q2, q3] = .agg #[.int .i64 q0, .int .i64 q1, .int .i64 q2, .int .i64 q3] from rfl] at h
  rw [h]
  unfold seenV
  cases hl : lookA A [q0, q1, q2, q3] with
  | none => exact ⟨0, 0, 0, 0, 0, 0, 0, rfl⟩
  | some c =>
    obtain ⟨a, b, c', d, e⟩ := agg4 c.frm (hA _ (lookA_mem _ _ _ hl))
    refine ⟨a, b, c', d, c.sa, c.sb, c.k, ?_⟩
    simp [Cm.V, e, encI]
theorem lasts_rd (B : Nat) (w W0 : World) (S R H : Nat) (F : List Int) (fd fg : Value) (q : List Int) (cn : Int) (A : Sn) (qs : List (List Int)) (v : Value) (hB : H + 1 < B) (hB0 : W0.heap.size ≤ B) : Lasts B (fun W => Rd w W0 S R H F fd fg q cn A qs v W) := fun W W' row hi hg hr => by
  have hS := hi.b.hS
  have hR := hi.hR
  have hH := hi.hH
  have rw' : ∀ (g : Nat) (E : TypeId) (vs : List Value), Row W g E vs → Row W' g E vs := fun g E vs h => lasts_row B g E vs W W' row h hg hr
  exact ⟨⟨rw' _ _ _ hi.b.r0, rw' _ _ _ hi.b.r1, rw' _ _ _ hi.b.r2, rw' _ _ _ hi.b.r3, rw' _ _ _ hi.b.rS, hi.b.hS⟩, rw' _ _ _ hi.rR, rw' _ _ _ hi.rQ, rw' _ _ _ hi.rH, rw' _ _ _ hi.rC, lasts_queue B 0 v qs W W' row hi.q hg hr, hi.ap, lasts_seen B _ _ _ (by omega) W W' row hi.sn hg hr,
    lasts_below B _ w (by omega) (Nat.le_refl _) W W' row hi.bw hg hr, hi.hR, hi.hH, hi.ok4, fun D hD h0 => mark_kept (hi.mrk D hD h0) hg (fun r e _ _ _ => by have := (hr r e).1; have := (Array.getElem?_eq_some_iff.1 h0).1; omega)⟩
set_option maxRecDepth 100000 in
set_option maxHeartbeats 1000000 in
theorem search_range (f0 f1 f2 f3 q0 q1 q2 q3 cn : Int) (gl : List Int → Bool) (G : FuncId) (caps : Array Value) (n : Nat) (p0 p1 p2 p3 ls : Int) (m : Nat) (hn : n ≤ 4) (hls : ls = -1 ∨ ls = 0) (hm : (n : Int) = ls + (m : Int)) (bl bj S R H : Nat) (w : World)
    (u14 u15 u16 u17 u18 u19 u20 u21 u22 u23 u24 u25 u26 u27 u28 u29 u30 u31 u32 u33 u34 u35 u36 u37 u38 u39 u40 u41 u42 u43 u44 u46 u47 u48 u49 u50 u51 u52 u53 u54 u55 u56 u57 u58 u59 u60 u61 u62 u63 u64 u65 u66 u67 u68 u69 u70 u71 u72 u73 u74 : Value) (ds : List Deferred) (Q : Exit → Act → World → Prop) (W : World) (A : Sn) (qs : List (List Int)) (v : Value)
    (rl : Row W bl 3 [.int .i64 ls]) (rj : Row W bj 80 [.int .i64 (n : Int), .int .i64 p0, .int .i64 p1, .int .i64 p2, .int .i64 p3])
    (hd : Rd w W S R H [f0, f1, f2, f3] (.func (.func 54) #[.agg #[.int .i64 (n : Int), .int .i64 p0, .int .i64 p1, .int .i64 p2, .int .i64 p3]] #[]) (.func (.func G) #[] caps) [q0, q1, q2, q3] cn A qs v W) (hHs : H + 1 < W.heap.size) (hln : A.length + 25 ≤ 1000000) (hlq : qs.length ≤ A.length) (hen : ∀ args W, (callFunc G args).run Try.prog W = .ok (.enter G args) W)
    (hgo : ∀ W x0 x1 x2 x3, Below w.heap.size w W → Fok [x0, x1, x2, x3] → Calls Try.prog G (#[.agg #[.int .i64 x0, .int .i64 x1, .int .i64 x2, .int .i64 x3]] ++ caps) W fun e w' => e = .returned (.bool (gl [x0, x1, x2, x3])) ∧ Below W.heap.size W w') (hbl : bl < w.heap.size) (hbj : bj < w.heap.size) (hfq : FitP [p0, p1, p2, p3] [q0, q1, q2, q3])
    (hdone : ∀ (D : Nat) (t : Sn × List (List Int)) (v' : Value) (W' : World), W.heap.size ≤ D → visit [p0, p1, p2, p3] gl [q0, q1, q2, q3] cn (stepsL ls m) (A, qs) = (t, none) →
      Rd w W S R H [f0, f1, f2, f3] (.func (.func 54) #[.agg #[.int .i64 (n : Int), .int .i64 p0, .int .i64 p1, .int .i64 p2, .int .i64 p3]] #[]) (.func (.func G) #[] caps) [q0, q1, q2, q3] cn t.1 t.2 v' W' → W'.heap[D]? = some (.deferred (some [])) →
      Q .normal { tmps := #[.agg #[.int .i64 f0, .int .i64 f1, .int .i64 f2, .int .i64 f3], .func (.func 70) #[] #[.pointer (some ⟨bl, 0, none⟩), .pointer (some ⟨bj, 0, none⟩)], .func (.func 54) #[.agg #[.int .i64 (n : Int), .int .i64 p0, .int .i64 p1, .int .i64 p2, .int .i64 p3]] #[], .func (.func G) #[] caps, .pointer (some ⟨w.heap.size, 0, none⟩), undef, .pointer (some ⟨w.heap.size + 1, 0, none⟩), .pointer (some ⟨w.heap.size + 1 + 1, 0, none⟩), .pointer (some ⟨w.heap.size + 1 + 1 + 1, 0, none⟩), .pointer (some ⟨S, 0, none⟩), .pointer (some ⟨R, 0, none⟩), .pointer (some ⟨R + 1 + 1, 0, none⟩), .pointer (some ⟨H, 0, none⟩), .pointer (some ⟨H + 1, 0, none⟩), u14, u15, u16, u17, u18, u19, u20, u21, u22, u23, u24, u25, u26, u27, u28, u29, u30, u31, u32, u33, u34, u35, u36, u37, u38, u39, u40, u41, u42, u43, u44, .func (.func 70) #[] #[.pointer (some ⟨bl, 0, none⟩), .pointer (some ⟨bj, 0, none⟩)], u46, u47, u48, u49, u50, u51, u52, u53, u54, u55, u56, u57, u58, u59, u60, u61, u62, u63, u64, u65, u66, u67, u68, u69, u70, u71, u72, u73, u74], defers := { target := .collected D, args := #[] } :: ds } W')
    (hstop : ∀ (D : Nat) (t : Sn × List (List Int)) (g0 g1 g2 g3 : Int) (W' : World), W.heap.size ≤ D → visit [p0, p1, p2, p3] gl [q0, q1, q2, q3] cn (stepsL ls m) (A, qs) = (t, some [g0, g1, g2, g3]) →
      Rx w W S R [f0, f1, f2, f3] (.func (.func 54) #[.agg #[.int .i64 (n : Int), .int .i64 p0, .int .i64 p1, .int .i64 p2, .int .i64 p3]] #[]) (.func (.func G) #[] caps) t.1 g0 g1 g2 g3 W' → W'.heap[D]? = some (.deferred (some [])) →
      Q (.exit 0) { tmps := #[.agg #[.int .i64 f0, .int .i64 f1, .int .i64 f2, .int .i64 f3], .func (.func 70) #[] #[.pointer (some ⟨bl, 0, none⟩), .pointer (some ⟨bj, 0, none⟩)], .func (.func 54) #[.agg #[.int .i64 (n : Int), .int .i64 p0, .int .i64 p1, .int .i64 p2, .int .i64 p3]] #[], .func (.func G) #[] caps, .pointer (some ⟨w.heap.size, 0, none⟩), undef, .pointer (some ⟨w.heap.size + 1, 0, none⟩), .pointer (some ⟨w.heap.size + 1 + 1, 0, none⟩), .pointer (some ⟨w.heap.size + 1 + 1 + 1, 0, none⟩), .pointer (some ⟨S, 0, none⟩), .pointer (some ⟨R, 0, none⟩), .pointer (some ⟨R + 1 + 1, 0, none⟩), .pointer (some ⟨H, 0, none⟩), .pointer (some ⟨H + 1, 0, none⟩), u14, u15, u16, u17, u18, u19, u20, u21, u22, u23, u24, u25, u26, u27, u28, u29, u30, u31, u32, u33, u34, u35, u36, u37, u38, u39, u40, u41, u42, u43, u44, .func (.func 70) #[] #[.pointer (some ⟨bl, 0, none⟩), .pointer (some ⟨bj, 0, none⟩)], u46, u47, u48, u49, u50, u51, u52, u53, u54, u55, u56, u57, u58, u59, u60, u61, u62, u63, u64, u65, u66, u67, u68, u69, u70, u71, u72, u73, u74], defers := { target := .collected D, args := #[] } :: ds } W') : ∀ c, Try.f57.body.bind firstRange = some c →
    c.wp Try.prog Q { tmps := #[.agg #[.int .i64 f0, .int .i64 f1, .int .i64 f2, .int .i64 f3], .func (.func 70) #[] #[.pointer (some ⟨bl, 0, none⟩), .pointer (some ⟨bj, 0, none⟩)], .func (.func 54) #[.agg #[.int .i64 (n : Int), .int .i64 p0, .int .i64 p1, .int .i64 p2, .int .i64 p3]] #[], .func (.func G) #[] caps, .pointer (some ⟨w.heap.size, 0, none⟩), undef, .pointer (some ⟨w.heap.size + 1, 0, none⟩), .pointer (some ⟨w.heap.size + 1 + 1, 0, none⟩), .pointer (some ⟨w.heap.size + 1 + 1 + 1, 0, none⟩), .pointer (some ⟨S, 0, none⟩), .pointer (some ⟨R, 0, none⟩), .pointer (some ⟨R + 1 + 1, 0, none⟩), .pointer (some ⟨H, 0, none⟩), .pointer (some ⟨H + 1, 0, none⟩), u14, u15, u16, u17, u18, u19, u20, u21, u22, u23, u24, u25, u26, u27, u28, u29, u30, u31, u32, u33, u34, u35, u36, u37, u38, u39, u40, u41, u42, u43, u44, .func (.func 70) #[] #[.pointer (some ⟨bl, 0, none⟩), .pointer (some ⟨bj, 0, none⟩)], u46, u47, u48, u49, u50, u51, u52, u53, u54, u55, u56, u57, u58, u59, u60, u61, u62, u63, u64, u65, u66, u67, u68, u69, u70, u71, u72, u73, u74], defers := ds } W := by
  intro c hc
  simp only [Try.f57, firstRange, Option.bind_some, Option.some.injEq, Option.orElse] at hc
  subst hc
  dsimp only at hdone hstop ⊢
  refine wpIn_wide.1 (range_steps2 (nf := 4) bl bj n (by omega) hn p0 p1 p2 p3 ls m hls hm rfl rl.lt rj.lt rl rj
    (fun pre W' => ∃ t v', visit [p0, p1, p2, p3] gl [q0, q1, q2, q3] cn pre (A, qs) = (t, none) ∧ Rd w W S R H [f0, f1, f2, f3] (.func (.func 54) #[.agg #[.int .i64 (n : Int), .int .i64 p0, .int .i64 p1, .int .i64 p2, .int .i64 p3]] #[]) (.func (.func G) #[] caps) [q0, q1, q2, q3] cn t.1 t.2 v' W')
    (fun c pre W' => c = .exit 0 ∧ ∃ t g0 g1 g2 g3, visit [p0, p1, p2, p3] gl [q0, q1, q2, q3] cn pre (A, qs) = (t, some [g0, g1, g2, g3]) ∧ Rx w W S R [f0, f1, f2, f3] (.func (.func 54) #[.agg #[.int .i64 (n : Int), .int .i64 p0, .int .i64 p1, .int .i64 p2, .int .i64 p3]] #[]) (.func (.func G) #[] caps) t.1 g0 g1 g2 g3 W') ?hI ?hIx ?h0 (fun x a' W' => ∃ b, a' = { tmps := #[.agg #[.int .i64 f0, .int .i64 f1, .int .i64 f2, .int .i64 f3], .func (.func 70) #[] #[.pointer (some ⟨bl, 0, none⟩), .pointer (some ⟨bj, 0, none⟩)], .func (.func 54) #[.agg #[.int .i64 (n : Int), .int .i64 p0, .int .i64 p1, .int .i64 p2, .int .i64 p3]] #[], .func (.func G) #[] caps, .pointer (some ⟨w.heap.size, 0, none⟩), undef, .pointer (some ⟨w.heap.size + 1, 0, none⟩), .pointer (some ⟨w.heap.size + 1 + 1, 0, none⟩), .pointer (some ⟨w.heap.size + 1 + 1 + 1, 0, none⟩), .pointer (some ⟨S, 0, none⟩), .pointer (some ⟨R, 0, none⟩), .pointer (some ⟨R + 1 + 1, 0, none⟩), .pointer (some ⟨H, 0, none⟩), .pointer (some ⟨H + 1, 0, none⟩), .pointer (some ⟨b, 0, none⟩), u15, u16, u17, u18, u19, u20, u21, u22, u23, u24, u25, u26, u27, u28, u29, u30, u31, u32, u33, u34, u35, u36, u37, u38, u39, u40, u41, u42, u43, u44, .func (.func 70) #[] #[.pointer (some ⟨bl, 0, none⟩), .pointer (some ⟨bj, 0, none⟩)], .agg #[.int .i64 x.1, .int .i64 x.2], u47, u48, u49, u50, u51, u52, u53, u54, u55, u56, u57, u58, u59, u60, u61, u62, u63, u64, u65, u66, u67, u68, u69, u70, u71, u72, u73, u74], defers := [] } ∧ W.heap.size ≤ b ∧ Row W' b 48 [.int .i64 x.1, .int .i64 x.2]) ?hR ?assign ?body ?done ?stop)
  case hI => exact fun pre W1 W2 row ⟨t, v', h1, h2⟩ hg hr => ⟨t, v', h1, lasts_rd _ w W S R H _ _ _ _ _ _ _ _ hHs (Nat.le_refl _) W1 W2 row h2 hg hr⟩
  case hIx => exact fun c pre W1 W2 row ⟨hc, t, g0, g1, g2, g3, h1, h2⟩ hg hr => ⟨hc, t, g0, g1, g2, g3, h1, lasts_rx _ w W S R _ _ _ _ _ _ _ _ (by have := hd.hH; omega) (Nat.le_refl _) W1 W2 row h2 hg hr⟩
  case h0 => exact ⟨(A, qs), v, rfl, hd⟩
  case done =>
    rintro D W' hD ⟨t, v', h1, h2⟩ hK
    exact hdone D t v' W' hD h1 h2 hK
  case hR => exact fun x a' W1 W2 row ⟨b, h1, h2, h3⟩ hg hr => ⟨b, h1, h2, lasts_row _ _ _ _ W1 W2 row h3 hg hr⟩
  case assign =>
    intro l x W1 K hs hK
    have hk := hK _ _ ⟨_, rfl, hs, Row.new W1 48 [.int .i64 x.1, .int .i64 x.2]⟩ ((Below.refl W1.heap.size W1).alloc (Nat.le_refl _) _)
    have HKk := Lib.hid hk
    clear hk hK
    dsimp only [encS]
    simp only [List.setIfInBounds_toArray, List.set_cons_succ, List.set_cons_zero]
    clear hm hdone hstop
    gi_wp2
    exact HKk.out
  case body =>
    rintro l x pre a' W1 hx hpl hs1 ⟨t, v', hv, hr⟩ ⟨b, rfl, hb, h48⟩
    have hxb := mem_step hx
    have htl : t.1.length < maxLen := by
      have h1 := (visit_len _ _ _ _ hv).1
      have h2 : m * m ≤ 5 * 5 := Nat.mul_le_mul (by omega) (by omega)
      unfold maxLen
      dsimp only at h1
      omega
    have ht2 : t.2.length + 1 ≤ 1000000 := by
      have h1 := visit_len _ _ _ _ hv
      have h2 : m * m ≤ 5 * 5 := Nat.mul_le_mul (by omega) (by omega)
      dsimp only at h1
      omega
    have HT2 := Lib.hid ht2
    have HG := Lib.hid hgo
    have HE := Lib.hid hen
    have fa := hfq.after (f := x.1) (t := x.2) (by omega) (by omega) hxb.2.2.2.2
    have hca : Calls Try.prog 54 #[.agg #[.int .i64 (n : Int), .int .i64 p0, .int .i64 p1, .int .i64 p2, .int .i64 p3], .agg #[.int .i64 q0, .int .i64 q1, .int .i64 q2, .int .i64 q3], .agg #[.int .i64 x.1, .int .i64 x.2]] W1 fun e w' =>
        e = .returned (aggI (afterF [p0, p1, p2, p3] [q0, q1, q2, q3] x.1 x.2)) ∧ Below W1.heap.size W1 w' := after_any n [p0, p1, p2, p3] [q0, q1, q2, q3] rfl rfl hfq.2 x.1 x.2 (by omega) (by omega) hxb.2.2.2.2 W1
    obtain ⟨y0, y1, y2, y3, hy⟩ := agg4 _ fa.1
    rw [hy] at fa hca
    have HY := Lib.hid hy
    have HFA := Lib.hid fa
    have HCA := Lib.hid hca
    have HFQ := Lib.hid hfq
    clear ht2 hgo hen hm hdone hstop hd rl rj hxb hpl fa hca hy hfq
    have HP := Lib.hid h48
    have cd : W1.cell? ⟨w.heap.size + 1, 0, none⟩ = some (.func (.func 54) #[.agg #[.int .i64 (n : Int), .int .i64 p0, .int .i64 p1, .int .i64 p2, .int .i64 p3]] #[]) := hr.b.r1.cell 0
    have m0 : W1.cell? ⟨H, 0, none⟩ = some (.int .i64 q0) := hr.rH.cell 0
    have m1 : W1.cell? ⟨H, 1, none⟩ = some (.int .i64 q1) := hr.rH.cell 1
    have m2 : W1.cell? ⟨H, 2, none⟩ = some (.int .i64 q2) := hr.rH.cell 2
    have m3 : W1.cell? ⟨H, 3, none⟩ = some (.int .i64 q3) := hr.rH.cell 3
    have s0 : W1.cell? ⟨b, 0, none⟩ = some (.int .i64 x.1) := h48.cell 0
    have s1 : W1.cell? ⟨b, 1, none⟩ = some (.int .i64 x.2) := h48.cell 1
    have HV := Lib.hid hv
    have HR := Lib.hid hr
    have HX := Lib.hid hx
    clear hv hr hx h48
    gi_wp2_with fail
    refine ⟨trivial, ?_⟩
    refine (CallsIn.inRound l (callsIn_wide.2 HCA.out)).mono ?_
    rintro e W2 ⟨rfl, hb2⟩
    have hr2 := lasts_rd _ w W S R H _ _ _ _ _ _ _ _ hHs (Nat.le_refl _) W1 W2 none HR.out ⟨hb2.os, hb2.tape, hb2.output, hb2.size, fun k hk _ => hb2.block k hk⟩ (fun r e => by cases e)
    have hp2 := HP.out.below hb2 HP.out.lt
    have ba := (Below.refl W2.heap.size W2).alloc (Nat.le_refl _) (.cells #[.int .i64 y0, .int .i64 y1, .int .i64 y2, .int .i64 y3] 77)
    have hr3 := lasts_rd _ w W S R H _ _ _ _ _ _ _ _ hHs (Nat.le_refl _) W2 (W2.alloc (.cells #[.int .i64 y0, .int .i64 y1, .int .i64 y2, .int .i64 y3] 77)) none hr2 ⟨ba.os, ba.tape, ba.output, ba.size, fun k hk _ => ba.block k hk⟩ (fun r e => by cases e)
    have hp3 := hp2.below ba hp2.lt
    have hy3 := Row.new W2 77 [.int .i64 y0, .int .i64 y1, .int .i64 y2, .int .i64 y3]
    have cS : (W2.alloc (.cells #[.int .i64 y0, .int .i64 y1, .int .i64 y2, .int .i64 y3] 77)).cell? ⟨S, 0, none⟩ = some (.map (some (w.heap.size + 1 + 1 + 1 + 1))) := hr3.b.rS.cell 0
    have z0 : (W2.alloc (.cells #[.int .i64 y0, .int .i64 y1, .int .i64 y2, .int .i64 y3] 77)).cell? ⟨W2.heap.size, 0, none⟩ = some (.int .i64 y0) := hy3.cell 0
    have z1 : (W2.alloc (.cells #[.int .i64 y0, .int .i64 y1, .int .i64 y2, .int .i64 y3] 77)).cell? ⟨W2.heap.size, 1, none⟩ = some (.int .i64 y1) := hy3.cell 1
    have z2 : (W2.alloc (.cells #[.int .i64 y0, .int .i64 y1, .int .i64 y2, .int .i64 y3] 77)).cell? ⟨W2.heap.size, 2, none⟩ = some (.int .i64 y2) := hy3.cell 2
    have z3 : (W2.alloc (.cells #[.int .i64 y0, .int .i64 y1, .int .i64 y2, .int .i64 y3] 77)).cell? ⟨W2.heap.size, 3, none⟩ = some (.int .i64 y3) := hy3.cell 3
    obtain ⟨x0, x1, x2, x3, x4, x5, x6, hlk⟩ := look_next hr3.sn HFA.out.fok hr3.ok4
    have bb := (Below.refl (W2.alloc (.cells #[.int .i64 y0, .int .i64 y1, .int .i64 y2, .int .i64 y3] 77)).heap.size (W2.alloc (.cells #[.int .i64 y0, .int .i64 y1, .int .i64 y2, .int .i64 y3] 77))).alloc (Nat.le_refl _) (.cells #[.int .i64 x0, .int .i64 x1, .int .i64 x2, .int .i64 x3, .int .i64 x4, .int .i64 x5, .int .i64 x6] 94)
    have hr4 := lasts_rd _ w W S R H _ _ _ _ _ _ _ _ hHs (Nat.le_refl _) (W2.alloc (.cells #[.int .i64 y0, .int .i64 y1, .int .i64 y2, .int .i64 y3] 77)) ((W2.alloc (.cells #[.int .i64 y0, .int .i64 y1, .int .i64 y2, .int .i64 y3] 77)).alloc (.cells #[.int .i64 x0, .int .i64 x1, .int .i64 x2, .int .i64 x3, .int .i64 x4, .int .i64 x5, .int .i64 x6] 94)) none hr3 ⟨bb.os, bb.tape, bb.output, bb.size, fun k hk _ => bb.block k hk⟩ (fun r e => by cases e)
    have hp4 := hp3.below bb hp3.lt
    have hy4 := hy3.below bb hy3.lt
    have b14 := Below.andThen hb2 (Below.andThen ba bb (Nat.le_refl _)) (Nat.le_refl _)
    have HR4 := Lib.hid hr4
    have HP4 := Lib.hid hp4
    have HY4 := Lib.hid hy4
    have HB4 := Lib.hid b14
    simp only [aggI, List.map_cons, List.map_nil, encI]
    cases hkn : (lookA t.1 [y0, y1, y2, y3]).isSome with
    | true =>
      rw [hkn] at hlk
      have HLK := Lib.hid hlk
      have HKN := Lib.hid hkn
      clear cd m0 m1 m2 m3 s0 s1 hr2 hp2 ba bb hr3 hp3 hy3 hlk hb2 hr4 hp4 hy4 b14 hkn
      gi_wp2_with fail
      rw [HLK.out, Result.andThen_ok]
      gi_wp2_with fail
      refine ⟨KeepsFrom.of_grownBy (row := none) ⟨HB4.out.os, HB4.out.tape, HB4.out.output, HB4.out.size, fun k hk _ => HB4.out.block k hk⟩ (by simp), Keeps2.of_below HB4.out ?_ ?_, t, v', visit_known HV.out (by rw [HY.out]; exact HKN.out), HR4.out⟩
      · have := HR4.out.bw.size; have := HR.out.bw.size; omega
      · have := HR4.out.bw.size; have := HR.out.bw.size; omega
    | false =>
      rw [hkn] at hlk
      have HLK := Lib.hid hlk
      have HKN := Lib.hid hkn
      have c0 : ((W2.alloc (.cells #[.int .i64 y0, .int .i64 y1, .int .i64 y2, .int .i64 y3] 77)).alloc (.cells #[.int .i64 x0, .int .i64 x1, .int .i64 x2, .int .i64 x3, .int .i64 x4, .int .i64 x5, .int .i64 x6] 94)).cell? ⟨S, 0, none⟩ = some (.map (some (w.heap.size + 1 + 1 + 1 + 1))) := hr4.b.rS.cell 0
      have a0 : ((W2.alloc (.cells #[.int .i64 y0, .int .i64 y1, .int .i64 y2, .int .i64 y3] 77)).alloc (.cells #[.int .i64 x0, .int .i64 x1, .int .i64 x2, .int .i64 x3, .int .i64 x4, .int .i64 x5, .int .i64 x6] 94)).cell? ⟨W2.heap.size, 0, none⟩ = some (.int .i64 y0) := hy4.cell 0
      have a1 : ((W2.alloc (.cells #[.int .i64 y0, .int .i64 y1, .int .i64 y2, .int .i64 y3] 77)).alloc (.cells #[.int .i64 x0, .int .i64 x1, .int .i64 x2, .int .i64 x3, .int .i64 x4, .int .i64 x5, .int .i64 x6] 94)).cell? ⟨W2.heap.size, 1, none⟩ = some (.int .i64 y1) := hy4.cell 1
      have a2 : ((W2.alloc (.cells #[.int .i64 y0, .int .i64 y1, .int .i64 y2, .int .i64 y3] 77)).alloc (.cells #[.int .i64 x0, .int .i64 x1, .int .i64 x2, .int .i64 x3, .int .i64 x4, .int .i64 x5, .int .i64 x6] 94)).cell? ⟨W2.heap.size, 2, none⟩ = some (.int .i64 y2) := hy4.cell 2
      have a3 : ((W2.alloc (.cells #[.int .i64 y0, .int .i64 y1, .int .i64 y2, .int .i64 y3] 77)).alloc (.cells #[.int .i64 x0, .int .i64 x1, .int .i64 x2, .int .i64 x3, .int .i64 x4, .int .i64 x5, .int .i64 x6] 94)).cell? ⟨W2.heap.size, 3, none⟩ = some (.int .i64 y3) := hy4.cell 3
      have d0 : ((W2.alloc (.cells #[.int .i64 y0, .int .i64 y1, .int .i64 y2, .int .i64 y3] 77)).alloc (.cells #[.int .i64 x0, .int .i64 x1, .int .i64 x2, .int .i64 x3, .int .i64 x4, .int .i64 x5, .int .i64 x6] 94)).cell? ⟨H, 0, none⟩ = some (.int .i64 q0) := hr4.rH.cell 0
      have d1 : ((W2.alloc (.cells #[.int .i64 y0, .int .i64 y1, .int .i64 y2, .int .i64 y3] 77)).alloc (.cells #[.int .i64 x0, .int .i64 x1, .int .i64 x2, .int .i64 x3, .int .i64 x4, .int .i64 x5, .int .i64 x6] 94)).cell? ⟨H, 1, none⟩ = some (.int .i64 q1) := hr4.rH.cell 1
      have d2 : ((W2.alloc (.cells #[.int .i64 y0, .int .i64 y1, .int .i64 y2, .int .i64 y3] 77)).alloc (.cells #[.int .i64 x0, .int .i64 x1, .int .i64 x2, .int .i64 x3, .int .i64 x4, .int .i64 x5, .int .i64 x6] 94)).cell? ⟨H, 2, none⟩ = some (.int .i64 q2) := hr4.rH.cell 2
      have d3 : ((W2.alloc (.cells #[.int .i64 y0, .int .i64 y1, .int .i64 y2, .int .i64 y3] 77)).alloc (.cells #[.int .i64 x0, .int .i64 x1, .int .i64 x2, .int .i64 x3, .int .i64 x4, .int .i64 x5, .int .i64 x6] 94)).cell? ⟨H, 3, none⟩ = some (.int .i64 q3) := hr4.rH.cell 3
      have e0 : ((W2.alloc (.cells #[.int .i64 y0, .int .i64 y1, .int .i64 y2, .int .i64 y3] 77)).alloc (.cells #[.int .i64 x0, .int .i64 x1, .int .i64 x2, .int .i64 x3, .int .i64 x4, .int .i64 x5, .int .i64 x6] 94)).cell? ⟨b, 0, none⟩ = some (.int .i64 x.1) := hp4.cell 0
      have e1 : ((W2.alloc (.cells #[.int .i64 y0, .int .i64 y1, .int .i64 y2, .int .i64 y3] 77)).alloc (.cells #[.int .i64 x0, .int .i64 x1, .int .i64 x2, .int .i64 x3, .int .i64 x4, .int .i64 x5, .int .i64 x6] 94)).cell? ⟨b, 1, none⟩ = some (.int .i64 x.2) := hp4.cell 1
      have g0 : ((W2.alloc (.cells #[.int .i64 y0, .int .i64 y1, .int .i64 y2, .int .i64 y3] 77)).alloc (.cells #[.int .i64 x0, .int .i64 x1, .int .i64 x2, .int .i64 x3, .int .i64 x4, .int .i64 x5, .int .i64 x6] 94)).cell? ⟨H + 1, 0, none⟩ = some (.int .i64 cn) := hr4.rC.cell 0
      obtain ⟨W5, hput, hs5, hg5⟩ := hr4.sn.put (F := [y0, y1, y2, y3]) HFA.out.fok (⟨[q0, q1, q2, q3], x.1, x.2, cn⟩ : Cm).V htl (seenV_none HKN.out)
      have hr5 := hr4.put hg5 [y0, y1, y2, y3] ⟨[q0, q1, q2, q3], x.1, x.2, cn⟩ rfl hs5
      have hy5 := Row.kept hy4 hg5 (fun e => by have := Option.some.inj e; have := hr2.b.rS.lt; have := hr2.b.hS; omega)
      have HPUT := Lib.hid (show (Instr.mapUpdate 74 (.map (some (w.heap.size + 1 + 1 + 1 + 1))) (.agg #[.int .i64 y0, .int .i64 y1, .int .i64 y2, .int .i64 y3]) (.agg #[.int .i64 q0, .int .i64 q1, .int .i64 q2, .int .i64 q3, .int .i64 x.1, .int .i64 x.2, .int .i64 cn])).run Try.prog _ = .ok () W5 from hput)
      have HR5 := Lib.hid hr5
      have HY5 := Lib.hid hy5
      have HG5 := Lib.hid hg5
      have n0 : W5.cell? ⟨w.heap.size + 1 + 1, 0, none⟩ = some (.func (.func G) #[] caps) := hr5.b.r2.cell 0
      have j0 : W5.cell? ⟨W2.heap.size, 0, none⟩ = some (.int .i64 y0) := hy5.cell 0
      have j1 : W5.cell? ⟨W2.heap.size, 1, none⟩ = some (.int .i64 y1) := hy5.cell 1
      have j2 : W5.cell? ⟨W2.heap.size, 2, none⟩ = some (.int .i64 y2) := hy5.cell 2
      have j3 : W5.cell? ⟨W2.heap.size, 3, none⟩ = some (.int .i64 y3) := hy5.cell 3
      clear cd m0 m1 m2 m3 s0 s1 hr2 hp2 ba bb hr3 hp3 hy3 hlk hb2 hr4 hp4 hy4 b14 hkn hput hs5 hg5 hr5 hy5
      gi_wp2_with fail
      rw [HLK.out, Result.andThen_ok]
      gi_wp2_with fail
      rw [HPUT.out, Result.andThen_ok]
      gi_wp2_with fail
      refine ⟨trivial, ?_⟩
      rw [HE.out, Oper.uponIn_enter]
      refine ⟨fun _ => by omega, (CallsIn.inRound l (callsIn_wide.2 (HG.out W5 y0 y1 y2 y3 HR5.out.bw HFA.out.fok))).mono ?_⟩
      rintro e W6 ⟨rfl, hb6⟩
      have hr6 := lasts_rd _ w W S R H _ _ _ _ _ _ _ _ hHs (Nat.le_refl _) W5 W6 none HR5.out ⟨hb6.os, hb6.tape, hb6.output, hb6.size, fun k hk _ => hb6.block k hk⟩ (fun r e => by cases e)
      have hy6 := HY5.out.below hb6 HY5.out.lt
      have i0 : W6.cell? ⟨W2.heap.size, 0, none⟩ = some (.int .i64 y0) := hy6.cell 0
      have i1 : W6.cell? ⟨W2.heap.size, 1, none⟩ = some (.int .i64 y1) := hy6.cell 1
      have i2 : W6.cell? ⟨W2.heap.size, 2, none⟩ = some (.int .i64 y2) := hy6.cell 2
      have i3 : W6.cell? ⟨W2.heap.size, 3, none⟩ = some (.int .i64 y3) := hy6.cell 3
      have t1 : W6.cell? ⟨R, 1, none⟩ = some (.int .i64 0) := hr6.rR.cell 1
      have t2 : W6.cell? ⟨R, 2, none⟩ = some (.int .i64 0) := hr6.rR.cell 2
      have t3 : W6.cell? ⟨R, 3, none⟩ = some (.int .i64 0) := hr6.rR.cell 3
      have t4 : W6.cell? ⟨R, 4, none⟩ = some (.int .i64 0) := hr6.rR.cell 4
      have t5 : W6.cell? ⟨R, 5, none⟩ = some (.bool false) := hr6.rR.cell 5
      have k1 := frozen_of_row W6 R 1 _ _ hr6.rR
      have k2 := frozen_of_row W6 R 2 _ _ hr6.rR
      have k3 := frozen_of_row W6 R 3 _ _ hr6.rR
      have k4 := frozen_of_row W6 R 4 _ _ hr6.rR
      have k5 := frozen_of_row W6 R 5 _ _ hr6.rR
      have HR6 := Lib.hid hr6
      have HY6 := Lib.hid hy6
      have HB6 := Lib.hid hb6
      clear n0 j0 j1 j2 j3 hr6 hy6 hb6
      cases hgg : gl [y0, y1, y2, y3] with
      | true =>
        have HGG := Lib.hid hgg
        clear hgg
        gi_wp2_with fail
        have hS0 := HR6.out.b.hS
        have hR0 := HR6.out.hR
        have hH0 := HR6.out.hH
        have rr := ((((HR6.out.rR.set 1 (.int .i64 y0)).set 2 (.int .i64 y1)).set 3 (.int .i64 y2)).set 4 (.int .i64 y3)).set 5 (.bool true)
        have G7 := five_set W6 R (.int .i64 y0) (.int .i64 y1) (.int .i64 y2) (.int .i64 y3) (.bool true)
        generalize (((((W6.setCell ⟨R, 1, none⟩ (.int .i64 y0)).setCell ⟨R, 2, none⟩ (.int .i64 y1)).setCell ⟨R, 3, none⟩ (.int .i64 y2)).setCell ⟨R, 4, none⟩ (.int .i64 y3)).setCell ⟨R, 5, none⟩ (.bool true)) = W7 at *
        refine ⟨(((keeps_below HB4.out).trans (keeps_row HG5.out (by omega))).trans (keeps_below HB6.out)).trans (keeps_row G7 (by omega)), rfl, ⟨(([y0, y1, y2, y3], ⟨[q0, q1, q2, q3], x.1, x.2, cn⟩) :: t.1, t.2), y0, y1, y2, y3, ?_, ?_⟩⟩
        · have h := visit_goal (x := x) HV.out (by rw [HY.out]; exact HKN.out) (by rw [HY.out]; exact HGG.out)
          rw [HY.out] at h
          exact h
        · exact ⟨HR6.out.b.kept G7 hR0, rr, HR6.out.sn.kept G7 (fun e => by have := Option.some.inj e; omega), HR6.out.bw.grown G7 HR6.out.bw.size (fun k e => by have := Option.some.inj e; omega), hR0, fun D hD h0 => mark_row (HR6.out.mrk D hD h0) G7 HR6.out.rR⟩
      | false =>
        have HGG := Lib.hid hgg
        have l0 : W6.cell? ⟨R + 1 + 1, 0, none⟩ = some v' := HR6.out.rQ.cell 0
        have b6 := (Below.refl W6.heap.size W6).alloc (Nat.le_refl _) (.cells #[.int .i64 y0, .int .i64 y1, .int .i64 y2, .int .i64 y3] 77)
        have rn := Row.new W6 77 [.int .i64 y0, .int .i64 y1, .int .i64 y2, .int .i64 y3]
        have hr7 := lasts_rd _ w W S R H _ _ _ _ _ _ _ _ hHs (Nat.le_refl _) W6 _ none HR6.out ⟨b6.os, b6.tape, b6.output, b6.size, fun k hk _ => b6.block k hk⟩ (fun r e => by cases e)
        obtain ⟨v7, W7, hap, hq7, hg7, ho7⟩ := hr7.q.push [y0, y1, y2, y3] rfl ⟨W6.heap.size, 0, none⟩ 1 (fun j u hj => by rw [Go.WideShapes.add_plain]; simp only [Nat.zero_add]; rw [Row.cell rn]; exact hj) HT2.out (Nat.zero_le _) 102
        have HAP := Lib.hid hap
        have HR7 := Lib.hid hr7
        have HG7 := Lib.hid hg7
        have HO7 := Lib.hid ho7
        have HB7 := Lib.hid b6
        have hr8 := hr7.push hq7 hg7 ho7 (by rw [size_al]; have := HR6.out.rC.lt; omega)
        have rq7 := Row.kept hr7.rQ hg7 (fun e => (hr7.ap _ e.symm).2.1 rfl)
        have u0 : W7.cell? ⟨R + 1 + 1, 0, none⟩ = some v' := rq7.cell 0
        have u1 := frozen_of_row W7 (R + 1 + 1) 0 _ _ rq7
        have kk : KeepsFrom W.heap.size (W6.alloc (.cells #[.int .i64 y0, .int .i64 y1, .int .i64 y2, .int .i64 y3] 77)) W7 := by
          obtain ⟨_, g9, o9, c9, cur9, rfl, _, hh9, _⟩ := hr7.q
          exact ⟨hg7.size, fun i o hB hi ho => (hg7.block i (Array.getElem?_eq_some_iff.1 hi).1 (fun e => by
            have e2 := Option.some.inj e
            subst e2
            rw [hh9] at hi; cases hi; cases ho)).trans hi⟩
        have HKK := Lib.hid kk
        obtain ⟨_, g7, o7, c7, _, rfl, _⟩ := hq7
        rw [show (t.2 ++ [[y0, y1, y2, y3]]).length = t.2.length + 1 by simp] at hr8
        have HR8 := Lib.hid hr8
        clear hgg t1 t2 t3 t4 t5 k1 k2 k3 k4 k5 b6 rn hr7 hr8 kk rq7 hap hg7 ho7
        gi_wp2_with (gi_at_builtin; refine wpListIn_append_run rfl _ _ 102 rfl _ _ _ _ rfl rfl HAP.out ?_)
        have hS0 := HR6.out.b.hS
        have hR0 := HR6.out.hR
        have hH0 := HR6.out.hH
        refine ⟨((((keeps_below HB4.out).trans (keeps_row HG5.out (by omega))).trans (keeps_below HB6.out)).trans ((keeps_below HB7.out).trans HKK.out)).trans (keeps_row (one_set _ _ _ _) (by omega)), ⟨?_, (HR8.out.bw.block bl hbl).trans (HR.out.bw.block bl hbl).symm, (HR8.out.bw.block bj hbj).trans (HR.out.bw.block bj hbj).symm⟩, ⟨(([y0, y1, y2, y3], ⟨[q0, q1, q2, q3], x.1, x.2, cn⟩) :: t.1, t.2 ++ [[y0, y1, y2, y3]]), _, ?_, HR8.out⟩⟩
        · have e1 := HB4.out.size
          have e2 := HG5.out.size
          have e3 := HB6.out.size
          have e4 := HB7.out.size
          have e5 := HKK.out.size
          have e6 := (one_set W7 (R + 1 + 1) 0 (.slice (some ⟨g7, o7, none⟩) (t.2.length + 1) c7)).size
          omega
        · have h := visit_new (x := x) HV.out (by rw [HY.out]; exact HKN.out) (by rw [HY.out]; exact HGG.out)
          rw [HY.out] at h
          exact h
  case stop =>
    rintro D c pre W' hD hp ⟨rfl, t, g0, g1, g2, g3, h1, h2⟩ hK
    exact wpIn_exit (hstop D t g0 g1 g2 g3 W' hD (visit_pre hp h1) h2 hK)
end Go.Proofs.Ytlamppplnojpbaa
namespace Go.Proofs.Ytlamppplnojpbaa
open Go.RowKit Go.Shelf
attribute [local go_sem] Oper.semAt_some
theorem field94 (x0 x1 x2 x3 x4 x5 x6 : Int) (W : World) : (Instr.field 94 (.agg #[.int .i64 x0, .int .i64 x1, .int .i64 x2, .int .i64 x3, .int .i64 x4, .int .i64 x5, .int .i64 x6]) 2).run Try.prog W = .ok (.int .i64 x6) W := by kernel_rfl
theorem bfs_pos {P : List Int} {gl : List Int → Bool} {ss : List (Int × Int)} {k : Nat} {A : Sn} {qs : List (List Int)} {r : Sn × Option (List Int)} (h : bfs P gl ss k A qs = some r) : 1 ≤ k := by
  cases k with
  | zero => simp [bfs] at h
  | succ k => omega
theorem bfs_next {P : List Int} {gl : List Int → Bool} {ss : List (Int × Int)} {k : Nat} {A : Sn} {q : List Int} {qs : List (List Int)} {r : Sn × Option (List Int)} {cn : Int} {t : Sn × List (List Int)} (h : bfs P gl ss k A (q :: qs) = some r) (hc : cntA A q = cn) (hv : visit P gl q cn ss (A, qs) = (t, none)) :
    bfs P gl ss (k - 1) t.1 t.2 = some r := by
  cases k with
  | zero => simp [bfs] at h
  | succ k =>
    rw [bfs] at h
    unfold cntA at hc
    rw [hc, hv] at h
    exact h
theorem bfs_stop {P : List Int} {gl : List Int → Bool} {ss : List (Int × Int)} {k : Nat} {A : Sn} {q : List Int} {qs : List (List Int)} {r : Sn × Option (List Int)} {cn : Int} {t : Sn × List (List Int)} {g : List Int} (h : bfs P gl ss k A (q :: qs) = some r) (hc : cntA A q = cn) (hv : visit P gl q cn ss (A, qs) = (t, some g)) :
    r = (t.1, some g) := by
  cases k with
  | zero => simp [bfs] at h
  | succ k =>
    rw [bfs] at h
    unfold cntA at hc
    rw [hc, hv] at h
    exact (Option.some.inj h).symm
theorem stepsL_len (ls : Int) (m : Nat) (hm : m ≤ 5) : (stepsL ls m).length ≤ 25 := by
  have h1 := flat_len (fun a : Nat => rowL ls (ls + (a : Int)) m) m (fun a => rowL_len _ _ _) m
  have h2 : m * m ≤ 5 * 5 := Nat.mul_le_mul hm hm
  unfold stepsL
  omega
theorem lp_next {w W3 W4 W' : World} {S R H : Nat} {F : List Int} {fd fg : Value} {P : List Int} {gl : List Int → Bool} {k : Nat} {A : Sn} {q : List Int} {qs : List (List Int)} {v v' : Value} {cn : Int} {t : Sn × List (List Int)} {ls : Int} {m n : Nat}
    (hL : Lp w S R F fd fg P k A qs v W3) (hk : 1 ≤ k) (hn : n ≤ 4) (hls : ls = -1 ∨ ls = 0) (hm : (n : Int) = ls + (m : Int)) (hfq : FitP P q) (hcn : 1 ≤ cn ∧ cn + k ≤ 1000001) (hv : visit P gl q cn (stepsL ls m) (A, qs) = (t, none))
    (hr : Rd w W4 S R H F fd fg q cn t.1 t.2 v' W') : Lp w S R F fd fg P (k - 1) t.1 t.2 v' W' := by
  have hx := visit_len _ _ _ _ hv
  have hl := hL.len
  have h25 := stepsL_len ls m (by omega)
  dsimp only at hx
  have hkeep := visit_keeps (P := P) (gl := gl) (here := q) (cnt := cn) (fun F => FitP P F) (fun c => c.frm.length = 4 ∧ 0 ≤ c.k ∧ c.k + (k - 1 : Nat) ≤ 1000000) (stepsL ls m) (A, qs) t none
    (fun x hx => by
      have hs := mem_step hx
      exact ⟨hfq.after (by omega) (by omega) hs.2.2.2.2, hfq.1, by dsimp only; omega, by dsimp only; omega⟩)
    (fun p hp => by have h := hL.okA p hp; exact ⟨h.1, h.2.1, h.2.2.1, by have := h.2.2.2; omega⟩) hL.okQ hv
  exact ⟨hr.b, hr.rR, hr.rQ, hr.q, fun g e => ⟨(hr.ap g e).1, (hr.ap g e).2.1⟩, hr.sn, hr.bw, hr.hR, ⟨by omega, by omega⟩, hkeep.1, hkeep.2⟩
theorem rd_start {w W3 : World} {S R H : Nat} {F : List Int} {fd fg : Value} {P : List Int} {k : Nat} {A : Sn} {q : List Int} {qs : List (List Int)} {v : Value} (hL : Lp w S R F fd fg P k A qs v W3) (h7 : Row W3 H 77 (q.map encI)) (hz : W3.heap.size = H + 1) (hR2 : R + 1 + 1 < H) (hg : ∀ g, v.ownBlock = some g → g < H) (cn : Int) :
    Rd w (W3.alloc (.cells #[.int .i64 cn] 3)) S R H F fd fg q cn A qs v (W3.alloc (.cells #[.int .i64 cn] 3)) := by
  have b := (Below.refl W3.heap.size W3).alloc (Nat.le_refl _) (.cells #[.int .i64 cn] 3)
  have r := Row.new W3 3 [.int .i64 cn]
  have G : W3.grownBy (W3.alloc (.cells #[.int .i64 cn] 3)) none := ⟨b.os, b.tape, b.output, b.size, fun k hk _ => b.block k hk⟩
  rw [hz] at r
  exact ⟨hL.b.below b hL.b.rS.lt, hL.rR.below b hL.rR.lt, hL.rQ.below b hL.rQ.lt, h7.below b h7.lt, r, hL.q.kept G (fun e => by obtain ⟨_, g, o, c, cur, rfl, _⟩ := hL.q; simp [Value.ownBlock] at e), fun g e => ⟨(hL.ap g e).1, (hL.ap g e).2, by have := hg g e; omega, by have := hg g e; omega⟩, hL.sn.grow b,
    Below.andThen hL.bw b (Nat.le_refl _), hL.hR, hR2, fun p hp => (hL.okA p hp).2.1, fun D _ h => h⟩
theorem pop_row {w W3 : World} {S R g : Nat} {F : List Int} {fd fg : Value} {P : List Int} {k : Nat} {A : Sn} {qs : List (List Int)} {v : Value} {E : TypeId} {vs : List Value} (h : Row w g E vs) (hL : Lp w S R F fd fg P k A qs v W3) (o : Obj) : Row (W3.alloc o) g E vs :=
  h.below (Below.andThen hL.bw ((Below.refl W3.heap.size W3).alloc (Nat.le_refl _) o) (Nat.le_refl _)) h.lt
/-- the marks, and one more -/
theorem marks_next {w W W3 W' : World} {R D : Nat} {ds : List Deferred}
    (h : Marks R ds W) (hrR : Row W R 89 [.map (some (w.heap.size + 1 + 1 + 1 + 1)), .int .i64 0, .int .i64 0, .int .i64 0, .int .i64 0, .bool false]) (h3 : ∀ D', R < D' → W.heap[D']? = some (.deferred (some [])) → W3.heap[D']? = some (.deferred (some []))) (hz : W.heap.size ≤ W3.heap.size) (hm : ∀ D', R < D' → W3.heap[D']? = some (.deferred (some [])) → W'.heap[D']? = some (.deferred (some []))) (hD : W3.heap.size ≤ D)
    (hd : W'.heap[D]? = some (.deferred (some []))) : Marks R ({ target := .collected D, args := #[] } :: ds) W' :=
  h.cons (by omega) (by have := hrR.lt; omega) (fun D' hB hd' => by
    have hne : R ≠ D' := fun e => by subst e; rw [show W.heap[R]? = _ from hrR] at hd'; cases hd'
    exact hm D' (by omega) (h3 D' (by omega) hd')) hd
theorem pop_mark {W : World} {R D : Nat} {o o2 : Obj} {v v0 : Value} (rQ : Row W (R + 1 + 1) 102 [v0]) (h : W.heap[D]? = some (.deferred (some []))) : (((W.alloc o).setCell ⟨R + 1 + 1, 0, none⟩ v).alloc o2).heap[D]? = some (.deferred (some [])) := by
  have b := (Below.refl W.heap.size W).alloc (Nat.le_refl _) o
  have h2 : (W.alloc o).heap[D]? = some (.deferred (some [])) := by rw [b.block D (Array.getElem?_eq_some_iff.1 h).1]; exact h
  have h3 := mark_row h2 (one_set (W.alloc o) (R + 1 + 1) 0 v) (rQ.below b rQ.lt)
  have b4 := (Below.refl ((W.alloc o).setCell ⟨R + 1 + 1, 0, none⟩ v).heap.size ((W.alloc o).setCell ⟨R + 1 + 1, 0, none⟩ v)).alloc (Nat.le_refl _) o2
  rw [b4.block D (Array.getElem?_eq_some_iff.1 h3).1]; exact h3
set_option maxRecDepth 100000 in
set_option maxHeartbeats 1000000 in
theorem search_walk (f0 f1 f2 f3 : Int) (gl : List Int → Bool) (G : FuncId) (caps : Array Value) (n : Nat) (p0 p1 p2 p3 ls : Int) (m : Nat) (hn : n ≤ 4) (hls : ls = -1 ∨ ls = 0) (hm : (n : Int) = ls + (m : Int)) (bl bj : Nat) (w : World) (rl : Row w bl 3 [.int .i64 ls]) (rj : Row w bj 80 [.int .i64 (n : Int), .int .i64 p0, .int .i64 p1, .int .i64 p2, .int .i64 p3])
   (hf : Fok [f0, f1, f2, f3])
  (hen : ∀ args W, (callFunc G args).run Try.prog W = .ok (.enter G args) W)
  (hg : ∀ W x0 x1 x2 x3, Below w.heap.size w W → Fok [x0, x1, x2, x3] → Calls Try.prog G (#[.agg #[.int .i64 x0, .int .i64 x1, .int .i64 x2, .int .i64 x3]] ++ caps) W fun e w' => e = .returned (.bool (gl [x0, x1, x2, x3])) ∧ Below W.heap.size W w')
  (hgl : gl [f0, f1, f2, f3] = false) (hfit : FitP [p0, p1, p2, p3] [f0, f1, f2, f3]) (k : Nat) (hk : k ≤ 30000) (res : Sn × Option (List Int)) (hbfs : bfs [p0, p1, p2, p3] gl (stepsL ls m) k [([f0, f1, f2, f3], c0)] [[f0, f1, f2, f3]] = some res) :
    Calls Try.prog 57 #[.agg #[.int .i64 f0, .int .i64 f1, .int .i64 f2, .int .i64 f3], .func (.func 70) #[] #[.pointer (some ⟨bl, 0, none⟩), .pointer (some ⟨bj, 0, none⟩)], .func (.func 54) #[.agg #[.int .i64 (n : Int), .int .i64 p0, .int .i64 p1, .int .i64 p2, .int .i64 p3]] #[], .func (.func G) #[] caps] w fun e w' => e = .returned (.agg #[.map (some (w.heap.size + 1 + 1 + 1 + 1)), .int .i64 ((res.2.getD [0, 0, 0, 0]).getD 0 0), .int .i64 ((res.2.getD [0, 0, 0, 0]).getD 1 0), .int .i64 ((res.2.getD [0, 0, 0, 0]).getD 2 0), .int .i64 ((res.2.getD [0, 0, 0, 0]).getD 3 0), .bool res.2.isSome]) ∧ SeenAt w' (w.heap.size + 1 + 1 + 1 + 1) res.1.length (seenV res.1) ∧ Below w.heap.size w w' := by
  have HRL := Lib.hid rl
  have HRJ := Lib.hid rj
  have hbl := rl.lt
  have hbj := rj.lt
  have HM0 := Lib.hid hm
  have HLS := Lib.hid hls
  clear rl rj hm hls
  have HG := Lib.hid hg
  have HBF := Lib.hid hbfs
  clear hbfs
  have HE := Lib.hid hen
  clear hg hen
  have HF := Lib.hid hf
  obtain ⟨V, W1, S, hr, hV, hW, hz, hB, hs, bw⟩ := search_start2 w f0 f1 f2 f3 hf (.func (.func 54) #[.agg #[.int .i64 (n : Int), .int .i64 p0, .int .i64 p1, .int .i64 p2, .int .i64 p3]] #[]) (.func (.func G) #[] caps)
  clear hf
  have HS := Lib.hid hs
  have HR := Lib.hid hr
  have HB := Lib.hid hB
  have HW := Lib.hid hW
  have HV := Lib.hid hV
  have HZ := Lib.hid hz
  clear hr hs hV hW hz
  have hmm := @run_makeMap Try.prog
  refine callsIn_wide.1 (callsIn_of_wp_marks (F := Fence.wide) (n := 4) Try.func57 rfl trivial (wpIn_wide.2 ?_) rfl)
  simp only [Try.ntmps57, List.size_toArray, List.length_cons, List.length_nil, Nat.reduceAdd, Nat.reduceSub, Array.replicate_succ, Array.replicate_zero, List.push_toArray, List.append_toArray, List.nil_append, List.cons_append]
  go_wp2_with fail
  go_step3
  go_wp2_with fail
  rw [HR.out, Result.andThen_ok]
  have c2 : W1.cell? ⟨w.heap.size + 1 + 1, 0, none⟩ = some (.func (.func G) #[] caps) := hB.r2.cell 0
  have q0 : W1.cell? ⟨w.heap.size, 0, none⟩ = some (.int .i64 f0) := hB.r0.cell 0
  have q1 : W1.cell? ⟨w.heap.size, 1, none⟩ = some (.int .i64 f1) := hB.r0.cell 1
  have q2 : W1.cell? ⟨w.heap.size, 2, none⟩ = some (.int .i64 f2) := hB.r0.cell 2
  have q3 : W1.cell? ⟨w.heap.size, 3, none⟩ = some (.int .i64 f3) := hB.r0.cell 3
  rw [← HW.out] at c2 q0 q1 q2 q3
  clear hB
  go_wp2_with fail
  rw [HE.out, Oper.upon_enter]
  clear c2 q0 q1 q2 q3
  rw [HW.out, HV.out]
  refine (HG.out _ f0 f1 f2 f3 bw HF.out).mono ?_
  rintro e w1 ⟨rfl, hb1⟩
  rw [hgl]
  have hB1 := HB.out.below hb1 (by rw [HZ.out]; omega)
  have hs1 := HS.out.grow hb1
  have cS : w1.cell? ⟨S, 0, none⟩ = some (.map (some (w.heap.size + 1 + 1 + 1 + 1))) := hB1.rS.cell 0
  have hB2 : SrB (w1.alloc (.cells #[.map (some (w.heap.size + 1 + 1 + 1 + 1)), .int .i64 0, .int .i64 0, .int .i64 0, .int .i64 0, .bool false] 89)) w.heap.size S [f0, f1, f2, f3] (.func (.func 54) #[.agg #[.int .i64 (n : Int), .int .i64 p0, .int .i64 p1, .int .i64 p2, .int .i64 p3]] #[]) (.func (.func G) #[] caps) :=
    hB1.below ((Below.refl _ _).alloc (Nat.le_refl _) _) hB1.rS.lt
  have q0 : (w1.alloc (.cells #[.map (some (w.heap.size + 1 + 1 + 1 + 1)), .int .i64 0, .int .i64 0, .int .i64 0, .int .i64 0, .bool false] 89)).cell? ⟨w.heap.size, 0, none⟩ = some (.int .i64 f0) := hB2.r0.cell 0
  have q1 : (w1.alloc (.cells #[.map (some (w.heap.size + 1 + 1 + 1 + 1)), .int .i64 0, .int .i64 0, .int .i64 0, .int .i64 0, .bool false] 89)).cell? ⟨w.heap.size, 1, none⟩ = some (.int .i64 f1) := hB2.r0.cell 1
  have q2 : (w1.alloc (.cells #[.map (some (w.heap.size + 1 + 1 + 1 + 1)), .int .i64 0, .int .i64 0, .int .i64 0, .int .i64 0, .bool false] 89)).cell? ⟨w.heap.size, 2, none⟩ = some (.int .i64 f2) := hB2.r0.cell 2
  have q3 : (w1.alloc (.cells #[.map (some (w.heap.size + 1 + 1 + 1 + 1)), .int .i64 0, .int .i64 0, .int .i64 0, .int .i64 0, .bool false] 89)).cell? ⟨w.heap.size, 3, none⟩ = some (.int .i64 f3) := hB2.r0.cell 3
  have HB1 := Lib.hid hB1
  have HS1 := Lib.hid hs1
  have HL := Lib.hid (lp_start w w1 S f0 f1 f2 f3 (.func (.func 54) #[.agg #[.int .i64 (n : Int), .int .i64 p0, .int .i64 p1, .int .i64 p2, .int .i64 p3]] #[]) (.func (.func G) #[] caps) [p0, p1, p2, p3] k hk hfit hB1 hs1 (Below.andThen bw hb1 (Nat.le_refl _)))
  have HK1 := Lib.hid hb1
  clear hs1 hB1 hB2 hb1 hbl hbj bw
  go_wp2_with fail
  go_step3
  go_wp2_with fail
  refine wp_loop_ghost (fun (k : Nat) (a : Act) (W : World) => ∃ (u12 u13 u14 u15 u16 u17 u18 u19 u20 u21 u22 u23 u24 u25 u26 u27 u28 u29 u30 u31 u32 u33 u34 u35 u36 u37 u38 u39 u40 u41 u42 u43 u44 u45 u46 u47 u48 u49 u50 u51 u52 u53 u54 u55 u56 u57 u58 u59 u60 u61 u62 u63 u64 u65 u66 u67 u68 u69 u70 u71 u72 u73 u74 : Value) (ds : List Deferred) (A : Sn) (qs : List (List Int)) (v : Value), a = { tmps := #[.agg #[.int .i64 f0, .int .i64 f1, .int .i64 f2, .int .i64 f3], .func (.func 70) #[] #[.pointer (some ⟨bl, 0, none⟩), .pointer (some ⟨bj, 0, none⟩)], .func (.func 54) #[.agg #[.int .i64 (n : Int), .int .i64 p0, .int .i64 p1, .int .i64 p2, .int .i64 p3]] #[], .func (.func G) #[] caps, .pointer (some ⟨w.heap.size, 0, none⟩), undef, .pointer (some ⟨w.heap.size + 1, 0, none⟩), .pointer (some ⟨w.heap.size + 1 + 1, 0, none⟩), .pointer (some ⟨w.heap.size + 1 + 1 + 1, 0, none⟩), .pointer (some ⟨S, 0, none⟩), .pointer (some ⟨w1.heap.size, 0, none⟩), .pointer (some ⟨w1.heap.size + 1 + 1, 0, none⟩), u12, u13, u14, u15, u16, u17, u18, u19, u20, u21, u22, u23, u24, u25, u26, u27, u28, u29, u30, u31, u32, u33, u34, u35, u36, u37, u38, u39, u40, u41, u42, u43, u44, u45, u46, u47, u48, u49, u50, u51, u52, u53, u54, u55, u56, u57, u58, u59, u60, u61, u62, u63, u64, u65, u66, u67, u68, u69, u70, u71, u72, u73, u74], defers := ds } ∧ Marks w1.heap.size ds W ∧ Lp w S w1.heap.size [f0, f1, f2, f3] (.func (.func 54) #[.agg #[.int .i64 (n : Int), .int .i64 p0, .int .i64 p1, .int .i64 p2, .int .i64 p3]] #[]) (.func (.func G) #[] caps) [p0, p1, p2, p3] k A qs v W ∧ bfs [p0, p1, p2, p3] gl (stepsL ls m) k A qs = some res) k ?start ?round
  case start =>
    exact ⟨_, _, _, _, _, _, _, _, _, _, _, _, _, _, _, _, _, _, _, _, _, _, _, _, _, _, _, _, _, _, _, _, _, _, _, _, _, _, _, _, _, _, _, _, _, _, _, _, _, _, _, _, _, _, _, _, _, _, _, _, _, _, _, [], _, _, _, rfl, marks_nil _ _, HL.out, HBF.out⟩
  case round =>
    rintro k a W ⟨u12, u13, u14, u15, u16, u17, u18, u19, u20, u21, u22, u23, u24, u25, u26, u27, u28, u29, u30, u31, u32, u33, u34, u35, u36, u37, u38, u39, u40, u41, u42, u43, u44, u45, u46, u47, u48, u49, u50, u51, u52, u53, u54, u55, u56, u57, u58, u59, u60, u61, u62, u63, u64, u65, u66, u67, u68, u69, u70, u71, u72, u73, u74, ds, A, qs, v, rfl, hm, hl, hbf⟩
    dsimp only
    obtain ⟨h4, g, off, cap, cur, rfl, hb0, hh, hc, hmx, hsz, htk⟩ := hl.q
    cases qs with
    | nil =>
      have cQ : W.cell? ⟨w1.heap.size + 1 + 1, 0, none⟩ = some (.slice (some ⟨g, off, none⟩) 0 cap) := hl.rQ.cell 0
      have p0 : W.cell? ⟨w1.heap.size, 0, none⟩ = some (.map (some (w.heap.size + 1 + 1 + 1 + 1))) := hl.rR.cell 0
      have p1 : W.cell? ⟨w1.heap.size, 1, none⟩ = some (.int .i64 0) := hl.rR.cell 1
      have p2 : W.cell? ⟨w1.heap.size, 2, none⟩ = some (.int .i64 0) := hl.rR.cell 2
      have p3 : W.cell? ⟨w1.heap.size, 3, none⟩ = some (.int .i64 0) := hl.rR.cell 3
      have p4 : W.cell? ⟨w1.heap.size, 4, none⟩ = some (.int .i64 0) := hl.rR.cell 4
      have p5 : W.cell? ⟨w1.heap.size, 5, none⟩ = some (.bool false) := hl.rR.cell 5
      have t0 : W.cell? ⟨w.heap.size + 1 + 1 + 1, 0, none⟩ = some (.map none) := hl.b.r3.cell 0
      have k0 := frozen_of_row W (w.heap.size + 1 + 1 + 1) 0 _ _ hl.b.r3
      have t1 : W.cell? ⟨w.heap.size + 1 + 1 + 1, 1, none⟩ = some (.int .i64 0) := hl.b.r3.cell 1
      have k1 := frozen_of_row W (w.heap.size + 1 + 1 + 1) 1 _ _ hl.b.r3
      have t2 : W.cell? ⟨w.heap.size + 1 + 1 + 1, 2, none⟩ = some (.int .i64 0) := hl.b.r3.cell 2
      have k2 := frozen_of_row W (w.heap.size + 1 + 1 + 1) 2 _ _ hl.b.r3
      have t3 : W.cell? ⟨w.heap.size + 1 + 1 + 1, 3, none⟩ = some (.int .i64 0) := hl.b.r3.cell 3
      have k3 := frozen_of_row W (w.heap.size + 1 + 1 + 1) 3 _ _ hl.b.r3
      have t4 : W.cell? ⟨w.heap.size + 1 + 1 + 1, 4, none⟩ = some (.int .i64 0) := hl.b.r3.cell 4
      have k4 := frozen_of_row W (w.heap.size + 1 + 1 + 1) 4 _ _ hl.b.r3
      have t5 : W.cell? ⟨w.heap.size + 1 + 1 + 1, 5, none⟩ = some (.bool false) := hl.b.r3.cell 5
      have k5 := frozen_of_row W (w.heap.size + 1 + 1 + 1) 5 _ _ hl.b.r3
      have HL := Lib.hid hl
      have HM := Lib.hid hm
      have HB := Lib.hid hbf
      clear hl hm hbf htk hh hsz hmx hc hb0 h4
      go_wp2_with fail
      rw [Exit.noGoto_ret]
      have hres : res = (A, none) := by
        have h := HB.out
        cases k with
        | zero => simp [bfs] at h
        | succ k => rw [bfs] at h; cases h; rfl
      subst hres
      have hr3 := (((((HL.out.b.r3.set 0 (.map (some (w.heap.size + 1 + 1 + 1 + 1)))).set 1 (.int .i64 0)).set 2 (.int .i64 0)).set 3 (.int .i64 0)).set 4 (.int .i64 0)).set 5 (.bool false)
      have hN := HL.out.b.hS
      have hSR := HL.out.hR
      have hsz3 := HL.out.b.r3.lt
      have G6 : W.grownBy ((((((W.setCell ⟨w.heap.size + 1 + 1 + 1, 0, none⟩ (.map (some (w.heap.size + 1 + 1 + 1 + 1)))).setCell ⟨w.heap.size + 1 + 1 + 1, 1, none⟩ (.int .i64 0)).setCell ⟨w.heap.size + 1 + 1 + 1, 2, none⟩ (.int .i64 0)).setCell ⟨w.heap.size + 1 + 1 + 1, 3, none⟩ (.int .i64 0)).setCell ⟨w.heap.size + 1 + 1 + 1, 4, none⟩ (.int .i64 0)).setCell ⟨w.heap.size + 1 + 1 + 1, 5, none⟩ (.bool false)) (some (w.heap.size + 1 + 1 + 1)) := six_set W _ _ _ _ _ _ _
      generalize ((((((W.setCell ⟨w.heap.size + 1 + 1 + 1, 0, none⟩ (.map (some (w.heap.size + 1 + 1 + 1 + 1)))).setCell ⟨w.heap.size + 1 + 1 + 1, 1, none⟩ (.int .i64 0)).setCell ⟨w.heap.size + 1 + 1 + 1, 2, none⟩ (.int .i64 0)).setCell ⟨w.heap.size + 1 + 1 + 1, 3, none⟩ (.int .i64 0)).setCell ⟨w.heap.size + 1 + 1 + 1, 4, none⟩ (.int .i64 0)).setCell ⟨w.heap.size + 1 + 1 + 1, 5, none⟩ (.bool false)) = W6 at *
      refine leaves_marks (B := w1.heap.size) (fun X => Row X (w.heap.size + 1 + 1 + 1) 89 [.map (some (w.heap.size + 1 + 1 + 1 + 1)), .int .i64 0, .int .i64 0, .int .i64 0, .int .i64 0, .bool false] ∧ SeenAt X (w.heap.size + 1 + 1 + 1 + 1) A.length (seenV A) ∧ Below w.heap.size w X)
        ((lasts_row _ _ _ _).and ((lasts_seen _ _ _ _ (by omega)).and (lasts_below _ _ _ (by omega) (Nat.le_refl _)))) ?leave ds _ (HM.out.keeps (fun D hD hd => by rw [G6.block D (Array.getElem?_eq_some_iff.1 hd).1 (fun e => by have := Option.some.inj e; omega)]; exact hd)) ⟨hr3, HL.out.sn.kept G6 (fun e => by have := Option.some.inj e; omega), HL.out.bw.grown G6 HL.out.bw.size (fun k e => by have := Option.some.inj e; omega)⟩
      rintro X ⟨x3, xs, xb⟩
      have e0 : X.cell? ⟨w.heap.size + 1 + 1 + 1, 0, none⟩ = some (.map (some (w.heap.size + 1 + 1 + 1 + 1))) := x3.cell 0
      have e1 : X.cell? ⟨w.heap.size + 1 + 1 + 1, 1, none⟩ = some (.int .i64 0) := x3.cell 1
      have e2 : X.cell? ⟨w.heap.size + 1 + 1 + 1, 2, none⟩ = some (.int .i64 0) := x3.cell 2
      have e3 : X.cell? ⟨w.heap.size + 1 + 1 + 1, 3, none⟩ = some (.int .i64 0) := x3.cell 3
      have e4 : X.cell? ⟨w.heap.size + 1 + 1 + 1, 4, none⟩ = some (.int .i64 0) := x3.cell 4
      have e5 : X.cell? ⟨w.heap.size + 1 + 1 + 1, 5, none⟩ = some (.bool false) := x3.cell 5
      refine ⟨.agg #[.map (some (w.heap.size + 1 + 1 + 1 + 1)), .int .i64 0, .int .i64 0, .int .i64 0, .int .i64 0, .bool false], ?_, rfl, xs, xb⟩
      simp [results, Try.results57, go_sem, e0, e1, e2, e3, e4, e5]
    | cons q qs =>
      obtain ⟨q0, q1, q2, q3, rfl⟩ := agg4 q (h4 q (by simp))
      obtain ⟨g', off', cap', he, hc', hq4⟩ := hl.q.head
      cases he
      have cQ : W.cell? ⟨w1.heap.size + 1 + 1, 0, none⟩ = some (.slice (some ⟨g, off, none⟩) (qs.length + 1) cap) := hl.rQ.cell 0
      have d0 : W.cell? ⟨g, off, none⟩ = some (.int .i64 q0) := by simpa using hq4 0 (by simp)
      have d1 : W.cell? ⟨g, off + 1, none⟩ = some (.int .i64 q1) := by simpa using hq4 1 (by simp)
      have d2 : W.cell? ⟨g, off + 2, none⟩ = some (.int .i64 q2) := by simpa using hq4 2 (by simp)
      have d3 : W.cell? ⟨g, off + 3, none⟩ = some (.int .i64 q3) := by simpa using hq4 3 (by simp)
      have cQ2 : (W.alloc (.cells #[.int .i64 q0, .int .i64 q1, .int .i64 q2, .int .i64 q3] 77)).cell? ⟨w1.heap.size + 1 + 1, 0, none⟩ = some (.slice (some ⟨g, off, none⟩) (qs.length + 1) cap) := (hl.rQ.below ((Below.refl _ _).alloc (Nat.le_refl _) _) hl.rQ.lt).cell 0
      have kQ2 := frozen_of_row (W.alloc (.cells #[.int .i64 q0, .int .i64 q1, .int .i64 q2, .int .i64 q3] 77)) (w1.heap.size + 1 + 1) 0 _ _ (hl.rQ.below ((Below.refl _ _).alloc (Nat.le_refl _) _) hl.rQ.lt)
      have HL := Lib.hid hl
      have HM := Lib.hid hm
      have HB := Lib.hid hbf
      have HK0 := Lib.hid (bfs_pos hbf)
      have HHG := Lib.hid (show g < W.heap.size from (Array.getElem?_eq_some_iff.1 hh).1)
      have hc1 : 1 ≤ cap := by omega
      have fq := (hl.okQ [q0, q1, q2, q3] List.mem_cons_self).fok
      rcases (show cap = 1 ∨ 1 < cap by omega) with hcc | hcc
      · subst hcc
        obtain ⟨hL3, r3, z3⟩ := lp_pop hl off 0 (.inr ⟨rfl, rfl, rfl⟩)
        have hq0 : qs.length = 0 := by simpa using hc
        rw [hq0] at hL3 r3 z3
        have HQ0 := Lib.hid hq0
        clear hq0
        have cS3 : ((W.alloc (.cells #[.int .i64 q0, .int .i64 q1, .int .i64 q2, .int .i64 q3] 77)).setCell ⟨w1.heap.size + 1 + 1, 0, none⟩ (.slice (some ⟨g, off, none⟩) 0 0)).cell? ⟨S, 0, none⟩ = some (.map (some (w.heap.size + 1 + 1 + 1 + 1))) := hL3.b.rS.cell 0
        have m0 : ((W.alloc (.cells #[.int .i64 q0, .int .i64 q1, .int .i64 q2, .int .i64 q3] 77)).setCell ⟨w1.heap.size + 1 + 1, 0, none⟩ (.slice (some ⟨g, off, none⟩) 0 0)).cell? ⟨W.heap.size, 0, none⟩ = some (.int .i64 q0) := r3.cell 0
        have m1 : ((W.alloc (.cells #[.int .i64 q0, .int .i64 q1, .int .i64 q2, .int .i64 q3] 77)).setCell ⟨w1.heap.size + 1 + 1, 0, none⟩ (.slice (some ⟨g, off, none⟩) 0 0)).cell? ⟨W.heap.size, 1, none⟩ = some (.int .i64 q1) := r3.cell 1
        have m2 : ((W.alloc (.cells #[.int .i64 q0, .int .i64 q1, .int .i64 q2, .int .i64 q3] 77)).setCell ⟨w1.heap.size + 1 + 1, 0, none⟩ (.slice (some ⟨g, off, none⟩) 0 0)).cell? ⟨W.heap.size, 2, none⟩ = some (.int .i64 q2) := r3.cell 2
        have m3 : ((W.alloc (.cells #[.int .i64 q0, .int .i64 q1, .int .i64 q2, .int .i64 q3] 77)).setCell ⟨w1.heap.size + 1 + 1, 0, none⟩ (.slice (some ⟨g, off, none⟩) 0 0)).cell? ⟨W.heap.size, 3, none⟩ = some (.int .i64 q3) := r3.cell 3
        obtain ⟨x0, x1, x2, x3, x4, x5, hlk⟩ := look_here hL3.sn fq (fun p hp => (hL3.okA p hp).2.1)
        have HLK := Lib.hid hlk
        have HL3 := Lib.hid hL3
        have HZ3 := Lib.hid z3
        have H7 := Lib.hid r3
        have hcnt : 1 ≤ cntA A [q0, q1, q2, q3] ∧ cntA A [q0, q1, q2, q3] ≤ 1000001 := by
          unfold cntA
          cases hlA : lookA A [q0, q1, q2, q3] with
          | none => simp
          | some c => have := (hl.okA _ (lookA_mem _ _ _ hlA)).2; dsimp only at this; simp only [Option.map_some, Option.getD_some]; omega
        have HFQ := Lib.hid (hl.okQ [q0, q1, q2, q3] List.mem_cons_self)
        have HCK := Lib.hid (show cntA A [q0, q1, q2, q3] + k ≤ 1000001 by
          have hk1 := hl.len
          unfold cntA
          cases hlA : lookA A [q0, q1, q2, q3] with
          | none => simp only [Option.map_none, Option.getD_none]; omega
          | some c => have := (hl.okA _ (lookA_mem _ _ _ hlA)).2; dsimp only at this; simp only [Option.map_some, Option.getD_some]; omega)
        generalize hcq : cntA A [q0, q1, q2, q3] = cn at *
        have HCN := Lib.hid hcq
        obtain ⟨hcn1, hcn2⟩ := hcnt
        clear hl hm hbf htk hh hsz hmx hc hb0 h4 hq4 hL3 r3 z3 hlk fq hcq
        go_wp2_with fail
        rw [HLK.out, Result.andThen_ok]
        have hwr : IntKind.i64.wrap (cn - 1 + 1) = cn := by rw [show cn - 1 + 1 = cn by omega]; exact i64_of cn (by omega) (by omega)
        go_wp2_with fail
        rw [field94, Result.andThen_ok]
        go_wp2_with fail
        refine search_range f0 f1 f2 f3 q0 q1 q2 q3 cn gl G caps n p0 p1 p2 p3 ls m hn HLS.out HM0.out bl bj S w1.heap.size W.heap.size w _ _ _ _ _ _ _ _ _ _ _ _ _ _ _ _ _ _ _ _ _ _ _ _ _ _ _ _ _ _ _ _ _ _ _ _ _ _ _ _ _ _ _ _ _ _ _ _ _ _ _ _ _ _ _ _ _ _ _ _ ds _ _ A qs (.slice (some ⟨g, off, none⟩) 0 0) ?crl1 ?crj1 ?chd1 ?chs1 ?cln1 ?clq1 HE.out HG.out HRL.out.lt HRJ.out.lt HFQ.out ?cdone1 ?cstop1 _ (by kernel_rfl)
        case crl1 => exact pop_row HRL.out HL3.out _
        case crj1 => exact pop_row HRJ.out HL3.out _
        case chd1 => exact rd_start HL3.out H7.out HZ3.out (by have := HL.out.rQ.lt; omega) (fun g2 he => by have := HHG.out; simp only [Value.ownBlock, Option.some.injEq] at he; omega) cn
        case chs1 => rw [size_al, HZ3.out]; omega
        case cln1 => have := HL3.out.len; have := HK0.out; omega
        case clq1 => exact HL3.out.len.2
        case cdone1 =>
          intro D t v' W' hD hv hr hd
          have HV := Lib.hid hv
          have HR := Lib.hid hr
          have HD := Lib.hid hD
          have HDF := Lib.hid hd
          clear hv hr hD hd
          dsimp only
          refine ⟨k - 1, by have := HK0.out; omega, _, _, _, _, _, _, _, _, _, _, _, _, _, _, _, _, _, _, _, _, _, _, _, _, _, _, _, _, _, _, _, _, _, _, _, _, _, _, _, _, _, _, _, _, _, _, _, _, _, _, _, _, _, _, _, _, _, _, _, _, _, _, _, _, t.1, t.2, v', rfl, ?_, ?_, bfs_next HB.out HCN.out HV.out⟩
          · exact marks_next HM.out HL.out.rR (fun D' _ h => pop_mark HL.out.rQ h) (by rw [size_al, HZ3.out]; omega) HR.out.mrk HD.out HDF.out
          · exact lp_next HL3.out HK0.out hn HLS.out HM0.out HFQ.out ⟨hcn1, HCK.out⟩ HV.out HR.out
        case cstop1 =>
          intro D t g0 g1 g2 g3 W' hD hv hr hd
          have HV := Lib.hid hv
          have HX := Lib.hid hr
          have HD := Lib.hid hD
          have HDF := Lib.hid hd
          have hres : res = (t.1, some [g0, g1, g2, g3]) := bfs_stop HB.out HCN.out HV.out
          subst hres
          have p0 : W'.cell? ⟨w1.heap.size, 0, none⟩ = some (.map (some (w.heap.size + 1 + 1 + 1 + 1))) := hr.rR.cell 0
          have p1 : W'.cell? ⟨w1.heap.size, 1, none⟩ = some (.int .i64 g0) := hr.rR.cell 1
          have p2 : W'.cell? ⟨w1.heap.size, 2, none⟩ = some (.int .i64 g1) := hr.rR.cell 2
          have p3 : W'.cell? ⟨w1.heap.size, 3, none⟩ = some (.int .i64 g2) := hr.rR.cell 3
          have p4 : W'.cell? ⟨w1.heap.size, 4, none⟩ = some (.int .i64 g3) := hr.rR.cell 4
          have p5 : W'.cell? ⟨w1.heap.size, 5, none⟩ = some (.bool true) := hr.rR.cell 5
          have t0 : W'.cell? ⟨w.heap.size + 1 + 1 + 1, 0, none⟩ = some (.map none) := hr.b.r3.cell 0
          have k0 := frozen_of_row W' (w.heap.size + 1 + 1 + 1) 0 _ _ hr.b.r3
          have t1 : W'.cell? ⟨w.heap.size + 1 + 1 + 1, 1, none⟩ = some (.int .i64 0) := hr.b.r3.cell 1
          have k1 := frozen_of_row W' (w.heap.size + 1 + 1 + 1) 1 _ _ hr.b.r3
          have t2 : W'.cell? ⟨w.heap.size + 1 + 1 + 1, 2, none⟩ = some (.int .i64 0) := hr.b.r3.cell 2
          have k2 := frozen_of_row W' (w.heap.size + 1 + 1 + 1) 2 _ _ hr.b.r3
          have t3 : W'.cell? ⟨w.heap.size + 1 + 1 + 1, 3, none⟩ = some (.int .i64 0) := hr.b.r3.cell 3
          have k3 := frozen_of_row W' (w.heap.size + 1 + 1 + 1) 3 _ _ hr.b.r3
          have t4 : W'.cell? ⟨w.heap.size + 1 + 1 + 1, 4, none⟩ = some (.int .i64 0) := hr.b.r3.cell 4
          have k4 := frozen_of_row W' (w.heap.size + 1 + 1 + 1) 4 _ _ hr.b.r3
          have t5 : W'.cell? ⟨w.heap.size + 1 + 1 + 1, 5, none⟩ = some (.bool false) := hr.b.r3.cell 5
          have k5 := frozen_of_row W' (w.heap.size + 1 + 1 + 1) 5 _ _ hr.b.r3
          clear hr hv hD hd
          dsimp only
          simp only [Exit.inBlock]
          go_wp2_with fail
          rw [Exit.noGoto_ret]
          have hr3 := ((((((HX.out.b.r3.set 0 (.map (some (w.heap.size + 1 + 1 + 1 + 1)))).set 1 (.int .i64 g0)).set 2 (.int .i64 g1)).set 3 (.int .i64 g2)).set 4 (.int .i64 g3)).set 5 (.bool true))
          have hN := HX.out.b.hS
          have hSR := HX.out.hR
          have hsz3 := HX.out.b.r3.lt
          have G6 : W'.grownBy ((((((W'.setCell ⟨w.heap.size + 1 + 1 + 1, 0, none⟩ (.map (some (w.heap.size + 1 + 1 + 1 + 1)))).setCell ⟨w.heap.size + 1 + 1 + 1, 1, none⟩ (.int .i64 g0)).setCell ⟨w.heap.size + 1 + 1 + 1, 2, none⟩ (.int .i64 g1)).setCell ⟨w.heap.size + 1 + 1 + 1, 3, none⟩ (.int .i64 g2)).setCell ⟨w.heap.size + 1 + 1 + 1, 4, none⟩ (.int .i64 g3)).setCell ⟨w.heap.size + 1 + 1 + 1, 5, none⟩ (.bool true)) (some (w.heap.size + 1 + 1 + 1)) := six_set W' _ _ _ _ _ _ _
          have hmk : Marks w1.heap.size ({ target := .collected D, args := #[] } :: ds) W' := marks_next HM.out HL.out.rR (fun D' _ h => pop_mark HL.out.rQ h) (by rw [size_al, HZ3.out]; omega) HX.out.mrk HD.out HDF.out
          generalize ((((((W'.setCell ⟨w.heap.size + 1 + 1 + 1, 0, none⟩ (.map (some (w.heap.size + 1 + 1 + 1 + 1)))).setCell ⟨w.heap.size + 1 + 1 + 1, 1, none⟩ (.int .i64 g0)).setCell ⟨w.heap.size + 1 + 1 + 1, 2, none⟩ (.int .i64 g1)).setCell ⟨w.heap.size + 1 + 1 + 1, 3, none⟩ (.int .i64 g2)).setCell ⟨w.heap.size + 1 + 1 + 1, 4, none⟩ (.int .i64 g3)).setCell ⟨w.heap.size + 1 + 1 + 1, 5, none⟩ (.bool true)) = W6 at *
          refine leaves_marks (B := w1.heap.size) (fun X => Row X (w.heap.size + 1 + 1 + 1) 89 [.map (some (w.heap.size + 1 + 1 + 1 + 1)), .int .i64 g0, .int .i64 g1, .int .i64 g2, .int .i64 g3, .bool true] ∧ SeenAt X (w.heap.size + 1 + 1 + 1 + 1) t.1.length (seenV t.1) ∧ Below w.heap.size w X)
            ((lasts_row _ _ _ _).and ((lasts_seen _ _ _ _ (by omega)).and (lasts_below _ _ _ (by omega) (Nat.le_refl _)))) ?cleave1 ({ target := .collected D, args := #[] } :: ds) _ (hmk.keeps (fun D' hD' hd' => by rw [G6.block D' (Array.getElem?_eq_some_iff.1 hd').1 (fun e => by have := Option.some.inj e; omega)]; exact hd')) ⟨hr3, HX.out.sn.kept G6 (fun e => by have := Option.some.inj e; omega), HX.out.bw.grown G6 HX.out.bw.size (fun k e => by have := Option.some.inj e; omega)⟩
          rintro X ⟨x3, xs, xb⟩
          have e0 : X.cell? ⟨w.heap.size + 1 + 1 + 1, 0, none⟩ = some (.map (some (w.heap.size + 1 + 1 + 1 + 1))) := x3.cell 0
          have e1 : X.cell? ⟨w.heap.size + 1 + 1 + 1, 1, none⟩ = some (.int .i64 g0) := x3.cell 1
          have e2 : X.cell? ⟨w.heap.size + 1 + 1 + 1, 2, none⟩ = some (.int .i64 g1) := x3.cell 2
          have e3 : X.cell? ⟨w.heap.size + 1 + 1 + 1, 3, none⟩ = some (.int .i64 g2) := x3.cell 3
          have e4 : X.cell? ⟨w.heap.size + 1 + 1 + 1, 4, none⟩ = some (.int .i64 g3) := x3.cell 4
          have e5 : X.cell? ⟨w.heap.size + 1 + 1 + 1, 5, none⟩ = some (.bool true) := x3.cell 5
          refine ⟨.agg #[.map (some (w.heap.size + 1 + 1 + 1 + 1)), .int .i64 g0, .int .i64 g1, .int .i64 g2, .int .i64 g3, .bool true], ?_, rfl, xs, xb⟩
          simp [results, Try.results57, go_sem, e0, e1, e2, e3, e4, e5]
      · have hcn : ¬ cap = 1 := by omega
        obtain ⟨hL3, r3, z3⟩ := lp_pop hl (off + 4) (cap - 1) (.inl ⟨hcc, rfl, rfl⟩)
        have cS3 : ((W.alloc (.cells #[.int .i64 q0, .int .i64 q1, .int .i64 q2, .int .i64 q3] 77)).setCell ⟨w1.heap.size + 1 + 1, 0, none⟩ (.slice (some ⟨g, off + 4, none⟩) qs.length (cap - 1))).cell? ⟨S, 0, none⟩ = some (.map (some (w.heap.size + 1 + 1 + 1 + 1))) := hL3.b.rS.cell 0
        have m0 : ((W.alloc (.cells #[.int .i64 q0, .int .i64 q1, .int .i64 q2, .int .i64 q3] 77)).setCell ⟨w1.heap.size + 1 + 1, 0, none⟩ (.slice (some ⟨g, off + 4, none⟩) qs.length (cap - 1))).cell? ⟨W.heap.size, 0, none⟩ = some (.int .i64 q0) := r3.cell 0
        have m1 : ((W.alloc (.cells #[.int .i64 q0, .int .i64 q1, .int .i64 q2, .int .i64 q3] 77)).setCell ⟨w1.heap.size + 1 + 1, 0, none⟩ (.slice (some ⟨g, off + 4, none⟩) qs.length (cap - 1))).cell? ⟨W.heap.size, 1, none⟩ = some (.int .i64 q1) := r3.cell 1
        have m2 : ((W.alloc (.cells #[.int .i64 q0, .int .i64 q1, .int .i64 q2, .int .i64 q3] 77)).setCell ⟨w1.heap.size + 1 + 1, 0, none⟩ (.slice (some ⟨g, off + 4, none⟩) qs.length (cap - 1))).cell? ⟨W.heap.size, 2, none⟩ = some (.int .i64 q2) := r3.cell 2
        have m3 : ((W.alloc (.cells #[.int .i64 q0, .int .i64 q1, .int .i64 q2, .int .i64 q3] 77)).setCell ⟨w1.heap.size + 1 + 1, 0, none⟩ (.slice (some ⟨g, off + 4, none⟩) qs.length (cap - 1))).cell? ⟨W.heap.size, 3, none⟩ = some (.int .i64 q3) := r3.cell 3
        obtain ⟨x0, x1, x2, x3, x4, x5, hlk⟩ := look_here hL3.sn fq (fun p hp => (hL3.okA p hp).2.1)
        have HLK := Lib.hid hlk
        have HL3 := Lib.hid hL3
        have HZ3 := Lib.hid z3
        have H7 := Lib.hid r3
        have hcnt : 1 ≤ cntA A [q0, q1, q2, q3] ∧ cntA A [q0, q1, q2, q3] ≤ 1000001 := by
          unfold cntA
          cases hlA : lookA A [q0, q1, q2, q3] with
          | none => simp
          | some c => have := (hl.okA _ (lookA_mem _ _ _ hlA)).2; dsimp only at this; simp only [Option.map_some, Option.getD_some]; omega
        have HFQ := Lib.hid (hl.okQ [q0, q1, q2, q3] List.mem_cons_self)
        have HCK := Lib.hid (show cntA A [q0, q1, q2, q3] + k ≤ 1000001 by
          have hk1 := hl.len
          unfold cntA
          cases hlA : lookA A [q0, q1, q2, q3] with
          | none => simp only [Option.map_none, Option.getD_none]; omega
          | some c => have := (hl.okA _ (lookA_mem _ _ _ hlA)).2; dsimp only at this; simp only [Option.map_some, Option.getD_some]; omega)
        generalize hcq : cntA A [q0, q1, q2, q3] = cn at *
        have HCN := Lib.hid hcq
        obtain ⟨hcn1, hcn2⟩ := hcnt
        clear hl hm hbf htk hh hsz hmx hc hb0 h4 hq4 hL3 r3 z3 hlk fq hcq
        go_wp2_with fail
        rw [HLK.out, Result.andThen_ok]
        have hwr : IntKind.i64.wrap (cn - 1 + 1) = cn := by rw [show cn - 1 + 1 = cn by omega]; exact i64_of cn (by omega) (by omega)
        go_wp2_with fail
        rw [field94, Result.andThen_ok]
        go_wp2_with fail
        refine search_range f0 f1 f2 f3 q0 q1 q2 q3 cn gl G caps n p0 p1 p2 p3 ls m hn HLS.out HM0.out bl bj S w1.heap.size W.heap.size w _ _ _ _ _ _ _ _ _ _ _ _ _ _ _ _ _ _ _ _ _ _ _ _ _ _ _ _ _ _ _ _ _ _ _ _ _ _ _ _ _ _ _ _ _ _ _ _ _ _ _ _ _ _ _ _ _ _ _ _ ds _ _ A qs (.slice (some ⟨g, off + 4, none⟩) qs.length (cap - 1)) ?crl2 ?crj2 ?chd2 ?chs2 ?cln2 ?clq2 HE.out HG.out HRL.out.lt HRJ.out.lt HFQ.out ?cdone2 ?cstop2 _ (by kernel_rfl)
        case crl2 => exact pop_row HRL.out HL3.out _
        case crj2 => exact pop_row HRJ.out HL3.out _
        case chd2 => exact rd_start HL3.out H7.out HZ3.out (by have := HL.out.rQ.lt; omega) (fun g2 he => by have := HHG.out; simp only [Value.ownBlock, Option.some.injEq] at he; omega) cn
        case chs2 => rw [size_al, HZ3.out]; omega
        case cln2 => have := HL3.out.len; have := HK0.out; omega
        case clq2 => exact HL3.out.len.2
        case cdone2 =>
          intro D t v' W' hD hv hr hd
          have HV := Lib.hid hv
          have HR := Lib.hid hr
          have HD := Lib.hid hD
          have HDF := Lib.hid hd
          clear hv hr hD hd
          dsimp only
          refine ⟨k - 1, by have := HK0.out; omega, _, _, _, _, _, _, _, _, _, _, _, _, _, _, _, _, _, _, _, _, _, _, _, _, _, _, _, _, _, _, _, _, _, _, _, _, _, _, _, _, _, _, _, _, _, _, _, _, _, _, _, _, _, _, _, _, _, _, _, _, _, _, _, _, t.1, t.2, v', rfl, ?_, ?_, bfs_next HB.out HCN.out HV.out⟩
          · exact marks_next HM.out HL.out.rR (fun D' _ h => pop_mark HL.out.rQ h) (by rw [size_al, HZ3.out]; omega) HR.out.mrk HD.out HDF.out
          · exact lp_next HL3.out HK0.out hn HLS.out HM0.out HFQ.out ⟨hcn1, HCK.out⟩ HV.out HR.out
        case cstop2 =>
          intro D t g0 g1 g2 g3 W' hD hv hr hd
          have HV := Lib.hid hv
          have HX := Lib.hid hr
          have HD := Lib.hid hD
          have HDF := Lib.hid hd
          have hres : res = (t.1, some [g0, g1, g2, g3]) := bfs_stop HB.out HCN.out HV.out
          subst hres
          have p0 : W'.cell? ⟨w1.heap.size, 0, none⟩ = some (.map (some (w.heap.size + 1 + 1 + 1 + 1))) := hr.rR.cell 0
          have p1 : W'.cell? ⟨w1.heap.size, 1, none⟩ = some (.int .i64 g0) := hr.rR.cell 1
          have p2 : W'.cell? ⟨w1.heap.size, 2, none⟩ = some (.int .i64 g1) := hr.rR.cell 2
          have p3 : W'.cell? ⟨w1.heap.size, 3, none⟩ = some (.int .i64 g2) := hr.rR.cell 3
          have p4 : W'.cell? ⟨w1.heap.size, 4, none⟩ = some (.int .i64 g3) := hr.rR.cell 4
          have p5 : W'.cell? ⟨w1.heap.size, 5, none⟩ = some (.bool true) := hr.rR.cell 5
          have t0 : W'.cell? ⟨w.heap.size + 1 + 1 + 1, 0, none⟩ = some (.map none) := hr.b.r3.cell 0
          have k0 := frozen_of_row W' (w.heap.size + 1 + 1 + 1) 0 _ _ hr.b.r3
          have t1 : W'.cell? ⟨w.heap.size + 1 + 1 + 1, 1, none⟩ = some (.int .i64 0) := hr.b.r3.cell 1
          have k1 := frozen_of_row W' (w.heap.size + 1 + 1 + 1) 1 _ _ hr.b.r3
          have t2 : W'.cell? ⟨w.heap.size + 1 + 1 + 1, 2, none⟩ = some (.int .i64 0) := hr.b.r3.cell 2
          have k2 := frozen_of_row W' (w.heap.size + 1 + 1 + 1) 2 _ _ hr.b.r3
          have t3 : W'.cell? ⟨w.heap.size + 1 + 1 + 1, 3, none⟩ = some (.int .i64 0) := hr.b.r3.cell 3
          have k3 := frozen_of_row W' (w.heap.size + 1 + 1 + 1) 3 _ _ hr.b.r3
          have t4 : W'.cell? ⟨w.heap.size + 1 + 1 + 1, 4, none⟩ = some (.int .i64 0) := hr.b.r3.cell 4
          have k4 := frozen_of_row W' (w.heap.size + 1 + 1 + 1) 4 _ _ hr.b.r3
          have t5 : W'.cell? ⟨w.heap.size + 1 + 1 + 1, 5, none⟩ = some (.bool false) := hr.b.r3.cell 5
          have k5 := frozen_of_row W' (w.heap.size + 1 + 1 + 1) 5 _ _ hr.b.r3
          clear hr hv hD hd
          dsimp only
          simp only [Exit.inBlock]
          go_wp2_with fail
          rw [Exit.noGoto_ret]
          have hr3 := ((((((HX.out.b.r3.set 0 (.map (some (w.heap.size + 1 + 1 + 1 + 1)))).set 1 (.int .i64 g0)).set 2 (.int .i64 g1)).set 3 (.int .i64 g2)).set 4 (.int .i64 g3)).set 5 (.bool true))
          have hN := HX.out.b.hS
          have hSR := HX.out.hR
          have hsz3 := HX.out.b.r3.lt
          have G6 : W'.grownBy ((((((W'.setCell ⟨w.heap.size + 1 + 1 + 1, 0, none⟩ (.map (some (w.heap.size + 1 + 1 + 1 + 1)))).setCell ⟨w.heap.size + 1 + 1 + 1, 1, none⟩ (.int .i64 g0)).setCell ⟨w.heap.size + 1 + 1 + 1, 2, none⟩ (.int .i64 g1)).setCell ⟨w.heap.size + 1 + 1 + 1, 3, none⟩ (.int .i64 g2)).setCell ⟨w.heap.size + 1 + 1 + 1, 4, none⟩ (.int .i64 g3)).setCell ⟨w.heap.size + 1 + 1 + 1, 5, none⟩ (.bool true)) (some (w.heap.size + 1 + 1 + 1)) := six_set W' _ _ _ _ _ _ _
          have hmk : Marks w1.heap.size ({ target := .collected D, args := #[] } :: ds) W' := marks_next HM.out HL.out.rR (fun D' _ h => pop_mark HL.out.rQ h) (by rw [size_al, HZ3.out]; omega) HX.out.mrk HD.out HDF.out
          generalize ((((((W'.setCell ⟨w.heap.size + 1 + 1 + 1, 0, none⟩ (.map (some (w.heap.size + 1 + 1 + 1 + 1)))).setCell ⟨w.heap.size + 1 + 1 + 1, 1, none⟩ (.int .i64 g0)).setCell ⟨w.heap.size + 1 + 1 + 1, 2, none⟩ (.int .i64 g1)).setCell ⟨w.heap.size + 1 + 1 + 1, 3, none⟩ (.int .i64 g2)).setCell ⟨w.heap.size + 1 + 1 + 1, 4, none⟩ (.int .i64 g3)).setCell ⟨w.heap.size + 1 + 1 + 1, 5, none⟩ (.bool true)) = W6 at *
          refine leaves_marks (B := w1.heap.size) (fun X => Row X (w.heap.size + 1 + 1 + 1) 89 [.map (some (w.heap.size + 1 + 1 + 1 + 1)), .int .i64 g0, .int .i64 g1, .int .i64 g2, .int .i64 g3, .bool true] ∧ SeenAt X (w.heap.size + 1 + 1 + 1 + 1) t.1.length (seenV t.1) ∧ Below w.heap.size w X)
            ((lasts_row _ _ _ _).and ((lasts_seen _ _ _ _ (by omega)).and (lasts_below _ _ _ (by omega) (Nat.le_refl _)))) ?cleave2 ({ target := .collected D, args := #[] } :: ds) _ (hmk.keeps (fun D' hD' hd' => by rw [G6.block D' (Array.getElem?_eq_some_iff.1 hd').1 (fun e => by have := Option.some.inj e; omega)]; exact hd')) ⟨hr3, HX.out.sn.kept G6 (fun e => by have := Option.some.inj e; omega), HX.out.bw.grown G6 HX.out.bw.size (fun k e => by have := Option.some.inj e; omega)⟩
          rintro X ⟨x3, xs, xb⟩
          have e0 : X.cell? ⟨w.heap.size + 1 + 1 + 1, 0, none⟩ = some (.map (some (w.heap.size + 1 + 1 + 1 + 1))) := x3.cell 0
          have e1 : X.cell? ⟨w.heap.size + 1 + 1 + 1, 1, none⟩ = some (.int .i64 g0) := x3.cell 1
          have e2 : X.cell? ⟨w.heap.size + 1 + 1 + 1, 2, none⟩ = some (.int .i64 g1) := x3.cell 2
          have e3 : X.cell? ⟨w.heap.size + 1 + 1 + 1, 3, none⟩ = some (.int .i64 g2) := x3.cell 3
          have e4 : X.cell? ⟨w.heap.size + 1 + 1 + 1, 4, none⟩ = some (.int .i64 g3) := x3.cell 4
          have e5 : X.cell? ⟨w.heap.size + 1 + 1 + 1, 5, none⟩ = some (.bool true) := x3.cell 5
          refine ⟨.agg #[.map (some (w.heap.size + 1 + 1 + 1 + 1)), .int .i64 g0, .int .i64 g1, .int .i64 g2, .int .i64 g3, .bool true], ?_, rfl, xs, xb⟩
          simp [results, Try.results57, go_sem, e0, e1, e2, e3, e4, e5]
end Go.Proofs.Ytlamppplnojpbaa
namespace Go.Proofs.Ytlamppplnojpbaa
open Go.RowKit Go.Shelf
attribute [local go_sem] Oper.semAt_some
/-- the search from a filling -/
def srch (P : List Int) (gl : List Int → Bool) (ss : List (Int × Int)) (k : Nat) (F : List Int) : Option (Sn × Option (List Int)) :=
  if gl F = true then some ([(F, c0)], some F) else bfs P gl ss k [(F, c0)] [F]
theorem search_any (f0 f1 f2 f3 : Int) (gl : List Int → Bool) (G : FuncId) (caps : Array Value) (n : Nat) (p0 p1 p2 p3 ls : Int) (m : Nat) (hn : n ≤ 4) (hls : ls = -1 ∨ ls = 0) (hm : (n : Int) = ls + (m : Int)) (bl bj : Nat) (w : World)
    (rl : Row w bl 3 [.int .i64 ls]) (rj : Row w bj 80 [.int .i64 (n : Int), .int .i64 p0, .int .i64 p1, .int .i64 p2, .int .i64 p3])
    (hen : ∀ args W, (callFunc G args).run Try.prog W = .ok (.enter G args) W)
    (hg : ∀ W x0 x1 x2 x3, Below w.heap.size w W → Fok [x0, x1, x2, x3] → Calls Try.prog G (#[.agg #[.int .i64 x0, .int .i64 x1, .int .i64 x2, .int .i64 x3]] ++ caps) W fun e w' => e = .returned (.bool (gl [x0, x1, x2, x3])) ∧ Below W.heap.size W w')
    (hfit : FitP [p0, p1, p2, p3] [f0, f1, f2, f3]) (k : Nat) (hk : k ≤ 30000) (res : Sn × Option (List Int)) (hres : srch [p0, p1, p2, p3] gl (stepsL ls m) k [f0, f1, f2, f3] = some res) :
    Calls Try.prog 57 #[.agg #[.int .i64 f0, .int .i64 f1, .int .i64 f2, .int .i64 f3], .func (.func 70) #[] #[.pointer (some ⟨bl, 0, none⟩), .pointer (some ⟨bj, 0, none⟩)], .func (.func 54) #[.agg #[.int .i64 (n : Int), .int .i64 p0, .int .i64 p1, .int .i64 p2, .int .i64 p3]] #[], .func (.func G) #[] caps] w
      fun e w' => e = .returned (.agg #[.map (some (w.heap.size + 1 + 1 + 1 + 1)), .int .i64 ((res.2.getD [0, 0, 0, 0]).getD 0 0), .int .i64 ((res.2.getD [0, 0, 0, 0]).getD 1 0), .int .i64 ((res.2.getD [0, 0, 0, 0]).getD 2 0), .int .i64 ((res.2.getD [0, 0, 0, 0]).getD 3 0), .bool res.2.isSome]) ∧ SeenAt w' (w.heap.size + 1 + 1 + 1 + 1) res.1.length (seenV res.1) ∧ Below w.heap.size w w' := by
  unfold srch at hres
  cases hgl : gl [f0, f1, f2, f3] with
  | true =>
    rw [if_pos hgl] at hres
    cases hres
    exact search_goal f0 f1 f2 f3 gl G caps _ bl bj w rl.lt rj.lt hfit.fok hen hg hgl
  | false =>
    rw [if_neg (by rw [hgl]; simp)] at hres
    exact search_walk f0 f1 f2 f3 gl G caps n p0 p1 p2 p3 ls m hn hls hm bl bj w rl rj hfit.fok hen hg hgl hfit k hk res hres
/-! the search ends -/
theorem nodup_le : ∀ (N : Nat) (l : List Nat), l.Nodup → (∀ x ∈ l, x < N) → l.length ≤ N
  | 0, [], _, _ => Nat.le_refl _
  | 0, x :: _, _, h => absurd (h x List.mem_cons_self) (Nat.not_lt_zero _)
  | N + 1, l, hn, h => by
    by_cases hm : N ∈ l
    · have h1 := nodup_le N (l.erase N) (hn.erase N) (fun x hx => by
        have h2 := (hn.mem_erase_iff).1 hx
        have := h x h2.2
        omega)
      rw [List.length_erase_of_mem hm] at h1
      omega
    · have h1 := nodup_le N l hn (fun x hx => by
        have := h x hx
        have : x ≠ N := fun e => hm (e ▸ hx)
        omega)
      omega
def codeF (F : List Int) : Nat := (((F.getD 0 0 * 13 + F.getD 1 0) * 13 + F.getD 2 0) * 13 + F.getD 3 0).toNat
theorem codeF_lt {P F : List Int} (h : FitP P F) : codeF F < 28561 := by
  have h0 := h.2 0 (by omega)
  have h1 := h.2 1 (by omega)
  have h2 := h.2 2 (by omega)
  have h3 := h.2 3 (by omega)
  unfold codeF
  omega
theorem codeF_inj {P F G : List Int} (h : FitP P F) (h' : FitP P G) (e : codeF F = codeF G) : F = G := by
  have h0 := h.2 0 (by omega)
  have h1 := h.2 1 (by omega)
  have h2 := h.2 2 (by omega)
  have h3 := h.2 3 (by omega)
  have g0 := h'.2 0 (by omega)
  have g1 := h'.2 1 (by omega)
  have g2 := h'.2 2 (by omega)
  have g3 := h'.2 3 (by omega)
  obtain ⟨a, b, c, d, rfl⟩ := agg4 F h.1
  obtain ⟨a', b', c', d', rfl⟩ := agg4 G h'.1
  unfold codeF at e
  simp only [List.getD_cons_zero, List.getD_cons_succ] at *
  have e1 : a = a' := by omega
  have e2 : b = b' := by omega
  have e3 : c = c' := by omega
  have e4 : d = d' := by omega
  rw [e1, e2, e3, e4]
theorem nodup_map_code {P : List Int} : ∀ l : List (List Int), (∀ F ∈ l, FitP P F) → l.Nodup → (l.map codeF).Nodup
  | [], _, _ => List.nodup_nil
  | F :: l, h, hn => by
    obtain ⟨h1, h2⟩ := List.nodup_cons.1 hn
    rw [List.map_cons, List.nodup_cons]
    refine ⟨fun hm => ?_, nodup_map_code l (fun G hG => h G (List.mem_cons_of_mem _ hG)) h2⟩
    obtain ⟨G, hG, e⟩ := List.mem_map.1 hm
    exact h1 (codeF_inj (h F List.mem_cons_self) (h G (List.mem_cons_of_mem _ hG)) e.symm ▸ hG)
theorem keys_le {P : List Int} {A : Sn} (h : ∀ p ∈ A, FitP P p.1) (hn : (A.map Prod.fst).Nodup) : A.length ≤ 28561 := by
  have h1 := nodup_le 28561 ((A.map Prod.fst).map codeF) (nodup_map_code _ (fun F hF => by obtain ⟨p, hp, rfl⟩ := List.mem_map.1 hF; exact h p hp) hn) (fun x hx => by
    obtain ⟨F, hF, rfl⟩ := List.mem_map.1 hx
    obtain ⟨p, hp, rfl⟩ := List.mem_map.1 hF
    exact codeF_lt (h p hp))
  simpa using h1
theorem lookA_none : ∀ (A : Sn) (F : List Int), (lookA A F).isSome = false → F ∉ A.map Prod.fst
  | [], _, _ => by simp
  | p :: r, F, h => by
    rw [lookA] at h
    by_cases e : p.1 = F
    · rw [if_pos e] at h; simp at h
    · rw [if_neg e] at h
      rw [List.map_cons, List.mem_cons, not_or]
      exact ⟨fun e' => e e'.symm, lookA_none r F h⟩
theorem visit_nodup {P : List Int} {gl : List Int → Bool} {here : List Int} {cnt : Int} : ∀ (xs : List (Int × Int)) (s t : Sn × List (List Int)) (o : Option (List Int)), (s.1.map Prod.fst).Nodup → visit P gl here cnt xs s = (t, o) → (t.1.map Prod.fst).Nodup
  | [], s, t, o, hn, h => by rw [visit] at h; cases h; exact hn
  | x :: xs, s, t, o, hn, h => by
    rw [visit] at h
    by_cases e : (lookA s.1 (afterF P here x.1 x.2)).isSome = true
    · rw [if_pos e] at h; exact visit_nodup xs s t o hn h
    · rw [if_neg e] at h
      have hn2 : ((afterF P here x.1 x.2 :: s.1.map Prod.fst)).Nodup := List.nodup_cons.2 ⟨lookA_none _ _ (by simpa using e), hn⟩
      split at h
      · cases h; exact hn2
      · exact visit_nodup xs ((afterF P here x.1 x.2, ⟨here, x.1, x.2, cnt⟩) :: s.1, s.2 ++ [afterF P here x.1 x.2]) t o hn2 h
theorem bfs_ends (P : List Int) (gl : List Int → Bool) (ls : Int) (m : Nat) (hls : ls = -1 ∨ ls = 0) (hm : ls + (m : Int) ≤ 4) : ∀ (M : Nat) (A : Sn) (qs : List (List Int)), (A.map Prod.fst).Nodup → (∀ p ∈ A, FitP P p.1) → (∀ q ∈ qs, FitP P q) → 28561 - A.length + qs.length < M →
    ∃ res, bfs P gl (stepsL ls m) M A qs = some res
  | 0, _, _, _, _, _, h => absurd h (Nat.not_lt_zero _)
  | _ + 1, A, [], _, _, _, _ => ⟨_, by rw [bfs]⟩
  | M + 1, A, q :: qs, hn, hA, hq, h => by
    rw [bfs]
    rcases hv : visit P gl q (((lookA A q).map Cm.k).getD 0 + 1) (stepsL ls m) (A, qs) with ⟨⟨A', qs'⟩, o⟩
    cases o with
    | some g => exact ⟨_, rfl⟩
    | none =>
      have hk := visit_keeps (P := P) (gl := gl) (here := q) (fun F => FitP P F) (fun _ => True) (stepsL ls m) (A, qs) (A', qs') none (fun x hx => by
        have hs := mem_step hx
        exact ⟨(hq q List.mem_cons_self).after (by omega) (by omega) hs.2.2.2.2, trivial⟩) (fun p hp => ⟨hA p hp, trivial⟩) (fun q' hq' => hq q' (List.mem_cons_of_mem _ hq')) hv
      have hn' := visit_nodup _ _ _ _ hn hv
      have hl := (visit_len _ _ _ _ hv).2
      have hA' : ∀ p ∈ A', FitP P p.1 := fun p hp => (hk.1 p hp).1
      have hc := keys_le hA' hn'
      have hc0 := keys_le hA hn
      dsimp only at hl
      rw [List.length_cons] at h
      exact bfs_ends P gl ls m hls hm M A' qs' hn' hA' hk.2 (by omega)
theorem srch_ends (P : List Int) (gl : List Int → Bool) (ls : Int) (m : Nat) (hls : ls = -1 ∨ ls = 0) (hm : ls + (m : Int) ≤ 4) (F : List Int) (hF : FitP P F) : ∃ res, srch P gl (stepsL ls m) 28562 F = some res := by
  unfold srch
  split
  · exact ⟨_, rfl⟩
  · exact bfs_ends P gl ls m hls hm 28562 [(F, c0)] [F] (by simp) (fun p hp => by rw [List.mem_singleton.1 hp]; exact hF) (fun q hq => by rw [List.mem_singleton.1 hq]; exact hF) (by simp)
end Go.Proofs.Ytlamppplnojpbaa
namespace Go.Proofs.Ytlamppplnojpbaa
open Go.RowKit Go.Shelf
attribute [local go_sem] Oper.semAt_some
/-! the way back from a goal -/
def cmOf (A : Sn) (F : List Int) : Cm := (lookA A F).getD c0
def trc : Nat → Sn → Cm → List (Int × Int)
  | 0, _, _ => []
  | n + 1, A, c => (c.sa, c.sb) :: trc n A (cmOf A c.frm)
/-- a way of n steps leads back from here -/
def GoodT : Nat → Sn → Cm → Prop
  | 0, _, c => c.k = 0 ∧ c.frm.length = 4
  | n + 1, A, c => c.k = (n : Int) + 1 ∧ Fok c.frm ∧ GoodT n A (cmOf A c.frm)
theorem GoodT.k : ∀ (n : Nat) {A : Sn} {c : Cm}, GoodT n A c → c.k = (n : Int)
  | 0, _, _, h => by rw [GoodT] at h; simpa using h.1
  | n + 1, _, _, h => by rw [GoodT] at h; rw [h.1]; simp
theorem GoodT.len : ∀ (n : Nat) {A : Sn} {c : Cm}, GoodT n A c → c.frm.length = 4
  | 0, _, _, h => by rw [GoodT] at h; exact h.2
  | n + 1, _, _, h => by rw [GoodT] at h; exact h.2.1.1
theorem trc_len : ∀ (n : Nat) (A : Sn) (c : Cm), (trc n A c).length = n
  | 0, _, _ => rfl
  | n + 1, A, c => by rw [trc, List.length_cons, trc_len n A]
theorem look_cm {W : World} {b n : Nat} {A : Sn} (hs : SeenAt W b n (seenV A)) {q0 q1 q2 q3 : Int} (hF : Fok [q0, q1, q2, q3]) :
    (Instr.lookup 74 (.map (some b)) (.agg #[.int .i64 q0, .int .i64 q1, .int .i64 q2, .int .i64 q3]) false).run Try.prog W = .ok ((cmOf A [q0, q1, q2, q3]).V) W := by
  have h := hs.look1 hF
  rw [show aggI [q0, q1, q2, q3] = .agg #[.int .i64 q0, .int .i64 q1, .int .i64 q2, .int .i64 q3] from rfl] at h
  rw [h]
  unfold seenV cmOf
  cases lookA A [q0, q1, q2, q3] with
  | none => rw [Option.map_none, Option.getD_none, Option.getD_none, c0_V]
  | some c => rfl
def Cm.cs (c : Cm) : List Value := c.frm.map encI ++ [encI c.sa, encI c.sb, encI c.k]
theorem Cm.V_cs (c : Cm) : c.V = .agg c.cs.toArray := rfl
/-- the blocks r and b, and all of the type of the map's elements, lie as they lay -/
def KeepsC (r b : Nat) (W W' : World) : Prop := W.heap.size ≤ W'.heap.size ∧ ∀ g, (g = r ∨ g = b ∨ ∃ cs, W.heap[g]? = some (.cells cs 94 (0, 0))) → W'.heap[g]? = W.heap[g]?
theorem KeepsC.refl (r b : Nat) (W : World) : KeepsC r b W W := ⟨Nat.le_refl _, fun _ _ => rfl⟩
theorem KeepsC.trans {r b : Nat} {A B C : World} (h : KeepsC r b A B) (k : KeepsC r b B C) : KeepsC r b A C :=
  ⟨Nat.le_trans h.1 k.1, fun g hg => (k.2 g (by
    rcases hg with rfl | rfl | ⟨cs, hc⟩
    · exact .inl rfl
    · exact .inr (.inl rfl)
    · exact .inr (.inr ⟨cs, (h.2 g (.inr (.inr ⟨cs, hc⟩))).trans hc⟩))).trans (h.2 g hg)⟩
theorem KeepsC.of_below {r b : Nat} {W W' : World} (h : Below W.heap.size W W') (h1 : r < W.heap.size) (h2 : b < W.heap.size) : KeepsC r b W W' :=
  ⟨h.size, fun g hg => h.block g (by
    rcases hg with rfl | rfl | ⟨cs, hc⟩
    · exact h1
    · exact h2
    · exact (Array.getElem?_eq_some_iff.1 hc).1)⟩
theorem KeepsC.put {r b l : Nat} (h1 : r < l) (h2 : b < l) (W : World) {o : Obj} (o' : Obj) (hl : W.heap[l]? = some o) (ho : o.isCells = false) : KeepsC r b W (W.putObj l o') :=
  ⟨by simp, fun g hg => World.putObj_heap_other (by
    rcases hg with rfl | rfl | ⟨cs, hc⟩
    · omega
    · omega
    · intro e; subst e; rw [hl] at hc; cases hc; cases ho)⟩
theorem KeepsC.row {r b g : Nat} {W W' : World} {vs : List Value} (h : KeepsC r b W W') (hr : Row W g 94 vs) : Row W' g 94 vs :=
  (h.2 g (.inr (.inr ⟨_, hr⟩))).trans hr
theorem KeepsC.rowr {r b : Nat} {W W' : World} {E : TypeId} {vs : List Value} (h : KeepsC r b W W') (hr : Row W r E vs) : Row W' r E vs := (h.2 r (.inl rfl)).trans hr
theorem KeepsC.seen {r b n : Nat} {S : List Int → Option Value} {W W' : World} (h : KeepsC r b W W') (hs : SeenAt W b n S) : SeenAt W' b n S := by
  obtain ⟨D, ⟨es, clock, hb, F, hs, hD⟩, h2⟩ := hs
  exact ⟨D, ⟨es, clock, (h.2 b (.inr (.inl rfl))).trans hb, F, hs, hD⟩, h2⟩
theorem Cm.V4 {c : Cm} {x0 x1 x2 x3 : Int} (h : c.frm = [x0, x1, x2, x3]) : c.V = .agg #[.int .i64 x0, .int .i64 x1, .int .i64 x2, .int .i64 x3, .int .i64 c.sa, .int .i64 c.sb, .int .i64 c.k] := by
  simp [Cm.V, h, encI]
theorem Cm.cs4 {c : Cm} {x0 x1 x2 x3 : Int} (h : c.frm = [x0, x1, x2, x3]) : c.cs = [.int .i64 x0, .int .i64 x1, .int .i64 x2, .int .i64 x3, .int .i64 c.sa, .int .i64 c.sb, .int .i64 c.k] := by
  simp [Cm.cs, h, encI]
set_option maxRecDepth 100000 in
set_option maxHeartbeats 1000000 in
/-- **the steps come one after the other, from the goal on** -/
theorem way1_in (nf l r b : Nat) (A : Sn) (g0 g1 g2 g3 : Int) (ok : Bool) (hgf : Fok [g0, g1, g2, g3]) (n : Nat) (_hn : n ≤ 1000000) (hG : GoodT n A (cmOf A [g0, g1, g2, g3])) (J : List (Int × Int) → World → Prop) (Jx : World → Prop)
    (hJ : ∀ pre W W', J pre W → W.grownBy W' none → J pre W')
    (hY : ∀ pre x W, J pre W → pre.length < n → YieldAt Fence.wide (nf - 1) Try.prog l #[encS x] W fun e W' =>
      (e = .returned (.bool true) ∧ J (pre ++ [x]) W' ∧ KeepsC r b W W') ∨ (e = .returned (.bool false) ∧ Jx W'))
    (W : World) (rr : Row W r 89 [.map (some b), .int .i64 g0, .int .i64 g1, .int .i64 g2, .int .i64 g3, .bool ok]) (hs : SeenAt W b A.length (seenV A)) (h0 : J [] W) :
    CallsIn Fence.wide nf Try.prog 71 #[.func (.yield l) #[] #[], .pointer (some ⟨r, 0, none⟩)] W fun e W' => (∃ v, e = .returned v) ∧ (J (trc n A (cmOf A [g0, g1, g2, g3])) W' ∨ Jx W') := by
  refine callsIn_of_wp Try.func71 rfl trivial ?_ rfl
  simp only [Try.ntmps71, List.size_toArray, List.length_cons, List.length_nil, Nat.reduceAdd, Nat.reduceSub, Array.replicate_succ, Array.replicate_zero, List.push_toArray, List.append_toArray, List.nil_append, List.cons_append]
  have HY := Lib.hid hY
  have H0 := Lib.hid h0
  have HJ := Lib.hid hJ
  have HG := Lib.hid hG
  have p0 : W.cell? ⟨r, 0, none⟩ = some (.map (some b)) := rr.cell 0
  have p1 : W.cell? ⟨r, 1, none⟩ = some (.int .i64 g0) := rr.cell 1
  have p2 : W.cell? ⟨r, 2, none⟩ = some (.int .i64 g1) := rr.cell 2
  have p3 : W.cell? ⟨r, 3, none⟩ = some (.int .i64 g2) := rr.cell 3
  have p4 : W.cell? ⟨r, 4, none⟩ = some (.int .i64 g3) := rr.cell 4
  have HRR := Lib.hid rr
  have HS := Lib.hid hs
  generalize hc0 : cmOf A [g0, g1, g2, g3] = c at *
  obtain ⟨x0, x1, x2, x3, hfr⟩ := agg4 c.frm (GoodT.len n HG.out)
  have hlk := look_cm hs hgf
  rw [hc0, Cm.V4 hfr] at hlk
  have HLK := Lib.hid hlk
  have HC0 := Lib.hid hc0
  have HFR := Lib.hid hfr
  have hrl := Lib.hid rr.lt
  have hbl := Lib.hid hs.lt
  clear hY h0 hJ hG rr hs hlk hc0 hfr
  gi_wp2_with fail
  rw [HLK.out, Result.andThen_ok]
  gi_wp2_with fail
  gi_loopw [3] (fun fv wr => ∃ (q i : Nat) (c' : Cm) (pre : List (Int × Int)), i ≤ n ∧ fv = .pointer (some ⟨q, 0, none⟩) ∧ Hid (Row wr q 94 c'.cs ∧ GoodT i A c' ∧ pre ++ trc i A c' = trc n A c ∧ pre.length + i = n ∧ J pre wr ∧ KeepsC r b W wr)) (fun fv wr => match fv with | .pointer (some a) => (match wr.cell? ⟨a.block, 6, none⟩ with | some v => (intOf v).toNat | none => 0) | _ => 0)
  case atStart =>
    have bz := (Below.refl W.heap.size W).alloc (Nat.le_refl _) (.cells #[.int .i64 x0, .int .i64 x1, .int .i64 x2, .int .i64 x3, .int .i64 c.sa, .int .i64 c.sb, .int .i64 c.k] 94)
    exact ⟨_, n, c, [], Nat.le_refl _, rfl, Lib.hid ⟨by rw [Cm.cs4 HFR.out]; exact Row.new _ _ _, HG.out, rfl, by simp, HJ.out _ _ _ H0.out ⟨bz.os, bz.tape, bz.output, bz.size, fun k hk _ => bz.block k hk⟩, KeepsC.of_below bz hrl.out hbl.out⟩⟩
  case round =>
    clear H0 HLK p0 p1 p2 p3 p4
    obtain ⟨q, i, c', pre, hi, rfl, HR⟩ := hrel
    obtain ⟨y0, y1, y2, y3, hfr'⟩ := agg4 c'.frm (GoodT.len i HR.out.2.1)
    have hrq := HR.out.1
    rw [Cm.cs4 hfr'] at hrq
    have hk := GoodT.k i HR.out.2.1
    have a0 : wr.cell? ⟨q, 0, none⟩ = some (.int .i64 y0) := hrq.cell 0
    have a1 : wr.cell? ⟨q, 1, none⟩ = some (.int .i64 y1) := hrq.cell 1
    have a2 : wr.cell? ⟨q, 2, none⟩ = some (.int .i64 y2) := hrq.cell 2
    have a3 : wr.cell? ⟨q, 3, none⟩ = some (.int .i64 y3) := hrq.cell 3
    have a4 : wr.cell? ⟨q, 4, none⟩ = some (.int .i64 c'.sa) := hrq.cell 4
    have a5 : wr.cell? ⟨q, 5, none⟩ = some (.int .i64 c'.sb) := hrq.cell 5
    have a6 : wr.cell? ⟨q, 6, none⟩ = some (.int .i64 c'.k) := hrq.cell 6
    rw [hk] at a6
    have HFR2 := Lib.hid hfr'
    have HRQ := Lib.hid hrq
    have HK := Lib.hid hk
    clear hfr' hrq hk
    cases i with
    | zero =>
      have hd : decide (((0 : Nat) : Int) > 0) = false := by decide
      have HX := Lib.hid (show J (trc n A c) wr by
        have h := HR.out.2.2
        rw [trc, List.append_nil] at h
        rw [← h.1]; exact h.2.2.1)
      gi_wp2_with fail
      refine ⟨(fun f h => by cases h), ?_⟩
      gi_wp2_with fail
      go_end0
      exact ⟨⟨_, rfl⟩, .inl HX.out⟩
    | succ i =>
      have ei : ((i + 1 : Nat) : Int) = (i : Int) + 1 := by omega
      rw [ei] at a6
      have HK2 := Lib.hid (HK.out.trans ei)
      clear ei
      have hd : decide ((i : Int) + 1 > 0) = true := decide_eq_true (by omega)
      obtain ⟨fn, tmps, assign, body, hyy, hRy⟩ := HY.out pre (c'.sa, c'.sb) wr HR.out.2.2.2.2.1 (by have := HR.out.2.2.2.1; omega)
      have hR2 := hRy.mono (R' := fun e W' => ∃ bb, e = .returned (.bool bb) ∧ Hid ((bb = true ∧ J (pre ++ [(c'.sa, c'.sb)]) W' ∧ KeepsC r b wr W') ∨ (bb = false ∧ Jx W'))) (by
        rintro e W' (⟨rfl, h⟩ | ⟨rfl, h⟩)
        · exact ⟨true, rfl, Lib.hid (.inl ⟨rfl, h⟩)⟩
        · exact ⟨false, rfl, Lib.hid (.inr ⟨rfl, h⟩)⟩)
      have HRY := Lib.hid hR2
      clear hRy hR2
      dsimp only [encS] at hyy
      gi_wp2_with fail
      refine ⟨(fun h => by cases h), ?_⟩
      refine HRY.out.mono ?_
      rintro e W3 ⟨bb, rfl, hp⟩
      cases bb
      · have HX := Lib.hid (show Jx W3 by
          rcases hp.out with ⟨h, _⟩ | ⟨_, h⟩
          · cases h
          · exact h)
        clear hp hyy HRY
        gi_wp2_with fail
        go_end0
        exact ⟨⟨_, rfl⟩, .inr HX.out⟩
      · have HX := Lib.hid (show J (pre ++ [(c'.sa, c'.sb)]) W3 ∧ KeepsC r b wr W3 by
          rcases hp.out with ⟨_, h⟩ | ⟨h, _⟩
          · exact h
          · cases h)
        have hk3 := HR.out.2.2.2.2.2.trans HX.out.2
        have hr3 := hk3.rowr HRR.out
        have hs3 := hk3.seen HS.out
        have hq3 := HX.out.2.row HRQ.out
        have fq := HR.out.2.1
        rw [GoodT] at fq
        rw [HFR2.out] at fq
        have hlk := look_cm hs3 fq.2.1
        have hgt := fq.2.2
        generalize hc2 : cmOf A [y0, y1, y2, y3] = c2 at *
        obtain ⟨z0, z1, z2, z3, hfz⟩ := agg4 c2.frm (GoodT.len i hgt)
        rw [Cm.V4 hfz] at hlk
        have ba := (Below.refl W3.heap.size W3).alloc (Nat.le_refl _) (.cells #[.int .i64 y0, .int .i64 y1, .int .i64 y2, .int .i64 y3, .int .i64 c'.sa, .int .i64 c'.sb, .int .i64 c'.k] 94)
        have hr4 := hr3.below ba hr3.lt
        have hs4 := hs3.grow ba
        have hlk4 := look_cm hs4 fq.2.1
        rw [hc2, Cm.V4 hfz] at hlk4
        rw [HK2.out] at hr4 hlk4 ba hs4 hq3
        have HLK4 := Lib.hid hlk4
        have a0 : W3.cell? ⟨q, 0, none⟩ = some (.int .i64 y0) := hq3.cell 0
        have a1 : W3.cell? ⟨q, 1, none⟩ = some (.int .i64 y1) := hq3.cell 1
        have a2 : W3.cell? ⟨q, 2, none⟩ = some (.int .i64 y2) := hq3.cell 2
        have a3 : W3.cell? ⟨q, 3, none⟩ = some (.int .i64 y3) := hq3.cell 3
        have a4 : W3.cell? ⟨q, 4, none⟩ = some (.int .i64 c'.sa) := hq3.cell 4
        have a5 : W3.cell? ⟨q, 5, none⟩ = some (.int .i64 c'.sb) := hq3.cell 5
        have a6 : W3.cell? ⟨q, 6, none⟩ = some (.int .i64 ((i : Int) + 1)) := hq3.cell 6
        have p0 : (W3.alloc (.cells #[.int .i64 y0, .int .i64 y1, .int .i64 y2, .int .i64 y3, .int .i64 c'.sa, .int .i64 c'.sb, .int .i64 ((i : Int) + 1)] 94)).cell? ⟨r, 0, none⟩ = some (.map (some b)) := hr4.cell 0
        have HR4 := Lib.hid hr4
        have HBA := Lib.hid ba
        have HC2 := Lib.hid hc2
        have HGT := Lib.hid hgt
        have HFZ := Lib.hid hfz
        clear hp hyy HRY hk3 hr3 hs3 hq3 fq hlk hgt hc2 hfz ba hr4 hs4 hlk4
        gi_wp2_with fail
        rw [HLK4.out, Result.andThen_ok]
        gi_wp2_with fail
        have bz := (Below.refl W3.heap.size W3).alloc (Nat.le_refl _) (.cells #[.int .i64 z0, .int .i64 z1, .int .i64 z2, .int .i64 z3, .int .i64 c2.sa, .int .i64 c2.sb, .int .i64 c2.k] 94)
        have rz := Row.new W3 94 [.int .i64 z0, .int .i64 z1, .int .i64 z2, .int .i64 z3, .int .i64 c2.sa, .int .i64 c2.sb, .int .i64 c2.k]
        have e6 : (W3.alloc (.cells #[.int .i64 z0, .int .i64 z1, .int .i64 z2, .int .i64 z3, .int .i64 c2.sa, .int .i64 c2.sb, .int .i64 c2.k] 94)).cell? ⟨W3.heap.size, 6, none⟩ = some (.int .i64 c2.k) := rz.cell 6
        have hkw := HR.out.2.2.2.2.2
        have h3 := HR.out.2.2.1
        rw [trc, HFR2.out, HC2.out] at h3
        refine ⟨⟨_, i, c2, pre ++ [(c'.sa, c'.sb)], by omega, rfl, Lib.hid ⟨by rw [Cm.cs4 HFZ.out]; exact rz, HGT.out, by rw [List.append_assoc]; exact h3, by rw [List.length_append, List.length_singleton]; have := HR.out.2.2.2.1; omega, HJ.out _ _ _ HX.out.1 ⟨bz.os, bz.tape, bz.output, bz.size, fun k hk _ => bz.block k hk⟩, (hkw.trans HX.out.2).trans (KeepsC.of_below bz ?_ ?_)⟩⟩, ?_⟩
        · have := HX.out.2.1; have := hkw.1; have := hrl.out; omega
        · have := HX.out.2.1; have := hkw.1; have := hbl.out; omega
        · dsimp only
          rw [e6, show wr.cell? ⟨q, 6, none⟩ = some (.int .i64 c'.k) from HRQ.out.cell 6, HK2.out]
          have := GoodT.k i HGT.out
          simp [intOf, this]
theorem way1_stops (nf r b : Nat) (A : Sn) (g0 g1 g2 g3 : Int) (ok : Bool) (hgf : Fok [g0, g1, g2, g3]) (n : Nat) (hn : n ≤ 1000000) (hG : GoodT n A (cmOf A [g0, g1, g2, g3])) (w : World)
    (rr : Row w r 89 [.map (some b), .int .i64 g0, .int .i64 g1, .int .i64 g2, .int .i64 g3, .bool ok]) (hs : SeenAt w b A.length (seenV A)) :
    SeqStopsK Fence.wide nf Try.prog 71 #[.pointer (some ⟨r, 0, none⟩)] (fun x : Int × Int => #[encS x]) (KeepsC r b) (fun ys => ys = trc n A (cmOf A [g0, g1, g2, g3])) (fun _ => True) n w := fun l J Jx W hW hJ _ hY h0 => by
  refine (way1_in nf l r b A g0 g1 g2 g3 ok hgf n hn hG J (fun W' => ∃ pf, Jx pf W') (fun pre W1 W2 h hg => hJ pre W1 W2 none h hg (fun r e => by cases e)) ?_ W (rr.below hW rr.lt) (hs.kept (row := none) ⟨hW.os, hW.tape, hW.output, hW.size, fun k hk _ => hW.block k hk⟩ (by simp)) h0).mono ?_
  · intro pre x W1 h hl
    obtain ⟨fn, tmps, assign, body, hy, hR⟩ := hY pre x W1 h hl
    refine ⟨fn, tmps, assign, body, hy, hR.mono ?_⟩
    rintro e W' (h | ⟨he, h1⟩)
    · exact .inl h
    · exact .inr ⟨he, _, h1⟩
  · rintro e W' ⟨he, hj | ⟨pf, hj⟩⟩
    · exact ⟨he, .inl ⟨_, rfl, hj⟩⟩
    · exact ⟨he, .inr ⟨_, trivial, hj⟩⟩
end Go.Proofs.Ytlamppplnojpbaa
namespace Go.Proofs.Ytlamppplnojpbaa
open Go.RowKit Go.Shelf
attribute [local go_sem] Oper.semAt_some
def flatP (ps : List (Int × Int)) : List Value := ps.flatMap (fun p => [encI p.1, encI p.2])
theorem flatP_snoc (ps : List (Int × Int)) (p : Int × Int) : flatP (ps ++ [p]) = flatP ps ++ [encI p.1, encI p.2] := by simp [flatP]
theorem info48 : (Try.prog.info? 48).map (fun i => (i.zero, i.size, i.bytes)) = some (some (.agg #[.int .i64 0, .int .i64 0]), 2, 16) := by kernel_rfl
theorem lasts_owns (B base e size : Nat) (v : Value) (n : Nat) (xs : List Value) : Lasts B (fun W => W.ownsRow base e size v n xs) := fun W W' row hi hg hr => by
  refine hi.kept hg ?_
  rcases hi.2 with ⟨rfl, _⟩ | ⟨g, cap, cur, rfl, _, hh, _⟩
  · exact .inl rfl
  · refine .inr (fun e => ?_)
    obtain ⟨_, o, ho, hc⟩ := hr g (by rw [← e]; rfl)
    rw [hh] at ho; cases ho; cases hc
theorem owns_mono {w : World} {base base' : Nat} {e : TypeId} {size : Nat} {v : Value} {n : Nat} {xs : List Value} (h : w.ownsRow base e size v n xs) (hb : base' ≤ base) : w.ownsRow base' e size v n xs := by
  refine ⟨h.1, ?_⟩
  rcases h.2 with h2 | ⟨g, cap, cur, h1, h2, h3⟩
  · exact .inl h2
  · exact .inr ⟨g, cap, cur, h1, Nat.le_trans hb h2, h3⟩
/-- what holds in a range that lays steps end to end -/
structure Asq (w : World) (pre : List (Int × Int)) (v : Value) (W : World) : Prop where
  row : Row W w.heap.size 27 [v]
  own : W.ownsRow (w.heap.size + 1) 48 2 v pre.length (flatP pre)
  bw : Below w.heap.size w W
theorem lasts_asq (B : Nat) (w : World) (pre : List (Int × Int)) (v : Value) (hB : w.heap.size ≤ B) : Lasts B (fun W => Asq w pre v W) := fun W W' row hi hg hr =>
  ⟨lasts_row B _ _ _ W W' row hi.row hg hr, lasts_owns B _ _ _ _ _ _ W W' row hi.own hg hr, lasts_below B _ w hB (Nat.le_refl _) W W' row hi.bw hg hr⟩
theorem asq_step {w W W2 : World} {pre : List (Int × Int)} {v v' : Value} {x : Int × Int} {r b : Nat} (h : Asq w pre v W) (ho : W2.ownsRow (w.heap.size + 1) 48 2 v' (pre.length + 1) (flatP pre ++ [encI x.1, encI x.2])) (hg : (W.alloc (.cells #[.int .i64 x.1, .int .i64 x.2] 48)).grownBy W2 v.ownBlock) (hr : r < w.heap.size) (hb : b < w.heap.size) :
    Asq w (pre ++ [x]) v' (W2.setCell ⟨w.heap.size, 0, none⟩ v') ∧ KeepsC r b W (W2.setCell ⟨w.heap.size, 0, none⟩ v') ∧ KeepsFrom w.heap.size W (W2.setCell ⟨w.heap.size, 0, none⟩ v') := by
  have ba := (Below.refl W.heap.size W).alloc (Nat.le_refl _) (.cells #[.int .i64 x.1, .int .i64 x.2] 48)
  have hN := h.row.lt
  have G := one_set W2 w.heap.size 0 v'
  have hvn : ∀ g, v.ownBlock = some g → w.heap.size + 1 ≤ g ∧ ∃ cur, W.heap[g]? = some (.cells cur 48 (0, 0)) := fun g e => by
    rcases h.own.2 with ⟨rfl, _⟩ | ⟨g', cap, cur, rfl, hb', hh, _⟩
    · cases e
    · cases e; exact ⟨hb', cur, hh⟩
  have r2 : Row W2 w.heap.size 27 [v] := (h.row.below ba hN).kept hg (fun e => by have := hvn _ e.symm; omega)
  have hv' := ho.lt
  have hsz : W.heap.size + 1 ≤ W2.heap.size := by have := hg.size; rw [size_al] at this; exact this
  have keep : ∀ g, g < W.heap.size → g ≠ w.heap.size → v.ownBlock ≠ some g → (W2.setCell ⟨w.heap.size, 0, none⟩ v').heap[g]? = W.heap[g]? := fun g hlt h1 h2 => by
    rw [G.block g (by omega) (fun e => by have := Option.some.inj e; omega), hg.block g (by rw [size_al]; omega) (fun e => h2 e.symm), ba.block g hlt]
  refine ⟨⟨r2.set 0 v', ?_, ?_⟩, ⟨?_, ?_⟩, ⟨?_, ?_⟩⟩
  · rw [flatP_snoc, List.length_append, List.length_singleton]
    exact ho.kept G (.inr (fun e => by have := hv' _ e; omega))
  · exact ((Below.andThen h.bw ba (Nat.le_refl _)).grown hg (by rw [size_al]; have := h.bw.size; omega) (fun k e => by have := hvn _ e; omega)).grown G (by have := h.bw.size; omega) (fun k e => by have := Option.some.inj e; omega)
  · have := G.size; omega
  · intro g hc
    have hlt : g < W.heap.size := by
      rcases hc with rfl | rfl | ⟨cs, hc⟩
      · omega
      · omega
      · exact (Array.getElem?_eq_some_iff.1 hc).1
    refine keep g hlt ?_ ?_
    · rcases hc with rfl | rfl | ⟨cs, hc⟩
      · omega
      · omega
      · intro e; subst e; rw [show W.heap[w.heap.size]? = _ from h.row] at hc; cases hc
    · intro e
      obtain ⟨h1, cur, h2⟩ := hvn _ e
      rcases hc with rfl | rfl | ⟨cs, hc⟩
      · omega
      · omega
      · rw [h2] at hc; cases hc
  · have := G.size; omega
  · intro g o _ hgo ho'
    have hlt := (Array.getElem?_eq_some_iff.1 hgo).1
    rw [keep g hlt (fun e => by subst e; rw [show W.heap[w.heap.size]? = _ from h.row] at hgo; cases hgo; cases ho') (fun e => by
      obtain ⟨h1, cur, h2⟩ := hvn _ e
      rw [h2] at hgo; cases hgo; cases ho')]
    exact hgo
set_option maxRecDepth 100000 in
set_option maxHeartbeats 1000000 in
theorem appseq_any (r b : Nat) (A : Sn) (g0 g1 g2 g3 : Int) (ok : Bool) (hgf : Fok [g0, g1, g2, g3]) (n : Nat) (hn : n ≤ 1000000) (hG : GoodT n A (cmOf A [g0, g1, g2, g3])) (w : World)
    (rr : Row w r 89 [.map (some b), .int .i64 g0, .int .i64 g1, .int .i64 g2, .int .i64 g3, .bool ok]) (hs : SeenAt w b A.length (seenV A)) :
    Calls Try.prog 75 #[.slice none 0 0, .func (.func 71) #[] #[.pointer (some ⟨r, 0, none⟩)]] w fun e w' => ∃ v, e = .returned v ∧ w'.ownsRow w.heap.size 48 2 v n (flatP (trc n A (cmOf A [g0, g1, g2, g3]))) ∧ Below w.heap.size w w' := by
  refine callsIn_wide.1 (callsIn_of_wp_marks (F := Fence.wide) (n := 4) Try.func75 rfl trivial ?_ rfl)
  simp only [Try.ntmps75, List.size_toArray, List.length_cons, List.length_nil, Nat.reduceAdd, Nat.reduceSub, Array.replicate_succ, Array.replicate_zero, List.push_toArray, List.append_toArray, List.nil_append, List.cons_append]
  have HG := Lib.hid hG
  have HRR := Lib.hid rr
  have HS := Lib.hid hs
  clear hG rr hs
  have b0 := (Below.refl w.heap.size w).alloc (Nat.le_refl _) (.cells #[.slice none 0 0] 27)
  have r0 := Row.new w 27 [.slice none 0 0]
  have h0 : Asq w [] (.slice none 0 0) (w.alloc (.cells #[.slice none 0 0] 27)) := ⟨r0, World.ownsRow_nil _ _ _ _, b0⟩
  have H0 := Lib.hid h0
  have B0 := Lib.hid b0
  have hz := size_al w (.cells #[.slice none 0 0] 27)
  have HZ := Lib.hid hz
  have hrl := Lib.hid HRR.out.lt
  have hbl := Lib.hid HS.out.lt
  clear b0 r0 h0 hz
  gi_wp2_with fail
  obtain ⟨i0, hi, hz0, hz1, hz2⟩ := info_parts info48
  refine wpIn_rangeFunc_ownH (F := Fence.wide) rfl (by omega) rfl trivial (enters_of Try.func71 (by kernel_rfl) rfl) (way1_stops (4 - 1) r b A g0 g1 g2 g3 ok hgf n hn HG.out w HRR.out HS.out)
    (fun h k => KeepsC.trans h k) (fun W l o o' hl h hc _ => KeepsC.put (by rw [HZ.out] at hl; have := hrl.out; omega) (by rw [HZ.out] at hl; have := hbl.out; omega) W o' h hc) B0.out (fun _ => rfl)
    (fun pre W => ∃ v, Asq w pre v W) (fun _ _ _ => False)
    (Lasts.own (fun s W W' row ⟨v, hv⟩ hg hr => ⟨v, lasts_asq _ w s v (by rw [HZ.out]; omega) W W' row hv hg hr⟩)) (fun c => Lasts.own (fun s => lasts_pure _ _)) ⟨_, H0.out⟩
    (fun x a' W => ∃ q, a' = { tmps := #[.slice none 0 0, .func (.func 71) #[] #[.pointer (some ⟨r, 0, none⟩)], .pointer (some ⟨w.heap.size, 0, none⟩), undef, .slice none 0 0, .pointer (some ⟨q, 0, none⟩), .func (.func 71) #[] #[.pointer (some ⟨r, 0, none⟩)], .agg #[.int .i64 x.1, .int .i64 x.2], undef, undef, undef, undef, undef], defers := [] } ∧ w.heap.size < q ∧ Row W q 48 [.int .i64 x.1, .int .i64 x.2])
    ?_ ?assign ?body ?done ?stop
  case assign =>
    rintro l pre x W1 K ⟨v, hv⟩ hK
    have ba := (Below.refl W1.heap.size W1).alloc (Nat.le_refl _) (.cells #[.int .i64 x.1, .int .i64 x.2] 48)
    have hs1 := hv.bw.size
    have hl1 := hv.row.lt
    have hk := hK _ _ (keeps_below ba) (KeepsC.of_below ba (by have := hrl.out; omega) (by have := hbl.out; omega)) ⟨v, lasts_asq W1.heap.size w pre v (by omega) W1 _ none hv ⟨ba.os, ba.tape, ba.output, ba.size, fun k hk _ => ba.block k hk⟩ (fun r e => by cases e)⟩ ⟨_, rfl, hl1, Row.new W1 48 [.int .i64 x.1, .int .i64 x.2]⟩
    have HKk := Lib.hid hk
    clear hk hK hs1 hl1 ba hv
    have e : (#[7].zip #[encS x]).foldl (fun t (p, v) => Array.setIfInBounds t p v) (#[.slice none 0 0, .func (.func 71) #[] #[.pointer (some ⟨r, 0, none⟩)], .pointer (some ⟨w.heap.size, 0, none⟩), undef, .slice none 0 0, undef, .func (.func 71) #[] #[.pointer (some ⟨r, 0, none⟩)], undef, undef, undef, undef, undef, undef] : Array Value)
       = #[.slice none 0 0, .func (.func 71) #[] #[.pointer (some ⟨r, 0, none⟩)], .pointer (some ⟨w.heap.size, 0, none⟩), undef, .slice none 0 0, undef, .func (.func 71) #[] #[.pointer (some ⟨r, 0, none⟩)], .agg #[.int .i64 x.1, .int .i64 x.2], undef, undef, undef, undef, undef] := by simp [encS]
    rw [e]
    clear e
    gi_wp2
    exact HKk.out
  case body =>
    rintro l pre x a' W1 hl hr ⟨v, hv⟩ ⟨q, rfl, hq, h48⟩ hlen
    have ba := (Below.refl W1.heap.size W1).alloc (Nat.le_refl _) (.cells #[.int .i64 x.1, .int .i64 x.2] 48)
    have rn := Row.new W1 48 [.int .i64 x.1, .int .i64 x.2]
    obtain ⟨v', W2, hap, ho2, hg2, _, hblk⟩ := run_append_own_at (P := Try.prog) (W1.alloc (.cells #[.int .i64 x.1, .int .i64 x.2] 48)) (w.heap.size + 1) 27 27 48 i0 (.agg #[.int .i64 0, .int .i64 0]) 2 16 Try.underlying27 hi hz0 hz1 hz2 rfl (by decide) v pre.length (flatP pre) (hv.own.alloc _)
      ⟨W1.heap.size, 0, none⟩ 1 1 [.int .i64 x.1, .int .i64 x.2] rfl (fun j u hj => by rw [Go.WideShapes.add_plain]; simp only [Nat.zero_add]; rw [Row.cell rn]; exact hj) (by simp [Value.oneCell']) (by unfold maxLen; omega) (by omega) (by rw [size_al]; have := hv.row.lt; omega)
    obtain ⟨g7, cap7, hv7⟩ : ∃ g7 cap7, v' = .slice (some ⟨g7, 0, none⟩) (pre.length + 1) cap7 := by
      rcases ho2.2 with ⟨_, h⟩ | ⟨g, cap, cur, h, _⟩
      · omega
      · exact ⟨g, cap, h⟩
    subst hv7
    have hst := asq_step hv ho2 hg2 hrl.out hbl.out
    have c0 : W1.cell? ⟨w.heap.size, 0, none⟩ = some v := hv.row.cell 0
    have s0 : W1.cell? ⟨q, 0, none⟩ = some (.int .i64 x.1) := h48.cell 0
    have s1 : W1.cell? ⟨q, 1, none⟩ = some (.int .i64 x.2) := h48.cell 1
    have r2 : Row W2 w.heap.size 27 [v] := (hv.row.below ba hv.row.lt).kept hg2 (fun e => by
      have := (hv.own.lt w.heap.size e.symm).1; omega)
    have c2 : W2.cell? ⟨w.heap.size, 0, none⟩ = some v := r2.cell 0
    have k2 := frozen_of_row W2 w.heap.size 0 _ _ r2
    have HST := Lib.hid hst
    have HAP := Lib.hid hap
    clear hst hap ho2 hg2 hblk hv h48 rn ba r2 hlen
    gi_wp2_with (gi_at_builtin; refine wpListIn_append_run rfl _ _ 27 rfl _ _ _ _ rfl rfl HAP.out ?_)
    exact ⟨⟨HST.out.2.2.size, fun k o hB => HST.out.2.2.same k o (by rw [HZ.out] at hB; omega)⟩, HST.out.2.1, _, HST.out.1⟩
  case done =>
    rintro D xs W1 hD rfl ⟨v, hv⟩ hK
    have c0 : W1.cell? ⟨w.heap.size, 0, none⟩ = some v := hv.row.cell 0
    have HV := Lib.hid hv
    have HK := Lib.hid hK
    clear hv hK
    have HD := Lib.hid hD
    clear hD
    dsimp only
    simp only [Exit.inBlock]
    gi_wp2_with fail
    refine leaves_marks (B := D) (fun X => X.ownsRow w.heap.size 48 2 v n (flatP (trc n A (cmOf A [g0, g1, g2, g3]))) ∧ Below w.heap.size w X)
      ((lasts_owns _ _ _ _ _ _ _).and (lasts_below _ _ _ (by have := HD.out; rw [HZ.out] at this; omega) (Nat.le_refl _))) ?_ [{ target := .collected D, args := #[] }] _ ⟨[D], rfl, by simp, fun E hE => by rw [List.mem_singleton.1 hE]; exact ⟨Nat.le_refl _, HK.out⟩⟩ ⟨?_, HV.out.bw⟩
    · rintro X ⟨ho, hb⟩
      refine ⟨v, ?_, v, rfl, ho, hb⟩
      simp [results, Try.results75, go_sem]
    · have h := HV.out.own
      rw [trc_len] at h
      exact owns_mono h (Nat.le_succ _)
  case stop =>
    rintro D c pre W1 hD _ hf
    exact hf.elim
  · rintro x a' s W1 W2 row ⟨q, rfl, hq, h⟩ hg hr
    exact ⟨q, rfl, hq, lasts_row _ _ _ _ W1 W2 row h hg hr⟩
end Go.Proofs.Ytlamppplnojpbaa
namespace Go.Proofs.Ytlamppplnojpbaa
open Go.RowKit Go.Shelf
attribute [local go_sem] Oper.semAt_some
/-- slots that have been written -/
def putAll (a : Act) : List Nat → List Value → Act
  | s :: ss, v :: vs => putAll (a.put (some s) v) ss vs
  | _, _ => a

section
variable {P : Program} {Q : Exit → Act → World → Prop}
theorem upon_then {o : Oper} {a : Act} {w : World} {next K : Act → World → Prop} (h : o.wp P a w next (Exit.then K Q)) : o.wp P a w next Q := by
  unfold Oper.wp at *
  generalize (execOp a.eval o).run P w = r at *
  cases r with
  | ok x w' => cases x <;> exact h
  | halt x w' => cases x <;> exact h
theorem wpOp_of_list {ops : Array Oper} {i : Nat} {o : Oper} {K : Act → World → Prop} {a : Act} {w : World} (ho : ops[i]? = some o) (h : wpList P ops (Exit.then K Q) [o] a w) : wpOp P ops Q i K a w := by
  unfold wpOp
  simp only [ho]
  unfold wpList at h
  split
  · rename_i hw
    rw [if_pos hw] at h
    exact h.imp (fun h => upon_then h) (fun h => h)
  · rename_i hw
    rw [if_neg hw] at h; exact h
end
/-- each operation waits for earlier ones alone, of the edges that bind -/
def waitsC (l : List Oper) : Bool := (List.range l.length).all fun i => ((l[i]?).map fun o => o.after.all fun e => !Region.binds .any e || decide (e.on < i)).getD true
section
variable {P : Program} {Q : Exit → Act → World → Prop}
/-- a region whose order is open, by an invariant over what has come up -/
theorem wp_region_inv2 {id : Nat} {a : Act} {w : World} {l : List Oper} (hm : P.follows .mixedOrders = true) (hd : waitsC l = true) (I : List Bool → Act → World → Prop) (h0 : I (List.replicate l.length false) a w.drew)
    (hstep : ∀ (i : Nat) (o : Oper) (bs : List Bool) (a : Act) (w : World), l[i]? = some o → I bs a w → bs.length = l.length → bs[i]? = some false → (∀ e ∈ o.after, Region.binds .any e = true → bs.getD e.on false = true) →
      wpOp P l.toArray Q i (fun a' w' => I (bs.set i true) a' w') a w)
    (hend : ∀ a w, I (List.replicate l.length true) a w → Q .normal a w) : (Code.region id l.toArray true).wp P Q a w := by
  refine wp_region_any hm ?_
  have key : ∀ (fuel : Nat) (bs : List Bool) (a : Act) (w : World), bs.length = l.length → (bs.filter (! ·)).length ≤ fuel → I bs a w → wpAny P .any l.toArray Q fuel bs.toArray a w := by
    intro fuel
    induction fuel with
    | zero =>
      intro bs a w hl hf hI
      have hall : bs = List.replicate l.length true := by
        rw [List.eq_replicate_iff]
        refine ⟨hl, fun b hb => ?_⟩
        cases b with
        | true => rfl
        | false =>
          have : false ∈ bs.filter (! ·) := List.mem_filter.2 ⟨hb, rfl⟩
          have := List.length_pos_of_mem this; omega
      subst hall
      refine ⟨?_, hend a w hI⟩
      cases hr : Region.ready .any l.toArray (List.replicate l.length true).toArray with
      | nil => rfl
      | cons j js =>
        have hj : j ∈ Region.ready .any l.toArray (List.replicate l.length true).toArray := by rw [hr]; exact List.mem_cons_self
        obtain ⟨h1, o, h2, _⟩ := mem_ready.1 hj
        have hlt : j < l.length := by have := (List.getElem?_eq_some_iff.1 (by simpa using h2 : l[j]? = some o)).1; exact this
        simp [Array.getD, hlt] at h1
    | succ fuel ih =>
      intro bs a w hl hf hI
      have hset : ∀ (i : Nat), (bs.toArray.setIfInBounds i true) = (bs.set i true).toArray := fun i => by simp
      by_cases hall : bs = List.replicate l.length true
      · subst hall
        refine ⟨fun _ => hend a w hI, fun j hj => ?_⟩
        obtain ⟨h1, o, h2, _⟩ := mem_ready.1 hj
        have hlt : j < l.length := by have := (List.getElem?_eq_some_iff.1 (by simpa using h2 : l[j]? = some o)).1; exact this
        simp [Array.getD, hlt] at h1
      · refine ⟨fun hr => ?_, fun j hj => ?_⟩
        · exfalso
          have hex : ∃ b ∈ bs, (!b) = true := by
            false_or_by_contra
            rename_i hno
            refine hall (List.eq_replicate_iff.2 ⟨hl, fun b hb => ?_⟩)
            cases b with
            | true => rfl
            | false => exact absurd ⟨false, hb, rfl⟩ hno
          have hlt : bs.findIdx (! ·) < bs.length := List.findIdx_lt_length.2 hex
          have hf0 : bs[bs.findIdx (! ·)] = false := by have := List.findIdx_getElem (w := hlt); simpa using this
          have hlt2 : bs.findIdx (! ·) < l.length := by omega
          have hmem : bs.findIdx (! ·) ∈ Region.ready .any l.toArray bs.toArray := by
            refine mem_ready.2 ⟨by simp [Array.getD, hlt, hf0], l[bs.findIdx (! ·)], by simp [hlt2], fun e he hbd => ?_⟩
            unfold waitsC at hd
            rw [List.all_eq_true] at hd
            have h1 := hd _ (List.mem_range.2 hlt2)
            rw [List.getElem?_eq_getElem hlt2] at h1
            simp only [Option.map_some, Option.getD_some] at h1
            have h2 := (Array.all_eq_true'.1 h1) e he
            rw [hbd] at h2
            have h3 : e.on < bs.findIdx (! ·) := by simpa using h2
            have h4 : e.on < bs.length := by omega
            have h5 := List.not_of_lt_findIdx h3
            simp [Array.getD, h4]
            simpa using h5
          rw [hr] at hmem; cases hmem
        · obtain ⟨h1, o, h2, h3⟩ := mem_ready.1 hj
          have h2' : l[j]? = some o := by simpa using h2
          have hlt : j < l.length := (List.getElem?_eq_some_iff.1 h2').1
          have hb : bs[j]? = some false := by
            rw [List.getElem?_eq_getElem (by omega)]
            simp [Array.getD, show j < bs.length by omega] at h1
            rw [h1]
          refine wpOp_mono (fun a' w' h => ?_) (hstep j o bs a w h2' hI hl hb (fun e he hb => by have := h3 e he hb; rw [List.getD_eq_getElem?_getD]; simp only [Array.getD, List.size_toArray] at this; split at this <;> simp_all))
          rw [hset]
          have := filter_set bs j hb
          exact ih _ _ _ (by simpa using hl) (by omega) h
  have := key l.length (List.replicate l.length false) a w.drew (by simp) (by simp) h0
  simpa using this
/-- the same, with the slots that the region writes told apart -/
theorem wp_region_slots2 {id : Nat} {a : Act} {w : World} {l : List Oper} (hm : P.follows .mixedOrders = true) (hd : waitsC l = true) (slots : List Nat) (J : List Bool → List Value → World → Prop)
    (h0 : ∃ vs, a = putAll a slots vs ∧ J (List.replicate l.length false) vs w.drew)
    (hstep : ∀ (i : Nat) (o : Oper) (bs : List Bool) (vs : List Value) (w : World) (K : Act → World → Prop), l[i]? = some o → J bs vs w → bs.length = l.length → bs[i]? = some false → (∀ e ∈ o.after, Region.binds .any e = true → bs.getD e.on false = true) →
      (∀ vs' w', J (bs.set i true) vs' w' → K (putAll a slots vs') w') → wpOp P l.toArray Q i K (putAll a slots vs) w)
    (hend : ∀ vs w, J (List.replicate l.length true) vs w → Q .normal (putAll a slots vs) w) : (Code.region id l.toArray true).wp P Q a w := by
  refine wp_region_inv2 hm hd (fun bs a' w' => ∃ vs, a' = putAll a slots vs ∧ J bs vs w') h0 ?_ ?_
  · rintro i o bs a' w' ho ⟨vs, rfl, hJ⟩ hl hb hw
    exact hstep i o bs vs w' _ ho hJ hl hb hw (fun vs' w'' h => ⟨vs', rfl, h⟩)
  · rintro a' w' ⟨vs, rfl, hJ⟩
    exact hend vs w' hJ
end
section
variable {P : Program} {Q : Exit → Act → World → Prop}
/-- what has come up holds with what it waits for -/
def closedB (l : List Oper) (bs : List Bool) : Prop := ∀ (j : Nat) (o : Oper), l[j]? = some o → bs[j]? = some true → ∀ e ∈ o.after, Region.binds .any e = true → bs[e.on]? = some true
/-- each operation puts one value, and the world is told by what has come up -/
def stSteps (P : Program) (Q : Exit → Act → World → Prop) (l : List Oper) (a : Act) (slots : List Nat) (val : List Value) (wf : List Bool → World) (len : Nat) : List Oper → Nat → Prop
  | [], _ => True
  | o :: rest, i => (∀ (vs : List Value) (bs : List Bool) (K : Act → World → Prop), vs.length = len → bs.length = len → closedB l bs → bs[i]? = some false → (∀ e ∈ o.after, Region.binds .any e = true → bs[e.on]? = some true ∧ vs[e.on]? = val[e.on]?) →
      K (putAll a slots (vs.set i (val.getD i undef))) (wf (bs.set i true)) → wpList P l.toArray (Exit.then K Q) [o] (putAll a slots vs) (wf bs)) ∧ stSteps P Q l a slots val wf len rest (i + 1)
theorem stSteps_get {l0 : List Oper} {a : Act} {slots : List Nat} {val : List Value} {wf : List Bool → World} {len : Nat} : ∀ {l : List Oper} {k i : Nat} {o : Oper}, stSteps P Q l0 a slots val wf len l k → l[i]? = some o →
    ∀ (vs : List Value) (bs : List Bool) (K : Act → World → Prop), vs.length = len → bs.length = len → closedB l0 bs → bs[k + i]? = some false → (∀ e ∈ o.after, Region.binds .any e = true → bs[e.on]? = some true ∧ vs[e.on]? = val[e.on]?) →
      K (putAll a slots (vs.set (k + i) (val.getD (k + i) undef))) (wf (bs.set (k + i) true)) → wpList P l0.toArray (Exit.then K Q) [o] (putAll a slots vs) (wf bs)
  | [], _, _, _, _, h => by simp at h
  | o :: rest, k, 0, o', hd, h => by
    simp at h; subst h
    exact hd.1
  | o :: rest, k, i + 1, o', hd, h => by
    have := stSteps_get (l := rest) (k := k + 1) (i := i) hd.2 (by simpa using h)
    rw [show k + 1 + i = k + (i + 1) by omega] at this
    exact this
theorem wp_region_st {id : Nat} {a : Act} {w : World} {l : List Oper} (hm : P.follows .mixedOrders = true) (hd : waitsC l = true) (slots : List Nat) (val : List Value) (wf : List Bool → World) (len : Nat) (hlen : l.length = len) (hvl : val.length = len)
    (h0 : ∃ vs, a = putAll a slots vs ∧ vs.length = len) (hw0 : wf (List.replicate len false) = w.drew)
    (hsteps : stSteps P Q l a slots val wf len l 0)
    (hend : Q .normal (putAll a slots val) (wf (List.replicate len true))) : (Code.region id l.toArray true).wp P Q a w := by
  obtain ⟨vs0, e0, el0⟩ := h0
  refine wp_region_slots2 hm hd slots (fun (bs : List Bool) (vs : List Value) W => W = wf bs ∧ bs.length = len ∧ vs.length = len ∧ closedB l bs ∧ ∀ i : Nat, bs[i]? = some true → vs[i]? = val[i]?) ⟨vs0, e0, by rw [hlen]; exact hw0.symm, by rw [List.length_replicate]; exact hlen, el0, fun j o hj hb => ?_, fun i hi => ?_⟩ ?_ ?_
  · rw [List.getElem?_replicate] at hb
    split at hb <;> simp at hb
  · rw [List.getElem?_replicate] at hi
    split at hi <;> simp at hi
  · rintro i o bs vs W K ho ⟨rfl, hbl, hl, hcl, hv⟩ _ hb hw hK
    have hdep : ∀ e ∈ o.after, Region.binds .any e = true → bs[e.on]? = some true := fun e he hbe => by
      have h := hw e he hbe
      rw [List.getD_eq_getElem?_getD] at h
      cases h2 : bs[e.on]? with
      | none => rw [h2] at h; simp at h
      | some b => rw [h2] at h; simp at h; rw [h]
    have hi : i < len := by rw [← hlen]; exact (List.getElem?_eq_some_iff.1 ho).1
    refine wpOp_of_list (by simpa using ho) ?_
    refine stSteps_get hsteps ho vs bs K hl hbl hcl (by simpa using hb) (fun e he hbe => ⟨hdep e he hbe, hv _ (hdep e he hbe)⟩) ?_
    rw [Nat.zero_add]
    refine hK _ _ ⟨rfl, by rw [List.length_set]; exact hbl, by rw [List.length_set]; exact hl, fun j o' hj hbj e he hbe => ?_, fun j hj => ?_⟩
    · by_cases hij : i = j
      · subst hij
        rw [ho] at hj; cases hj
        have := hdep e he hbe
        by_cases hie : i = e.on
        · rw [← hie, List.getElem?_set_self (by omega)]
        · rw [List.getElem?_set_ne hie]; exact this
      · rw [List.getElem?_set_ne hij] at hbj
        have := hcl j o' hj hbj e he hbe
        by_cases hie : i = e.on
        · rw [← hie, List.getElem?_set_self (by omega)]
        · rw [List.getElem?_set_ne hie]; exact this
    · by_cases hij : i = j
      · subst hij
        rw [List.getElem?_set_self (by omega), List.getD_eq_getElem?_getD, List.getElem?_eq_getElem (by omega)]; rfl
      · rw [List.getElem?_set_ne hij] at hj ⊢
        exact hv j hj
  · rintro vs W ⟨rfl, hbl, hl, hcl, hv⟩
    have : vs = val := by
      refine List.ext_getElem? fun i => ?_
      by_cases hi : i < len
      · exact hv i (by rw [List.getElem?_replicate, if_pos (by omega)])
      · rw [List.getElem?_eq_none (by omega), List.getElem?_eq_none (by omega)]
    subst this
    rw [hlen]
    exact hend
end
theorem st_get {vs val : List Value} {n : Nat} (h : vs[n]? = val[n]?) {x y : Value} (hx : vs[n]? = some x) (hy : val[n]? = some y) : x = y := by
  rw [hx, hy] at h; cases h; rfl
abbrev Pt := Int × Int
def ptAt (ps : List Pt) (i : Nat) : Pt := ps.getD i (0, 0)
theorem ptAt_lt {ps : List Pt} {i : Nat} (h : i < ps.length) : ptAt ps i = ps[i] := by
  unfold ptAt; simp [h]
/-- the points of ps lie at block b from offset o on, two numbers each -/
structure PtsAt (w : World) (b o : Nat) (ps : List Pt) : Prop where
  lt : b < w.heap.size
  x : ∀ i (h : i < ps.length), w.cell? ⟨b, o + i * 2, none⟩ = some (.int .i64 ps[i].1)
  y : ∀ i (h : i < ps.length), w.cell? ⟨b, o + i * 2 + 1, none⟩ = some (.int .i64 ps[i].2)
theorem PtsAt.below {B : Nat} {w w' : World} {b o : Nat} {ps : List Pt} (h : PtsAt w b o ps) (hb : Below B w w') (hB : b < B) : PtsAt w' b o ps :=
  ⟨Nat.lt_of_lt_of_le h.lt hb.size, fun i hi => below_at hb hB (h.x i hi), fun i hi => below_at hb hB (h.y i hi)⟩
theorem PtsAt.grow {w w' : World} {b o : Nat} {ps : List Pt} (h : PtsAt w b o ps) (hb : Below w.heap.size w w') : PtsAt w' b o ps := h.below hb h.lt

def flat : List Pt → List Value
  | [] => []
  | p :: ps => .int .i64 p.1 :: .int .i64 p.2 :: flat ps
theorem flat_get : ∀ (ps : List Pt) (i : Nat) (h : i < ps.length), (flat ps)[i * 2]? = some (.int .i64 ps[i].1) ∧ (flat ps)[i * 2 + 1]? = some (.int .i64 ps[i].2)
  | p :: ps, 0, _ => ⟨rfl, rfl⟩
  | p :: ps, i + 1, h => by
    have := flat_get ps i (by simpa using h)
    rw [show (i + 1) * 2 = i * 2 + 2 by omega]
    simpa [flat] using this
theorem flat_length : ∀ ps : List Pt, (flat ps).length = ps.length * 2
  | [] => rfl
  | p :: ps => by simp [flat, flat_length ps]; omega
/-- a slice of the call's own, of points -/
def OwnP (W : World) (n₀ : Nat) (v : Value) (ps : List Pt) : Prop := W.ownsRow n₀ 48 2 v ps.length (flat ps)
theorem OwnP.open {W : World} {n₀ : Nat} {v : Value} {ps : List Pt} (h : OwnP W n₀ v ps) : ∃ a c, v = .slice a ps.length c ∧ (a = none ∧ c = 0 ∧ ps = [] ∨ ∃ g, n₀ ≤ g ∧ a = some ⟨g, 0, none⟩ ∧ PtsAt W g 0 ps ∧ ps.length ≤ c) := by
  have h0 := h
  rcases h.2 with ⟨rfl, hn⟩ | ⟨g, cap, cur, rfl, hg, hgb, hc, _⟩
  · have : ps = [] := List.eq_nil_of_length_eq_zero hn
    subst this
    exact ⟨none, 0, rfl, .inl ⟨rfl, rfl, rfl⟩⟩
  · have hlt := (Array.getElem?_eq_some_iff.1 hgb).1
    refine ⟨_, _, rfl, .inr ⟨g, hg, rfl, ⟨hlt, fun i hi => ?_, fun i hi => ?_⟩, hc⟩⟩
    · have := World.ownsRow.cells h0 (g := g) rfl (i * 2) _ (flat_get ps i hi).1
      rw [Go.WideShapes.add_plain] at this
      simpa using this
    · have := World.ownsRow.cells h0 (g := g) rfl (i * 2 + 1) _ (flat_get ps i hi).2
      rw [Go.WideShapes.add_plain] at this
      simpa using this
theorem own_grow {W W' : World} {n₀ e s k : Nat} {u : Value} {xs : List Value} (h : W.ownsRow n₀ e s u k xs) (hb : Below W.heap.size W W') : W'.ownsRow n₀ e s u k xs :=
  h.kept (row := none) ⟨hb.os, hb.tape, hb.output, hb.size, fun k hk _ => hb.block k hk⟩ (by
    cases h : u.ownBlock with
    | none => exact .inl rfl
    | some g => right; simp)
/-- a slice of the call's own, with its block named -/
def OwnG (W : World) (n₀ g c : Nat) (ps : List Pt) : Prop := OwnP W n₀ (.slice (some ⟨g, 0, none⟩) ps.length c) ps
theorem OwnG.pts {W : World} {n₀ g c : Nat} {ps : List Pt} (h : OwnG W n₀ g c ps) (h1 : ps ≠ []) : PtsAt W g 0 ps ∧ ps.length ≤ c ∧ n₀ ≤ g := by
  obtain ⟨a', c', he, h⟩ := OwnP.open h
  cases he
  rcases h with ⟨_, _, h⟩ | ⟨g', hg, h1, h2, h3⟩
  · exact absurd h h1
  · cases h1; exact ⟨h2, h3, hg⟩
theorem OwnG.heap {W : World} {n₀ g c : Nat} {ps : List Pt} (h : OwnG W n₀ g c ps) : ∃ cur : Array Value, W.heap[g]? = some (.cells cur 48 (0, 0)) ∧ n₀ ≤ g ∧ ps.length ≤ c ∧ c ≤ maxLen ∧ cur.size = c * 2 ∧ cur.toList.take (ps.length * 2) = flat ps := by
  rcases h.2 with ⟨h, _⟩ | ⟨g', cap, cur, he, hg, hgb, hc, h5, h6, h7⟩
  · cases h
  · cases he; exact ⟨cur, hgb, hg, hc, h5, h6, h7⟩
theorem OwnG.frozen {W : World} {n₀ g c : Nat} {ps : List Pt} (h : OwnG W n₀ g c ps) (i : Nat) : W.frozen? ⟨g, i, none⟩ = false := by
  obtain ⟨cur, hh, _⟩ := h.heap
  simp [World.frozen?, hh]
theorem flat_set : ∀ (ps : List Pt) (i : Nat) (p : Pt), flat (ps.set i p) = ((flat ps).set (i * 2) (.int .i64 p.1)).set (i * 2 + 1) (.int .i64 p.2)
  | [], _, _ => rfl
  | q :: ps, 0, p => by simp [flat]
  | q :: ps, i + 1, p => by
    rw [List.set_cons_succ, flat, flat_set ps i p, show (i + 1) * 2 = i * 2 + 1 + 1 by omega]
    simp [flat]
theorem setCell_heap (W : World) (g i : Nat) (v : Value) (cur : Array Value) (h : W.heap[g]? = some (.cells cur 48 (0, 0))) : (W.setCell ⟨g, i, none⟩ v).heap[g]? = some (.cells (cur.setIfInBounds i v) 48 (0, 0)) := by
  have hlt := (Array.getElem?_eq_some_iff.1 h).1
  obtain ⟨_, he⟩ := Array.getElem?_eq_some_iff.1 h
  simp [World.setCell, hlt, Array.getElem_modify, he]
theorem OwnG.set {W : World} {n₀ g c : Nat} {ps : List Pt} (h : OwnG W n₀ g c ps) (i : Nat) (_hi : i < ps.length) (x y : Int) :
    OwnG ((W.setCell ⟨g, i * 2, none⟩ (.int .i64 x)).setCell ⟨g, i * 2 + 1, none⟩ (.int .i64 y)) n₀ g c (ps.set i (x, y)) := by
  obtain ⟨cur, hh, h1, h2, h3, h4, h5⟩ := h.heap
  have hs := setCell_heap _ g (i * 2 + 1) (.int .i64 y) _ (setCell_heap W g (i * 2) (.int .i64 x) cur hh)
  refine ⟨by rw [flat_length], .inr ⟨g, c, _, rfl, h1, hs, by rw [List.length_set]; exact h2, h3, by simp [h4], ?_⟩⟩
  rw [flat_set, ← h5, List.length_set]
  simp only [Array.toList_setIfInBounds]
  rw [List.take_set, List.take_set]
/-- a world that changes with the operations s1 and s2 -/
def swapG (s1 s2 : Nat) (W0 W1 W2 : World) (bs : List Bool) : World := if bs[s2]? = some true then W2 else if bs[s1]? = some true then W1 else W0
theorem swapG_pure {s1 s2 : Nat} {W0 W1 W2 : World} {bs : List Bool} {i : Nat} (h1 : i ≠ s1) (h2 : i ≠ s2) : swapG s1 s2 W0 W1 W2 (bs.set i true) = swapG s1 s2 W0 W1 W2 bs := by
  unfold swapG; rw [List.getElem?_set_ne h1, List.getElem?_set_ne h2]
theorem swapG_0 {s1 s2 : Nat} {W0 W1 W2 : World} {bs : List Bool} (h1 : bs[s1]? ≠ some true) (h2 : bs[s2]? ≠ some true) : swapG s1 s2 W0 W1 W2 bs = W0 := by
  unfold swapG; rw [if_neg h2, if_neg h1]
theorem swapG_1 {s1 s2 : Nat} {W0 W1 W2 : World} {bs : List Bool} (h1 : bs[s1]? = some true) (h2 : bs[s2]? ≠ some true) : swapG s1 s2 W0 W1 W2 bs = W1 := by
  unfold swapG; rw [if_neg h2, if_pos h1]
theorem swapG_2 {s1 s2 : Nat} {W0 W1 W2 : World} {bs : List Bool} (h2 : bs[s2]? = some true) : swapG s1 s2 W0 W1 W2 bs = W2 := by
  unfold swapG; rw [if_pos h2]
theorem len16 {vs : List Value} (h : vs.length = 16) : ∃ x0 x1 x2 x3 x4 x5 x6 x7 x8 x9 x10 x11 x12 x13 x14 x15, vs = [x0, x1, x2, x3, x4, x5, x6, x7, x8, x9, x10, x11, x12, x13, x14, x15] := by
  match vs, h with
  | [x0, x1, x2, x3, x4, x5, x6, x7, x8, x9, x10, x11, x12, x13, x14, x15], _ => exact ⟨_, _, _, _, _, _, _, _, _, _, _, _, _, _, _, _, rfl⟩
/-- two points exchanged -/
def exch (L : List Pt) (i j : Nat) : List Pt := (L.set i (ptAt L j)).set j (ptAt L i)
theorem exch_len (L : List Pt) (i j : Nat) : (exch L i j).length = L.length := by unfold exch; rw [List.length_set, List.length_set]
theorem exch_at {L : List Pt} {i j : Nat} (hi : i < L.length) (hj : j < L.length) (_h : i ≠ j) (k : Nat) : ptAt (exch L i j) k = if k = j then ptAt L i else if k = i then ptAt L j else ptAt L k := by
  unfold exch
  show ((L.set i (ptAt L j)).set j (ptAt L i)).getD k (0, 0) = _
  rw [List.getD_eq_getElem?_getD]
  by_cases h1 : k = j
  · subst h1; rw [List.getElem?_set_self (by rw [List.length_set]; omega), if_pos rfl]; rfl
  · rw [List.getElem?_set_ne (fun e => h1 e.symm), if_neg h1]
    by_cases h2 : k = i
    · subst h2; rw [List.getElem?_set_self hi, if_pos rfl]; rfl
    · rw [List.getElem?_set_ne (fun e => h2 e.symm), if_neg h2]
      unfold ptAt; rw [List.getD_eq_getElem?_getD]
/-- the outer k points on both sides have changed places -/
def Half2 (ps L : List Pt) (k : Nat) : Prop := L.length = ps.length ∧ ∀ t, t < ps.length → ptAt L t = if t < k ∨ ps.length - 1 - k < t then ptAt ps (ps.length - 1 - t) else ptAt ps t
theorem Half2.start (ps : List Pt) : Half2 ps ps 0 := ⟨rfl, fun t ht => by rw [if_neg (by omega)]⟩
theorem Half2.step {ps L : List Pt} {k : Nat} (h : Half2 ps L k) (hk : k < ps.length - 1 - k) : Half2 ps (exch L k (ps.length - 1 - k)) (k + 1) := by
  have hL := h.1
  refine ⟨by rw [exch_len, hL], fun t ht => ?_⟩
  rw [exch_at (by omega) (by omega) (by omega)]
  have hk1 := h.2 k (by omega)
  have hk2 := h.2 (ps.length - 1 - k) (by omega)
  rw [if_neg (by omega)] at hk1 hk2
  by_cases h1 : t = ps.length - 1 - k
  · rw [if_pos h1, if_pos (by omega), hk1]; congr 1; omega
  · rw [if_neg h1]
    by_cases h2 : t = k
    · rw [if_pos h2, if_pos (by omega), hk2, h2]
    · rw [if_neg h2, h.2 t ht]
      by_cases h3 : t < k ∨ ps.length - 1 - k < t
      · rw [if_pos h3, if_pos (by omega)]
      · rw [if_neg h3, if_neg (by omega)]
theorem Half2.stop {ps L : List Pt} {k : Nat} (h : Half2 ps L k) (hk : ps.length - 1 - k ≤ k) (hk2 : k ≤ ps.length - 1) : L = ps.reverse := by
  refine List.ext_getElem (by rw [h.1, List.length_reverse]) fun t h1 h2 => ?_
  have ht : t < ps.length := by rw [← h.1]; exact h1
  have e := h.2 t ht
  rw [ptAt_lt h1] at e
  rw [e, List.getElem_reverse, ← ptAt_lt]
  split
  · rfl
  · congr 1; omega
theorem grown_set (w : World) (a : Addr) (u : Value) : w.grownBy (w.setCell a u) (some a.block) := ⟨rfl, rfl, rfl, by simp [World.setCell], fun k _ h => Below.heap_setCell _ _ _ _ (fun e => h (by rw [e]))⟩
theorem grown_drew (w : World) (row : Option Nat) : w.grownBy w.drew row := ⟨rfl, rfl, rfl, Nat.le_refl _, fun _ _ _ => rfl⟩
set_option maxRecDepth 100000 in
set_option maxHeartbeats 4000000 in
theorem reverse_any (ps : List Pt) (g c n₀ : Nat) (w : World) (ho : OwnG w n₀ g c ps) (_hn0 : n₀ ≤ w.heap.size) (h1 : 1 ≤ ps.length) (h12 : ps.length ≤ 1000000) :
    Calls Try.prog 73 #[.slice (some ⟨g, 0, none⟩) ps.length c] w fun e w' => (∃ v, e = .returned v) ∧ OwnG w' n₀ g c ps.reverse ∧ Below n₀ w w' ∧ w.grownBy w' (some g) := by
  obtain ⟨N, hN⟩ : ∃ N, ps.length = N := ⟨_, rfl⟩
  have HN := Lib.hid hN
  have HO := Lib.hid ho
  rw [hN] at h1 h12 ⊢
  have e0 : IntKind.i64.wrap ((N : Int) - 1) = (N : Int) - 1 := i64_of _ (by omega) (by omega)
  clear hN ho
  go_enter Try.func73, Try.ntmps73
  go_wp2_with fail
  go_loopw [2, 3] (fun i jv wr => ∃ (k : Nat) (L : List Pt), i = .int .i64 (k : Int) ∧ jv = .int .i64 ((N : Int) - 1 - (k : Int)) ∧ k ≤ N - 1 ∧ Hid (Half2 ps L k) ∧ Hid (OwnG wr n₀ g c L) ∧ Hid (Below n₀ w wr ∧ w.grownBy wr (some g))) (fun i _ _ => N - (intOf i).toNat)
  case atStart => exact ⟨0, ps, rfl, by simp, by omega, Lib.hid (Half2.start ps), HO, Lib.hid ⟨Below.refl _ _, ⟨rfl, rfl, rfl, Nat.le_refl _, fun _ _ _ => rfl⟩⟩⟩
  case round =>
    clear HO
    obtain ⟨k, L, rfl, rfl, hkN, HS, HO, HB⟩ := hrel
    by_cases hlt : k < N - 1 - k
    · have hd : decide ((k : Int) < (N : Int) - 1 - (k : Int)) = true := decide_eq_true (by omega)
      obtain ⟨j, hj⟩ : ∃ j, N - 1 - k = j := ⟨_, rfl⟩
      have ej : (N : Int) - 1 - (k : Int) = (j : Int) := by omega
      have hLN : L.length = N := by rw [HS.out.1, HN.out]
      have hne : L ≠ [] := fun h => by rw [h] at hLN; simp at hLN; omega
      obtain ⟨hpt, hcc, hg0⟩ := HO.out.pts hne
      have hkn : k < L.length := by omega
      have hjn : j < L.length := by omega
      have xj := hpt.x j hjn
      have yj := hpt.y j hjn
      have xk := hpt.x k hkn
      have yk := hpt.y k hkn
      rw [Nat.zero_add] at xj yj xk yk
      rw [← ptAt_lt hjn] at xj yj
      rw [← ptAt_lt hkn] at xk yk
      have HSTP := Lib.hid (show Half2 ps (exch L k j) (k + 1) by
        have h := HS.out.step (by rw [HN.out]; exact hlt)
        rw [HN.out, hj] at h; exact h)
      have HSW := Lib.hid (show exch L k j = (L.set k (ptAt L j)).set j (ptAt L k) from rfl)
      have HJ := Lib.hid (And.intro hkn hjn)
      have en : (N : Int) - 1 - ((k + 1 : Nat) : Int) = (j : Int) - 1 := by omega
      have EN := Lib.hid en
      have ew : IntKind.i64.wrap ((j : Int) - 1) = (j : Int) - 1 := i64_of _ (by omega) (by omega)
      generalize ptAt L k = pa at *
      generalize ptAt L j = pb at *
      obtain ⟨a1, a2⟩ := pa
      obtain ⟨b1, b2⟩ := pb
      dsimp only at xj yj xk yk
      rw [ej] at hd ⊢
      have C2 := Lib.hid (And.intro xk (And.intro yk (And.intro xj yj)))
      have hlt2 : k < j := by omega
      have hjN : j ≤ N - 1 := by omega
      clear hpt hLN hne xj yj xk yk hkn hjn HS hj en ej
      go_wp2_with fail
      obtain ⟨W0, hW0⟩ : ∃ W0, W0 = wr.drew := ⟨_, rfl⟩
      have HW0 := Lib.hid hW0
      have O0 : OwnG W0 n₀ g c L := by rw [hW0]; exact own_grow HO.out ((Below.refl wr.heap.size wr).drew)
      have C0 := Lib.hid (show W0.cell? ⟨g, k * 2, none⟩ = some (.int .i64 a1) ∧ W0.cell? ⟨g, k * 2 + 1, none⟩ = some (.int .i64 a2) ∧ W0.cell? ⟨g, j * 2, none⟩ = some (.int .i64 b1) ∧ W0.cell? ⟨g, j * 2 + 1, none⟩ = some (.int .i64 b2) by rw [hW0]; exact C2.out)
      have FZ0 := Lib.hid (fun i => O0.frozen i)
      have O1 := O0.set k HJ.out.1 b1 b2
      obtain ⟨W1, hW1⟩ : ∃ W1, W1 = (W0.setCell ⟨g, k * 2, none⟩ (.int .i64 b1)).setCell ⟨g, k * 2 + 1, none⟩ (.int .i64 b2) := ⟨_, rfl⟩
      have HW1 := Lib.hid hW1
      rw [← hW1] at O1
      have FZ1 := Lib.hid (fun i => O1.frozen i)
      have hl1 : j < (L.set k (b1, b2)).length := by rw [List.length_set]; exact HJ.out.2
      have hne1 : (L.set k (b1, b2)) ≠ [] := fun h => by rw [h] at hl1; simp at hl1
      have C1 := Lib.hid (show (∃ v, W1.cell? ⟨g, j * 2, none⟩ = some v) ∧ (∃ v, W1.cell? ⟨g, j * 2 + 1, none⟩ = some v) by
        obtain ⟨hp1, _, _⟩ := O1.pts hne1
        have h1 := hp1.x j hl1
        have h2 := hp1.y j hl1
        rw [Nat.zero_add] at h1 h2
        exact ⟨⟨_, h1⟩, ⟨_, h2⟩⟩)
      have O2 := O1.set j hl1 a1 a2
      obtain ⟨W2, hW2⟩ : ∃ W2, W2 = (W1.setCell ⟨g, j * 2, none⟩ (.int .i64 a1)).setCell ⟨g, j * 2 + 1, none⟩ (.int .i64 a2) := ⟨_, rfl⟩
      have HW2 := Lib.hid hW2
      rw [← hW2, ← HSW.out] at O2
      have HO3 := Lib.hid O2
      have HB3a : Below n₀ w W2 := by
        rw [hW2]
        refine Below.setCell (p := ⟨g, j * 2 + 1, none⟩) (Below.setCell (p := ⟨g, j * 2, none⟩) ?_ hg0 _) hg0 _
        rw [hW1]
        refine Below.setCell (p := ⟨g, k * 2 + 1, none⟩) (Below.setCell (p := ⟨g, k * 2, none⟩) ?_ hg0 _) hg0 _
        rw [hW0]; exact HB.out.1.drew
      have HB3b : w.grownBy W2 (some g) := by
        rw [hW2, hW1, hW0]
        exact ((((HB.out.2.trans (grown_drew wr (some g))).trans (grown_set _ ⟨g, k * 2, none⟩ _)).trans (grown_set _ ⟨g, k * 2 + 1, none⟩ _)).trans (grown_set _ ⟨g, j * 2, none⟩ _)).trans (grown_set _ ⟨g, j * 2 + 1, none⟩ _)
      have HB3 := Lib.hid (And.intro HB3a HB3b)
      clear HB3a HB3b
      clear hW0 hW1 hW2 O0 O1 O2 hl1 hne1 HO HB C2 HSW HJ
      refine wp_region_st (by kernel_rfl) (by kernel_rfl) [14, 15, 16, 17, 18, 19, 20, 21, 22, 23, 24, 25, 26, 40, 27, 41] [.slice (some ⟨g, 0, none⟩) N c, .int .i64 (k : Int), .slice (some ⟨g, 0, none⟩) N c, .int .i64 (j : Int), .slice (some ⟨g, 0, none⟩) N c, .int .i64 (j : Int), .pointer (some ⟨g, j * 2, none⟩), .agg #[.int .i64 b1, .int .i64 b2], .slice (some ⟨g, 0, none⟩) N c, .int .i64 (k : Int), .pointer (some ⟨g, k * 2, none⟩), .agg #[.int .i64 a1, .int .i64 a2], .pointer (some ⟨g, k * 2, none⟩), undef, .pointer (some ⟨g, j * 2, none⟩), undef] (swapG 13 15 W0 W1 W2) 16 rfl rfl ⟨[u14, u15, u16, u17, u18, u19, u20, u21, u22, u23, u24, u25, u26, undef, u27, undef], by simp only [putAll, Act.put, List.setIfInBounds_toArray, List.set_cons_succ, List.set_cons_zero, List.set_nil], rfl⟩ (by rw [swapG_0 (by simp) (by simp), HW0.out]) ?steps ?fin
      case steps =>
        simp only [stSteps]
        refine ⟨?_, ?_, ?_, ?_, ?_, ?_, ?_, ?_, ?_, ?_, ?_, ?_, ?_, ?_, ?_, ?_, trivial⟩
        · rintro vs bs K hvl hbl hcl hb hw hK
          obtain ⟨x0, x1, x2, x3, x4, x5, x6, x7, x8, x9, x10, x11, x12, x13, x14, x15, rfl⟩ := len16 hvl
          have HK := Lib.hid hK
          have HW := Lib.hid hw
          have HCL := Lib.hid hcl
          have HBB := Lib.hid (And.intro hb hbl)
          clear hK hw hvl hcl hb hbl
          simp only [putAll, Act.put, List.setIfInBounds_toArray, List.set_cons_succ, List.set_cons_zero, List.set_nil]
          have fin0 := HK.out
          rw [swapG_pure (by decide) (by decide)] at fin0
          have FIN := Lib.hid fin0
          clear fin0 HW HCL HBB HK
          generalize swapG 13 15 W0 W1 W2 bs = W at *
          go_wp2_with fail
          have fin := FIN.out
          simp only [List.getD_cons_zero, putAll, Act.put, List.setIfInBounds_toArray, List.set_cons_succ, List.set_cons_zero, List.set_nil] at fin
          exact fin
        · rintro vs bs K hvl hbl hcl hb hw hK
          obtain ⟨x0, x1, x2, x3, x4, x5, x6, x7, x8, x9, x10, x11, x12, x13, x14, x15, rfl⟩ := len16 hvl
          have HK := Lib.hid hK
          have HW := Lib.hid hw
          have HCL := Lib.hid hcl
          have HBB := Lib.hid (And.intro hb hbl)
          clear hK hw hvl hcl hb hbl
          simp only [putAll, Act.put, List.setIfInBounds_toArray, List.set_cons_succ, List.set_cons_zero, List.set_nil]
          have fin0 := HK.out
          rw [swapG_pure (by decide) (by decide)] at fin0
          have FIN := Lib.hid fin0
          clear fin0 HW HCL HBB HK
          generalize swapG 13 15 W0 W1 W2 bs = W at *
          go_wp2_with fail
          have fin := FIN.out
          simp only [List.getD_cons_succ, List.getD_cons_zero, putAll, Act.put, List.setIfInBounds_toArray, List.set_cons_succ, List.set_cons_zero, List.set_nil] at fin
          exact fin
        · rintro vs bs K hvl hbl hcl hb hw hK
          obtain ⟨x0, x1, x2, x3, x4, x5, x6, x7, x8, x9, x10, x11, x12, x13, x14, x15, rfl⟩ := len16 hvl
          have HK := Lib.hid hK
          have HW := Lib.hid hw
          have HCL := Lib.hid hcl
          have HBB := Lib.hid (And.intro hb hbl)
          clear hK hw hvl hcl hb hbl
          simp only [putAll, Act.put, List.setIfInBounds_toArray, List.set_cons_succ, List.set_cons_zero, List.set_nil]
          have fin0 := HK.out
          rw [swapG_pure (by decide) (by decide)] at fin0
          have FIN := Lib.hid fin0
          clear fin0 HW HCL HBB HK
          generalize swapG 13 15 W0 W1 W2 bs = W at *
          go_wp2_with fail
          have fin := FIN.out
          simp only [List.getD_cons_succ, List.getD_cons_zero, putAll, Act.put, List.setIfInBounds_toArray, List.set_cons_succ, List.set_cons_zero, List.set_nil] at fin
          exact fin
        · rintro vs bs K hvl hbl hcl hb hw hK
          obtain ⟨x0, x1, x2, x3, x4, x5, x6, x7, x8, x9, x10, x11, x12, x13, x14, x15, rfl⟩ := len16 hvl
          have HK := Lib.hid hK
          have HW := Lib.hid hw
          have HCL := Lib.hid hcl
          have HBB := Lib.hid (And.intro hb hbl)
          clear hK hw hvl hcl hb hbl
          simp only [putAll, Act.put, List.setIfInBounds_toArray, List.set_cons_succ, List.set_cons_zero, List.set_nil]
          have fin0 := HK.out
          rw [swapG_pure (by decide) (by decide)] at fin0
          have FIN := Lib.hid fin0
          clear fin0 HW HCL HBB HK
          generalize swapG 13 15 W0 W1 W2 bs = W at *
          go_wp2_with fail
          have fin := FIN.out
          simp only [List.getD_cons_succ, List.getD_cons_zero, putAll, Act.put, List.setIfInBounds_toArray, List.set_cons_succ, List.set_cons_zero, List.set_nil] at fin
          exact fin
        · rintro vs bs K hvl hbl hcl hb hw hK
          obtain ⟨x0, x1, x2, x3, x4, x5, x6, x7, x8, x9, x10, x11, x12, x13, x14, x15, rfl⟩ := len16 hvl
          have HK := Lib.hid hK
          have HW := Lib.hid hw
          have HCL := Lib.hid hcl
          have HBB := Lib.hid (And.intro hb hbl)
          clear hK hw hvl hcl hb hbl
          simp only [putAll, Act.put, List.setIfInBounds_toArray, List.set_cons_succ, List.set_cons_zero, List.set_nil]
          have fin0 := HK.out
          rw [swapG_pure (by decide) (by decide)] at fin0
          have FIN := Lib.hid fin0
          clear fin0 HW HCL HBB HK
          generalize swapG 13 15 W0 W1 W2 bs = W at *
          go_wp2_with fail
          have fin := FIN.out
          simp only [List.getD_cons_succ, List.getD_cons_zero, putAll, Act.put, List.setIfInBounds_toArray, List.set_cons_succ, List.set_cons_zero, List.set_nil] at fin
          exact fin
        · rintro vs bs K hvl hbl hcl hb hw hK
          obtain ⟨x0, x1, x2, x3, x4, x5, x6, x7, x8, x9, x10, x11, x12, x13, x14, x15, rfl⟩ := len16 hvl
          have HK := Lib.hid hK
          have HW := Lib.hid hw
          have HCL := Lib.hid hcl
          have HBB := Lib.hid (And.intro hb hbl)
          clear hK hw hvl hcl hb hbl
          simp only [putAll, Act.put, List.setIfInBounds_toArray, List.set_cons_succ, List.set_cons_zero, List.set_nil]
          have fin0 := HK.out
          rw [swapG_pure (by decide) (by decide)] at fin0
          have FIN := Lib.hid fin0
          clear fin0 HW HCL HBB HK
          generalize swapG 13 15 W0 W1 W2 bs = W at *
          go_wp2_with fail
          have fin := FIN.out
          simp only [List.getD_cons_succ, List.getD_cons_zero, putAll, Act.put, List.setIfInBounds_toArray, List.set_cons_succ, List.set_cons_zero, List.set_nil] at fin
          exact fin
        · rintro vs bs K hvl hbl hcl hb hw hK
          obtain ⟨x0, x1, x2, x3, x4, x5, x6, x7, x8, x9, x10, x11, x12, x13, x14, x15, rfl⟩ := len16 hvl
          have HK := Lib.hid hK
          have HW := Lib.hid hw
          have HCL := Lib.hid hcl
          have HBB := Lib.hid (And.intro hb hbl)
          clear hK hw hvl hcl hb hbl
          obtain rfl : x4 = .slice (some ⟨g, 0, none⟩) N c := st_get (HW.out ⟨4, .data⟩ (by simp) rfl).2 rfl rfl
          obtain rfl : x5 = .int .i64 (j : Int) := st_get (HW.out ⟨5, .data⟩ (by simp) rfl).2 rfl rfl
          simp only [putAll, Act.put, List.setIfInBounds_toArray, List.set_cons_succ, List.set_cons_zero, List.set_nil]
          have fin0 := HK.out
          rw [swapG_pure (by decide) (by decide)] at fin0
          have FIN := Lib.hid fin0
          clear fin0 HW HCL HBB HK
          generalize swapG 13 15 W0 W1 W2 bs = W at *
          go_wp2_with fail
          have fin := FIN.out
          simp only [List.getD_cons_succ, List.getD_cons_zero, putAll, Act.put, List.setIfInBounds_toArray, List.set_cons_succ, List.set_cons_zero, List.set_nil] at fin
          exact fin
        · rintro vs bs K hvl hbl hcl hb hw hK
          obtain ⟨x0, x1, x2, x3, x4, x5, x6, x7, x8, x9, x10, x11, x12, x13, x14, x15, rfl⟩ := len16 hvl
          have HK := Lib.hid hK
          have HW := Lib.hid hw
          have HCL := Lib.hid hcl
          have HBB := Lib.hid (And.intro hb hbl)
          clear hK hw hvl hcl hb hbl
          obtain rfl : x6 = .pointer (some ⟨g, j * 2, none⟩) := st_get (HW.out ⟨6, .data⟩ (by simp) rfl).2 rfl rfl
          simp only [putAll, Act.put, List.setIfInBounds_toArray, List.set_cons_succ, List.set_cons_zero, List.set_nil]
          have n13 : bs[13]? ≠ some true := fun h => by
            have := HCL.out 13 _ rfl h ⟨7, .data⟩ (by simp) rfl
            rw [HBB.out.1] at this; cases this
          have n15 : bs[15]? ≠ some true := fun h => n13 (HCL.out 15 _ rfl h ⟨13, .chain⟩ (by simp) rfl)
          have e0 : swapG 13 15 W0 W1 W2 bs = W0 := swapG_0 n13 n15
          have fin0 := HK.out
          rw [swapG_pure (by decide) (by decide), e0] at fin0
          have FIN := Lib.hid fin0
          rw [e0]
          clear fin0 e0 n13 n15 HW HCL HBB HK
          obtain ⟨k0, k1, k2, k3⟩ := C0.out
          go_wp2_with fail
          have fin := FIN.out
          simp only [List.getD_cons_succ, List.getD_cons_zero, putAll, Act.put, List.setIfInBounds_toArray, List.set_cons_succ, List.set_cons_zero, List.set_nil] at fin
          exact fin
        · rintro vs bs K hvl hbl hcl hb hw hK
          obtain ⟨x0, x1, x2, x3, x4, x5, x6, x7, x8, x9, x10, x11, x12, x13, x14, x15, rfl⟩ := len16 hvl
          have HK := Lib.hid hK
          have HW := Lib.hid hw
          have HCL := Lib.hid hcl
          have HBB := Lib.hid (And.intro hb hbl)
          clear hK hw hvl hcl hb hbl
          simp only [putAll, Act.put, List.setIfInBounds_toArray, List.set_cons_succ, List.set_cons_zero, List.set_nil]
          have fin0 := HK.out
          rw [swapG_pure (by decide) (by decide)] at fin0
          have FIN := Lib.hid fin0
          clear fin0 HW HCL HBB HK
          generalize swapG 13 15 W0 W1 W2 bs = W at *
          go_wp2_with fail
          have fin := FIN.out
          simp only [List.getD_cons_succ, List.getD_cons_zero, putAll, Act.put, List.setIfInBounds_toArray, List.set_cons_succ, List.set_cons_zero, List.set_nil] at fin
          exact fin
        · rintro vs bs K hvl hbl hcl hb hw hK
          obtain ⟨x0, x1, x2, x3, x4, x5, x6, x7, x8, x9, x10, x11, x12, x13, x14, x15, rfl⟩ := len16 hvl
          have HK := Lib.hid hK
          have HW := Lib.hid hw
          have HCL := Lib.hid hcl
          have HBB := Lib.hid (And.intro hb hbl)
          clear hK hw hvl hcl hb hbl
          simp only [putAll, Act.put, List.setIfInBounds_toArray, List.set_cons_succ, List.set_cons_zero, List.set_nil]
          have fin0 := HK.out
          rw [swapG_pure (by decide) (by decide)] at fin0
          have FIN := Lib.hid fin0
          clear fin0 HW HCL HBB HK
          generalize swapG 13 15 W0 W1 W2 bs = W at *
          go_wp2_with fail
          have fin := FIN.out
          simp only [List.getD_cons_succ, List.getD_cons_zero, putAll, Act.put, List.setIfInBounds_toArray, List.set_cons_succ, List.set_cons_zero, List.set_nil] at fin
          exact fin
        · rintro vs bs K hvl hbl hcl hb hw hK
          obtain ⟨x0, x1, x2, x3, x4, x5, x6, x7, x8, x9, x10, x11, x12, x13, x14, x15, rfl⟩ := len16 hvl
          have HK := Lib.hid hK
          have HW := Lib.hid hw
          have HCL := Lib.hid hcl
          have HBB := Lib.hid (And.intro hb hbl)
          clear hK hw hvl hcl hb hbl
          obtain rfl : x8 = .slice (some ⟨g, 0, none⟩) N c := st_get (HW.out ⟨8, .data⟩ (by simp) rfl).2 rfl rfl
          obtain rfl : x9 = .int .i64 (k : Int) := st_get (HW.out ⟨9, .data⟩ (by simp) rfl).2 rfl rfl
          simp only [putAll, Act.put, List.setIfInBounds_toArray, List.set_cons_succ, List.set_cons_zero, List.set_nil]
          have fin0 := HK.out
          rw [swapG_pure (by decide) (by decide)] at fin0
          have FIN := Lib.hid fin0
          clear fin0 HW HCL HBB HK
          generalize swapG 13 15 W0 W1 W2 bs = W at *
          go_wp2_with fail
          have fin := FIN.out
          simp only [List.getD_cons_succ, List.getD_cons_zero, putAll, Act.put, List.setIfInBounds_toArray, List.set_cons_succ, List.set_cons_zero, List.set_nil] at fin
          exact fin
        · rintro vs bs K hvl hbl hcl hb hw hK
          obtain ⟨x0, x1, x2, x3, x4, x5, x6, x7, x8, x9, x10, x11, x12, x13, x14, x15, rfl⟩ := len16 hvl
          have HK := Lib.hid hK
          have HW := Lib.hid hw
          have HCL := Lib.hid hcl
          have HBB := Lib.hid (And.intro hb hbl)
          clear hK hw hvl hcl hb hbl
          obtain rfl : x10 = .pointer (some ⟨g, k * 2, none⟩) := st_get (HW.out ⟨10, .data⟩ (by simp) rfl).2 rfl rfl
          simp only [putAll, Act.put, List.setIfInBounds_toArray, List.set_cons_succ, List.set_cons_zero, List.set_nil]
          have n13 : bs[13]? ≠ some true := fun h => by
            have := HCL.out 13 _ rfl h ⟨11, .phase⟩ (by simp) rfl
            rw [HBB.out.1] at this; cases this
          have n15 : bs[15]? ≠ some true := fun h => n13 (HCL.out 15 _ rfl h ⟨13, .chain⟩ (by simp) rfl)
          have e0 : swapG 13 15 W0 W1 W2 bs = W0 := swapG_0 n13 n15
          have fin0 := HK.out
          rw [swapG_pure (by decide) (by decide), e0] at fin0
          have FIN := Lib.hid fin0
          rw [e0]
          clear fin0 e0 n13 n15 HW HCL HBB HK
          obtain ⟨k0, k1, k2, k3⟩ := C0.out
          go_wp2_with fail
          have fin := FIN.out
          simp only [List.getD_cons_succ, List.getD_cons_zero, putAll, Act.put, List.setIfInBounds_toArray, List.set_cons_succ, List.set_cons_zero, List.set_nil] at fin
          exact fin
        · rintro vs bs K hvl hbl hcl hb hw hK
          obtain ⟨x0, x1, x2, x3, x4, x5, x6, x7, x8, x9, x10, x11, x12, x13, x14, x15, rfl⟩ := len16 hvl
          have HK := Lib.hid hK
          have HW := Lib.hid hw
          have HCL := Lib.hid hcl
          have HBB := Lib.hid (And.intro hb hbl)
          clear hK hw hvl hcl hb hbl
          obtain rfl : x0 = .slice (some ⟨g, 0, none⟩) N c := st_get (HW.out ⟨0, .data⟩ (by simp) rfl).2 rfl rfl
          obtain rfl : x1 = .int .i64 (k : Int) := st_get (HW.out ⟨1, .data⟩ (by simp) rfl).2 rfl rfl
          simp only [putAll, Act.put, List.setIfInBounds_toArray, List.set_cons_succ, List.set_cons_zero, List.set_nil]
          have fin0 := HK.out
          rw [swapG_pure (by decide) (by decide)] at fin0
          have FIN := Lib.hid fin0
          clear fin0 HW HCL HBB HK
          generalize swapG 13 15 W0 W1 W2 bs = W at *
          go_wp2_with fail
          have fin := FIN.out
          simp only [List.getD_cons_succ, List.getD_cons_zero, putAll, Act.put, List.setIfInBounds_toArray, List.set_cons_succ, List.set_cons_zero, List.set_nil] at fin
          exact fin
        · rintro vs bs K hvl hbl hcl hb hw hK
          obtain ⟨x0, x1, x2, x3, x4, x5, x6, x7, x8, x9, x10, x11, x12, x13, x14, x15, rfl⟩ := len16 hvl
          have HK := Lib.hid hK
          have HW := Lib.hid hw
          have HCL := Lib.hid hcl
          have HBB := Lib.hid (And.intro hb hbl)
          clear hK hw hvl hcl hb hbl
          obtain rfl : x12 = .pointer (some ⟨g, k * 2, none⟩) := st_get (HW.out ⟨12, .data⟩ (by simp) rfl).2 rfl rfl
          obtain rfl : x7 = .agg #[.int .i64 b1, .int .i64 b2] := st_get (HW.out ⟨7, .data⟩ (by simp) rfl).2 rfl rfl
          simp only [putAll, Act.put, List.setIfInBounds_toArray, List.set_cons_succ, List.set_cons_zero, List.set_nil]
          have n13 : bs[13]? ≠ some true := fun h => by rw [HBB.out.1] at h; cases h
          have n15 : bs[15]? ≠ some true := fun h => n13 (HCL.out 15 _ rfl h ⟨13, .chain⟩ (by simp) rfl)
          have e0 : swapG 13 15 W0 W1 W2 bs = W0 := swapG_0 n13 n15
          have fin0 := HK.out
          rw [swapG_1 (by rw [List.getElem?_set_self (by rw [HBB.out.2]; omega)]) (by rw [List.getElem?_set_ne (by decide)]; exact n15), HW1.out] at fin0
          have FIN := Lib.hid fin0
          rw [e0]
          clear fin0 e0 n13 n15 HW HCL HBB HK
          obtain ⟨k0, k1, k2, k3⟩ := C0.out
          have f0 := FZ0.out (k * 2)
          have f1 := FZ0.out (k * 2 + 1)
          go_wp2_with fail
          have fin := FIN.out
          simp only [List.getD_cons_succ, List.getD_cons_zero, putAll, Act.put, List.setIfInBounds_toArray, List.set_cons_succ, List.set_cons_zero, List.set_nil] at fin
          exact fin
        · rintro vs bs K hvl hbl hcl hb hw hK
          obtain ⟨x0, x1, x2, x3, x4, x5, x6, x7, x8, x9, x10, x11, x12, x13, x14, x15, rfl⟩ := len16 hvl
          have HK := Lib.hid hK
          have HW := Lib.hid hw
          have HCL := Lib.hid hcl
          have HBB := Lib.hid (And.intro hb hbl)
          clear hK hw hvl hcl hb hbl
          obtain rfl : x2 = .slice (some ⟨g, 0, none⟩) N c := st_get (HW.out ⟨2, .data⟩ (by simp) rfl).2 rfl rfl
          obtain rfl : x3 = .int .i64 (j : Int) := st_get (HW.out ⟨3, .data⟩ (by simp) rfl).2 rfl rfl
          simp only [putAll, Act.put, List.setIfInBounds_toArray, List.set_cons_succ, List.set_cons_zero, List.set_nil]
          have fin0 := HK.out
          rw [swapG_pure (by decide) (by decide)] at fin0
          have FIN := Lib.hid fin0
          clear fin0 HW HCL HBB HK
          generalize swapG 13 15 W0 W1 W2 bs = W at *
          go_wp2_with fail
          have fin := FIN.out
          simp only [List.getD_cons_succ, List.getD_cons_zero, putAll, Act.put, List.setIfInBounds_toArray, List.set_cons_succ, List.set_cons_zero, List.set_nil] at fin
          exact fin
        · rintro vs bs K hvl hbl hcl hb hw hK
          obtain ⟨x0, x1, x2, x3, x4, x5, x6, x7, x8, x9, x10, x11, x12, x13, x14, x15, rfl⟩ := len16 hvl
          have HK := Lib.hid hK
          have HW := Lib.hid hw
          have HCL := Lib.hid hcl
          have HBB := Lib.hid (And.intro hb hbl)
          clear hK hw hvl hcl hb hbl
          obtain rfl : x14 = .pointer (some ⟨g, j * 2, none⟩) := st_get (HW.out ⟨14, .data⟩ (by simp) rfl).2 rfl rfl
          obtain rfl : x11 = .agg #[.int .i64 a1, .int .i64 a2] := st_get (HW.out ⟨11, .data⟩ (by simp) rfl).2 rfl rfl
          simp only [putAll, Act.put, List.setIfInBounds_toArray, List.set_cons_succ, List.set_cons_zero, List.set_nil]
          have p13 : bs[13]? = some true := (HW.out ⟨13, .chain⟩ (by simp) rfl).1
          have n15 : bs[15]? ≠ some true := fun h => by rw [HBB.out.1] at h; cases h
          have e0 : swapG 13 15 W0 W1 W2 bs = W1 := swapG_1 p13 n15
          have fin0 := HK.out
          rw [swapG_2 (by rw [List.getElem?_set_self (by rw [HBB.out.2]; omega)]), HW2.out] at fin0
          have FIN := Lib.hid fin0
          rw [e0]
          clear fin0 e0 p13 n15 HW HCL HBB HK
          obtain ⟨⟨y0, k0⟩, ⟨y1, k1⟩⟩ := C1.out
          have f0 := FZ1.out (j * 2)
          have f1 := FZ1.out (j * 2 + 1)
          go_wp2_with fail
          have fin := FIN.out
          simp only [List.getD_cons_succ, List.getD_cons_zero, putAll, Act.put, List.setIfInBounds_toArray, List.set_cons_succ, List.set_cons_zero, List.set_nil] at fin
          exact fin
      case fin =>
        rw [swapG_2 (by simp)]
        simp only [putAll, Act.put, List.setIfInBounds_toArray, List.set_cons_succ, List.set_cons_zero, List.set_nil]
        go_wp2_with fail
        refine ⟨⟨k + 1, _, by simp, by rw [EN.out], by omega, HSTP, HO3, HB3⟩, ?_⟩
        simp [intOf]; omega
    · have hd : decide ((k : Int) < (N : Int) - 1 - (k : Int)) = false := decide_eq_false (by omega)
      have HE := Lib.hid (HS.out.stop (by rw [HN.out]; omega) (by rw [HN.out]; omega))
      go_wp2_with fail
      go_end0
      exact ⟨⟨_, rfl⟩, by rw [← HE.out]; exact HO.out, HB.out.1, HB.out.2⟩
theorem flatP_flat : ∀ ps : List (Int × Int), flatP ps = flat ps
  | [] => rfl
  | p :: ps => by
    have h := flatP_flat ps
    unfold flatP at h ⊢
    rw [List.flatMap_cons, h, flat]; rfl
end Go.Proofs.Ytlamppplnojpbaa
namespace Go.Proofs.Ytlamppplnojpbaa
open Go.RowKit Go.Shelf
attribute [local go_sem] Oper.semAt_some
set_option maxRecDepth 100000 in
set_option maxHeartbeats 400000 in
theorem reverse_nil (a : Option Addr) (c : Nat) (w : World) : Calls Try.prog 73 #[.slice a 0 c] w fun e w' => (∃ v, e = .returned v) ∧ w' = w := by
  go_enter Try.func73, Try.ntmps73
  go_wp2_with fail
  go_loopw [2, 3] (fun i jv wr => i = .int .i64 0 ∧ jv = .int .i64 (-1) ∧ wr = w) (fun _ _ _ => 0)
  case atStart => exact ⟨rfl, rfl, rfl⟩
  case round =>
    obtain ⟨rfl, rfl, rfl⟩ := hrel
    have hd : decide ((0 : Int) < -1) = false := by decide
    go_wp2_with fail
    go_end0
    exact ⟨⟨_, rfl⟩, rfl⟩
set_option maxRecDepth 100000 in
set_option maxHeartbeats 400000 in
theorem collect_any (r b : Nat) (A : Sn) (g0 g1 g2 g3 : Int) (ok : Bool) (hgf : Fok [g0, g1, g2, g3]) (n : Nat) (hn : n ≤ 1000000) (hG : GoodT n A (cmOf A [g0, g1, g2, g3])) (w : World)
    (rr : Row w r 89 [.map (some b), .int .i64 g0, .int .i64 g1, .int .i64 g2, .int .i64 g3, .bool ok]) (hs : SeenAt w b A.length (seenV A)) :
    Calls Try.prog 72 #[.func (.func 71) #[] #[.pointer (some ⟨r, 0, none⟩)]] w fun e w' => ∃ v, e = .returned v ∧ OwnP w' w.heap.size v (trc n A (cmOf A [g0, g1, g2, g3])) ∧ Below w.heap.size w w' := by
  have H := Lib.hid (appseq_any r b A g0 g1 g2 g3 ok hgf n hn hG w rr hs)
  clear hgf hn hG rr hs
  go_enter Try.func72, Try.ntmps72
  go_wp2_with fail
  refine H.out.mono ?_
  rintro e w1 ⟨v, rfl, ho, hb⟩
  have HO := Lib.hid ho
  have HB := Lib.hid hb
  clear H ho hb
  go_wp2_with fail
  go_ret
  refine ⟨_, rfl, ?_, HB.out⟩
  have h := HO.out
  rw [flatP_flat] at h
  show World.ownsRow _ _ _ _ _ _ _
  rw [trc_len]
  exact h
set_option maxRecDepth 100000 in
set_option maxHeartbeats 400000 in
theorem foundway_any (b : Nat) (A : Sn) (g0 g1 g2 g3 : Int) (ok : Bool) (hgf : Fok [g0, g1, g2, g3]) (n : Nat) (hn : n ≤ 1000000) (hG : ok = true → GoodT n A (cmOf A [g0, g1, g2, g3])) (w : World) (hs : SeenAt w b A.length (seenV A)) :
    Calls Try.prog 59 #[.agg #[.map (some b), .int .i64 g0, .int .i64 g1, .int .i64 g2, .int .i64 g3, .bool ok]] w fun e w' => ∃ v, e = .returned (.tuple #[v, .bool ok]) ∧ OwnP w' w.heap.size v (if ok = true then (trc n A (cmOf A [g0, g1, g2, g3])).reverse else []) ∧ Below w.heap.size w w' := by
  have b0 := (Below.refl w.heap.size w).alloc (Nat.le_refl _) (.cells #[.map (some b), .int .i64 g0, .int .i64 g1, .int .i64 g2, .int .i64 g3, .bool ok] 89)
  have r0 := Row.new w 89 [.map (some b), .int .i64 g0, .int .i64 g1, .int .i64 g2, .int .i64 g3, .bool ok]
  have z0 := size_al w (.cells #[.map (some b), .int .i64 g0, .int .i64 g1, .int .i64 g2, .int .i64 g3, .bool ok] 89)
  have hs0 := hs.grow b0
  have c5 : (w.alloc (.cells #[.map (some b), .int .i64 g0, .int .i64 g1, .int .i64 g2, .int .i64 g3, .bool ok] 89)).cell? ⟨w.heap.size, 5, none⟩ = some (.bool ok) := r0.cell 5
  have B0 := Lib.hid b0
  have R0 := Lib.hid r0
  have Z0 := Lib.hid z0
  have S0 := Lib.hid hs0
  have HG := Lib.hid hG
  clear b0 r0 z0 hs0 hG hs
  cases ok with
  | false =>
    go_enter Try.func59, Try.ntmps59
    go_wp2_with fail
    go_ret2
    exact ⟨_, rfl, World.ownsRow_nil _ _ _ _, B0.out⟩
  | true =>
    go_enter Try.func59, Try.ntmps59
    go_wp2_with fail
    refine (collect_any w.heap.size b A g0 g1 g2 g3 true hgf n hn (HG.out trivial) _ R0.out S0.out).mono ?_
    rintro e w1 ⟨v, rfl, ho, hb⟩
    rw [Z0.out] at ho hb
    have HO := Lib.hid ho
    have HB := Lib.hid hb
    clear ho hb
    go_wp2_with fail
    have hB2 : ∀ w2, Below (w.heap.size + 1) w1 w2 → Below w.heap.size w w2 := fun w2 h => Below.trans B0.out (Below.mono (Below.trans HB.out h) (Nat.le_succ _))
    by_cases h1 : (trc n A (cmOf A [g0, g1, g2, g3])).length = 0
    · have hnil : trc n A (cmOf A [g0, g1, g2, g3]) = [] := List.eq_nil_of_length_eq_zero h1
      obtain ⟨a, c, rfl, _⟩ := OwnP.open HO.out
      rw [h1]
      refine (reverse_nil a c _).mono ?_
      rintro e w2 ⟨⟨_, rfl⟩, rfl⟩
      have HB2 := Lib.hid (hB2 w2 (Below.refl _ _))
      have HN := Lib.hid hnil
      have H1 := Lib.hid h1
      clear hB2 hnil h1
      go_wp2_with fail
      go_ret2
      refine ⟨.slice a 0 c, rfl, ?_, HB2.out⟩
      have h := HO.out
      rw [H1.out, HN.out] at h
      rw [HN.out]
      exact owns_mono h (Nat.le_succ _)
    · rcases HO.out.2 with ⟨_, hn0⟩ | ⟨g, c, cur, hv, hrest⟩
      · exact absurd hn0 h1
      · subst hv
        have hr := reverse_any (trc n A (cmOf A [g0, g1, g2, g3])) g c (w.heap.size + 1) w1 HO.out (by have := HB.out.size; rw [Z0.out] at this; exact this) (by omega) (by rw [trc_len]; omega)
        refine hr.mono ?_
        rintro e w2 ⟨⟨_, rfl⟩, ho2, hb2, _⟩
        have HO2 := Lib.hid ho2
        have HB2 := Lib.hid (hB2 w2 hb2)
        clear ho2 hb2 hrest hr hB2
        go_wp2_with fail
        go_ret2
        refine ⟨.slice (some ⟨g, 0, none⟩) (trc n A (cmOf A [g0, g1, g2, g3])).length c, rfl, ?_, HB2.out⟩
        have h := owns_mono HO2.out (Nat.le_succ _)
        show World.ownsRow _ _ _ _ _ _ _
        rw [List.length_reverse] at h ⊢
        exact h
end Go.Proofs.Ytlamppplnojpbaa
