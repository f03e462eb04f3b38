import Derived.Test.YtlamppplnojpbaaJg
import Derived.Laws.AppendOwn
import Derived.Maps.OwnIn
import Derived.Maps.AppendAt
import Derived.RangeFuncNested
import Derived.RangeFuncBound
import Derived.RangeFuncCalls
import Derived.RangeFuncLeaves
import Derived.Shelf.Abstract
import Derived.Shelf.RegionOpen
import Derived.WalkKit
import Derived.WalkMore
import Derived.OwnWalkIn
import Derived.TacticsInMore
import Derived.LoopNIn
import Derived.LoopIn
import Derived.WalkSpells
import Derived.WalkLawsBesides
import Derived.BigQuiet
import Derived.Deep.QuietTactic
import Derived.Lib.Hide
import Derived.Deep.RegionHeld3
import Derived.StillTailTactics
import Derived.Deep.LoopGhost
import Derived.Maps.OwnSet
import Derived.Lib.IndexAny
import Derived.Sort.QuietThIn
import Derived.Sort.QuietTacIn
import Derived.Sort.BigQuietIn
namespace Go.Proofs.Ytlamppplnojpbaa
open Go.RowKit Go.Shelf
attribute [local go_sem] Oper.semAt_some
section
variable {P : Program} {w : World} {ops : Array Oper} {rest : List Oper} {o : Oper} {a : Act} {Q : Exit → Act → World → Prop}
/-- an entry of a map that is written out -/
theorem wpList_insert (hg : o.guard = none) (m x v : Operand) (t : TypeId) (hop : o.op = Op.insert t m x v) (vm vx vv : Value) (hm : a.eval m = vm) (hx : a.eval x = vx) (hv : a.eval v = vv)
    (w' : World) (hr : (Instr.mapUpdate t vm vx vv).run P w = .ok () w') (h : wpList P ops Q rest (a.put o.dst undef) w') : wpList P ops Q (o :: rest) a w := by
  refine wpList_plain hg fun K' hK' => ?_
  unfold Oper.wp
  simp [execOp, hop, hm, hx, hv, hr, Result.andThen]
  exact hK' _ _ h
end
theorem search_start (w : World) (f0 f1 f2 f3 : Int) (hF : Fok [f0, f1, f2, f3]) (fd fg : Value) : ∃ V,
    (Instr.mapUpdate 74 (.map (some (w.heap.size + 1 + 1 + 1 + 1))) (.agg #[.int .i64 f0, .int .i64 f1, .int .i64 f2, .int .i64 f3]) (.agg #[.int .i64 0, .int .i64 0, .int .i64 0, .int .i64 0, .int .i64 0, .int .i64 0, .int .i64 0])).run Try.prog
      (((((w.alloc (.cells #[.int .i64 f0, .int .i64 f1, .int .i64 f2, .int .i64 f3] 77)).alloc (.cells #[fd] 86)).alloc (.cells #[fg] 91)).alloc (.cells #[.map none, .int .i64 0, .int .i64 0, .int .i64 0, .int .i64 0, .bool false] 89)).alloc (.map #[] 0)) = .ok () V ∧
    SeenAt V (w.heap.size + 1 + 1 + 1 + 1) 1 (putS (fun _ => none) [f0, f1, f2, f3] zeroC) ∧ Row V w.heap.size 77 [.int .i64 f0, .int .i64 f1, .int .i64 f2, .int .i64 f3] ∧ Row V (w.heap.size + 1) 86 [fd] ∧ Row V (w.heap.size + 1 + 1) 91 [fg] ∧
    Row V (w.heap.size + 1 + 1 + 1) 89 [.map none, .int .i64 0, .int .i64 0, .int .i64 0, .int .i64 0, .bool false] ∧ Below w.heap.size w V ∧ w.heap.size + 1 + 1 + 1 + 1 + 1 ≤ V.heap.size := by
  have r0 := Row.new w 77 [.int .i64 f0, .int .i64 f1, .int .i64 f2, .int .i64 f3]
  have b0 := (Below.refl w.heap.size w).alloc (Nat.le_refl _) (.cells #[.int .i64 f0, .int .i64 f1, .int .i64 f2, .int .i64 f3] 77)
  have z0 := size_al w (.cells #[.int .i64 f0, .int .i64 f1, .int .i64 f2, .int .i64 f3] 77)
  generalize hW0 : w.alloc (.cells #[.int .i64 f0, .int .i64 f1, .int .i64 f2, .int .i64 f3] 77) = W0 at *
  have r1 := Row.new W0 86 [fd]
  have b1 := (Below.refl W0.heap.size W0).alloc (Nat.le_refl _) (.cells #[fd] 86)
  have z1 := size_al W0 (.cells #[fd] 86)
  generalize hW1 : W0.alloc (.cells #[fd] 86) = W1 at *
  have r2 := Row.new W1 91 [fg]
  have b2 := (Below.refl W1.heap.size W1).alloc (Nat.le_refl _) (.cells #[fg] 91)
  have z2 := size_al W1 (.cells #[fg] 91)
  generalize hW2 : W1.alloc (.cells #[fg] 91) = W2 at *
  have r3 := Row.new W2 89 [.map none, .int .i64 0, .int .i64 0, .int .i64 0, .int .i64 0, .bool false]
  have b3 := (Below.refl W2.heap.size W2).alloc (Nat.le_refl _) (.cells #[.map none, .int .i64 0, .int .i64 0, .int .i64 0, .int .i64 0, .bool false] 89)
  have z3 := size_al W2 (.cells #[.map none, .int .i64 0, .int .i64 0, .int .i64 0, .int .i64 0, .bool false] 89)
  generalize hW3 : W2.alloc (.cells #[.map none, .int .i64 0, .int .i64 0, .int .i64 0, .int .i64 0, .bool false] 89) = W3 at *
  have b4 := (Below.refl W3.heap.size W3).alloc (Nat.le_refl _) (.map #[] 0)
  have z4 := size_al W3 (.map #[] 0)
  have hm := seen_made W3
  generalize hW4 : W3.alloc (.map #[] 0) = W4 at *
  obtain ⟨V, hr, hs, hg⟩ := hm.put hF zeroC (by unfold maxLen; omega) rfl
  have eB : W3.heap.size = w.heap.size + 1 + 1 + 1 + 1 := by rw [z3, z2, z1, z0]
  have keep : ∀ (g : Nat) (E : TypeId) (vs : List Value), g < W3.heap.size → Row W4 g E vs → Row V g E vs := fun g E vs hlt h => by
    show V.heap[g]? = _
    rw [hg.block g (by omega) (fun e => by cases e; omega)]
    exact h
  rw [eB] at hr hs
  have bw : Below w.heap.size w W4 := Below.andThen (Below.andThen (Below.andThen (Below.andThen b0 b1 (by omega)) b2 (by omega)) b3 (by omega)) b4 (by omega)
  refine ⟨V, hr, hs, keep _ _ _ (by omega) ((((r0.below b1 (by omega)).below b2 (by omega)).below b3 (by omega)).below b4 (by omega)), ?_, ?_, ?_, bw.grown hg (by omega) (fun k e => by cases e; omega), by have := hg.size; omega⟩
  · rw [← z0]; exact keep _ _ _ (by omega) (((r1.below b2 (by omega)).below b3 (by omega)).below b4 (by omega))
  · rw [← z0, ← z1]; exact keep _ _ _ (by omega) ((r2.below b3 (by omega)).below b4 (by omega))
  · rw [← z0, ← z1, ← z2]; exact keep _ _ _ (by omega) (r3.below b4 (by omega))
theorem lasts_seen (B b n : Nat) (S : List Int → Option Value) (hb : b < B) : Lasts B (fun W => SeenAt W b n S) := fun _ _ _ hi hg hr =>
  hi.kept hg (fun e => by have := (hr b e.symm).1; omega)
theorem lasts_queue (B base : Nat) (v : Value) (qs : List (List Int)) : Lasts B (fun W => QAt W base v qs) := fun W W' row hi hg hr => by
  refine hi.kept hg (fun e => ?_)
  obtain ⟨_, g, off, cap, cur, rfl, _, hh, _⟩ := hi
  obtain ⟨_, o, ho, hc⟩ := hr g (by rw [← e]; rfl)
  rw [hh] at ho; cases ho; cases hc
theorem rowL_pre (ls f : Int) (j k : Nat) (h : j ≤ k) : rowL ls f j <+: rowL ls f k := by
  obtain ⟨d, rfl⟩ : ∃ d, k = j + d := ⟨k - j, by omega⟩
  unfold rowL
  rw [List.range_add, List.map_append, List.filter_append]
  exact List.prefix_append _ _
theorem beforeL_pre (ls : Int) (m i j : Nat) (hi : i < m) (hj : j ≤ m) : beforeL ls m i j <+: stepsL ls m := by
  unfold beforeL stepsL
  obtain ⟨d, rfl⟩ : ∃ d, m = i + 1 + d := ⟨m - i - 1, by omega⟩
  rw [List.range_add, List.flatMap_append, List.range_succ, List.flatMap_append]
  obtain ⟨t, ht⟩ := rowL_pre ls (ls + (i : Int)) j (i + 1 + d) hj
  refine ⟨t ++ (List.map (fun x => i + 1 + x) (List.range d)).flatMap (fun a : Nat => rowL ls (ls + (a : Int)) (i + 1 + d)), ?_⟩
  simp only [List.flatMap_cons, List.flatMap_nil, List.append_nil, List.append_assoc]
  rw [← List.append_assoc (rowL ls (ls + (i : Int)) j) t, ht]
theorem steps_stops2 (nf bl bj n : Nat) (hn : n ≤ 4) (p0 p1 p2 p3 ls : Int) (m : Nat) (hls : ls = -1 ∨ ls = 0) (hm : (n : Int) = ls + (m : Int)) (w : World) (hbl : bl < w.heap.size) (hbj : bj < w.heap.size)
    (rl : Row w bl 3 [.int .i64 ls]) (rj : Row w bj 80 [.int .i64 (n : Int), .int .i64 p0, .int .i64 p1, .int .i64 p2, .int .i64 p3]) :
    SeqStopsK Fence.wide nf Try.prog 70 #[.pointer (some ⟨bl, 0, none⟩), .pointer (some ⟨bj, 0, none⟩)] (fun x : Stp ls m => #[encS x.1]) (Keeps2 bl bj) (fun ys => ys.map Subtype.val = stepsL ls m) (fun ys => ys.map Subtype.val <+: stepsL ls m) (m * m) w := fun l J Jx W hW hJ _ hY h0 => by
  refine (steps1_in nf l bl bj n hn p0 p1 p2 p3 ls m hls hm (fun pre W' => ∃ pf : List (Stp ls m), pf.map Subtype.val = pre ∧ J pf W') (fun W' => ∃ pf, pf.map Subtype.val <+: stepsL ls m ∧ Jx pf W') ?_ W (rl.below hW hbl) (rj.below hW hbj) ⟨[], rfl, h0⟩).mono ?_
  · rintro i j A hi hj hij ⟨pf, hp, hA⟩
    obtain ⟨fn, tmps, assign, body, hy, hR⟩ := hY pf ⟨(ls + (i : Int), ls + (j : Int)), step_mem ls m i j hi hj hij⟩ A hA (by
      have h1 := beforeL_len ls m i j
      rw [← hp, List.length_map] at h1
      have h2 : (i + 1) * m ≤ m * m := Nat.mul_le_mul_right m hi
      rw [Nat.add_mul, Nat.one_mul] at h2
      omega)
    have hnx : (pf ++ [(⟨(ls + (i : Int), ls + (j : Int)), step_mem ls m i j hi hj hij⟩ : Stp ls m)]).map Subtype.val = beforeL ls m i (j + 1) := by rw [List.map_append, hp, beforeL_ne _ _ _ _ hij]; rfl
    refine ⟨fn, tmps, assign, body, hy, hR.mono ?_⟩
    rintro e W' (⟨he, h1, h2⟩ | ⟨he, h1⟩)
    · exact .inl ⟨he, ⟨_, hnx, h1⟩, h2⟩
    · exact .inr ⟨he, _, by rw [hnx]; exact beforeL_pre ls m i (j + 1) hi hj, h1⟩
  · rintro e W' ⟨he, ⟨pf, hp, hj⟩ | ⟨pf, hp, hj⟩⟩
    · exact ⟨he, .inl ⟨_, hp, hj⟩⟩
    · exact ⟨he, .inr ⟨_, hp, hj⟩⟩
/-- how a round's body may be left -/
def roundEnds2 (B b Bs : Nat) (I : List (Int × Int) → World → Prop) (Ix : Code → List (Int × Int) → World → Prop) (xs : List (Int × Int)) (W : World) : Exit → Act → World → Prop
  | .normal, _, W' => KeepsFrom B W W' ∧ Keeps2 b Bs W W' ∧ I xs W'
  | .ret, _, W' => KeepsFrom B W W' ∧ Ix .ret xs W'
  | .exit id, _, W' => KeepsFrom B W W' ∧ Ix (.exit id) xs W'
  | _, _, _ => False
/-- a range over the steps, where what is assigned makes a block -/
theorem range_steps2 {g : Operand} {p0' : Tmp} {assign body : Code} {Q : Exit → Act → World → Prop} {a : Act} {w : World} (nf bl bj n : Nat) (hnf : 1 ≤ nf) (hn : n ≤ 4) (p0 p1 p2 p3 ls : Int) (m : Nat) (hls : ls = -1 ∨ ls = 0) (hm : (n : Int) = ls + (m : Int))
    (hg : a.eval g = .func (.func 70) #[] #[.pointer (some ⟨bl, 0, none⟩), .pointer (some ⟨bj, 0, none⟩)]) (hbl : bl < w.heap.size) (hbj : bj < w.heap.size)
    (rl : Row w bl 3 [.int .i64 ls]) (rj : Row w bj 80 [.int .i64 (n : Int), .int .i64 p0, .int .i64 p1, .int .i64 p2, .int .i64 p3])
    (I : List (Int × Int) → World → Prop) (Ix : Code → List (Int × Int) → World → Prop) (hI : ∀ k, Lasts w.heap.size (I k)) (hIx : ∀ c k, Lasts w.heap.size (Ix c k)) (h0 : I [] w) (R : Int × Int → Act → World → Prop) (hR : ∀ x a', Lasts w.heap.size (R x a'))
    (hassign : ∀ (l : Nat) (x : Int × Int) (W : World) (K : Act → World → Prop), w.heap.size ≤ W.heap.size → (∀ a' W', R x a' W' → Below W.heap.size W W' → K a' W') →
      assign.wpIn (Fence.wide.inRound l) (nf - 1 - 1) Try.prog (Exit.then K (fun _ _ _ => False)) { tmps := a.tmps.setIfInBounds p0' (encS x), defers := [] } W)
    (hbody : ∀ (l : Nat) (x : Int × Int) (pre : List (Int × Int)) (a' : Act) (W : World), x ∈ stepsL ls m → pre.length < m * m → w.heap.size ≤ W.heap.size → I pre W → R x a' W → body.wpIn (Fence.wide.inRound l) (nf - 1 - 1) Try.prog (roundEnds2 w.heap.size bl bj I Ix (pre ++ [x]) W) a' W)
    (hdone : ∀ (D : Nat) (W : World), w.heap.size ≤ D → I (stepsL ls m) W → W.heap[D]? = some (.deferred (some [])) → Q .normal { a with defers := { target := .collected D, args := #[] } :: a.defers } W)
    (hstop : ∀ (D : Nat) (c : Code) (pre : List (Int × Int)) (W : World), w.heap.size ≤ D → pre <+: stepsL ls m → Ix c pre W → W.heap[D]? = some (.deferred (some [])) → c.wpIn Fence.wide nf Try.prog Q { a with defers := { target := .collected D, args := #[] } :: a.defers } W) :
    (Code.rangeFunc g #[p0'] assign body).wpIn Fence.wide nf Try.prog Q a w := by
  refine wpIn_rangeFunc_ownH (F := Fence.wide) rfl hnf hg trivial (enters_of Try.func70 (by kernel_rfl) rfl) (steps_stops2 (nf - 1) bl bj n hn p0 p1 p2 p3 ls m hls hm w hbl hbj rl rj)
    (fun h k => Keeps2.trans h k) (fun W l o o' hl h _ _ => Keeps2.put (Nat.lt_of_lt_of_le hbl hl) (Nat.lt_of_lt_of_le hbj hl) W o') (Below.refl _ _) (fun _ => rfl)
    (fun pre W => w.heap.size ≤ W.heap.size ∧ I (pre.map Subtype.val) W) (fun c pre W => Ix c (pre.map Subtype.val) W)
    (Lasts.own (fun s => (lasts_size _ _).and (hI (s.map Subtype.val)))) (fun c => Lasts.own (fun s => hIx c (s.map Subtype.val))) ⟨Nat.le_refl _, h0⟩
    (fun x a' W => R x.1 a' W)
    ?_ ?assign ?body ?done ?stop
  case done =>
    rintro D xs W hD hxs ⟨_, hi⟩ hK
    rw [hxs] at hi
    exact hdone D W hD hi hK
  case stop =>
    rintro D c pre W hD hp hi hK
    exact hstop D c _ W hD hp hi hK
  case assign =>
    rintro l pre x W K ⟨hs, hi⟩ hK
    have h := hassign l x.1 W K hs (fun a' W' hr hb => hK a' W' (KeepsFrom.of_grownBy (row := none) ⟨hb.os, hb.tape, hb.output, hb.size, fun k hk _ => hb.block k hk⟩ (by simp)) (Keeps2.of_below hb (Nat.lt_of_lt_of_le hbl hs) (Nat.lt_of_lt_of_le hbj hs)) ⟨Nat.le_trans hs hb.size, (hI _).grow hi hb⟩ hr)
    have e : (#[p0'].zip #[encS x.1]).foldl (fun t (p, v) => t.setIfInBounds p v) a.tmps = a.tmps.setIfInBounds p0' (encS x.1) := by simp
    rw [e]; exact h
  case body =>
    rintro l pre x a' W hl hr ⟨hs, hi⟩ ha' hlen
    refine wpIn_mono (hbody l x.1 (pre.map Subtype.val) a' W x.2 (by rw [List.length_map]; exact hlen) hs hi ha') ?_
    rintro e a3 W3 hp
    cases e with
    | normal => exact ⟨hp.1, hp.2.1, Nat.le_trans hs hp.2.1.1, by rw [List.map_append]; exact hp.2.2⟩
    | ret => exact ⟨hp.1, by dsimp only; rw [List.map_append]; exact hp.2⟩
    | exit id => exact ⟨hp.1, by dsimp only; rw [List.map_append]; exact hp.2⟩
    | goto t => exact hp.elim
    | panic ch => exact hp.elim
    | outgrown => exact hp.elim
  · intro x a' s W W' row hs hg hr
    exact hR x.1 a' W W' row hs hg hr
end Go.Proofs.Ytlamppplnojpbaa
