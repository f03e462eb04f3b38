import Derived.Test.YtlamppplnojpbaaJt
import Derived.Laws.AppendOwn
import Derived.ChangeKeysEq
import Derived.Maps.OwnIn
import Derived.Maps.AppendAt
import Derived.RangeFuncNested
import Derived.RangeFuncBound
import Derived.RangeFuncCalls
import Derived.RangeFuncLeaves
import Derived.Shelf.Abstract
import Derived.Shelf.RegionOpen
import Derived.WalkKit
import Derived.WalkMore
import Derived.OwnWalkIn
import Derived.TacticsInMore
import Derived.LoopNIn
import Derived.LoopIn
import Derived.WalkSpells
import Derived.WalkLawsBesides
import Derived.BigQuiet
import Derived.Deep.QuietTactic
import Derived.Lib.Hide
import Derived.Deep.RegionHeld3
import Derived.StillTailTactics
import Derived.Deep.LoopGhost
import Derived.Maps.OwnSet
import Derived.Lib.IndexAny
import Derived.Sort.QuietThIn
import Derived.Sort.QuietTacIn
import Derived.Sort.BigQuietIn
namespace Go.Proofs.Ytlamppplnojpbaa
open Go.RowKit Go.Shelf
attribute [local go_sem] Oper.semAt_some
theorem info3i : ∃ i, Try.prog.info? 3 = some i := by
  cases h : Try.prog.info? 3 with
  | some i => exact ⟨i, rfl⟩
  | none =>
    have : (Try.prog.info? 3).isSome = true := by kernel_rfl
    rw [h] at this; cases this
theorem eqI3 (a b : Int) (W : World) : (Op.equalIn 9999 3 (.int .i64 a) (.int .i64 b)).run Try.prog W = .ok (a == b) W := by
  first
    | kernel_rfl
    | simp [Op.equalIn, go_sem]
theorem part30 (a b c d : Int) (W : World) : (part 3 #[.int .i64 a, .int .i64 b, .int .i64 c, .int .i64 d] 0).run Try.prog W = .ok (.int .i64 a) W := by kernel_rfl
theorem part31 (a b c d : Int) (W : World) : (part 3 #[.int .i64 a, .int .i64 b, .int .i64 c, .int .i64 d] 1).run Try.prog W = .ok (.int .i64 b) W := by kernel_rfl
theorem part32 (a b c d : Int) (W : World) : (part 3 #[.int .i64 a, .int .i64 b, .int .i64 c, .int .i64 d] 2).run Try.prog W = .ok (.int .i64 c) W := by kernel_rfl
theorem part33 (a b c d : Int) (W : World) : (part 3 #[.int .i64 a, .int .i64 b, .int .i64 c, .int .i64 d] 3).run Try.prog W = .ok (.int .i64 d) W := by kernel_rfl
theorem eq77 (x0 x1 x2 x3 g0 g1 g2 g3 : Int) (W : World) : (Op.equalIn 10000 77 (.agg #[.int .i64 x0, .int .i64 x1, .int .i64 x2, .int .i64 x3]) (.agg #[.int .i64 g0, .int .i64 g1, .int .i64 g2, .int .i64 g3])).run Try.prog W = .ok (decide ([x0, x1, x2, x3] = [g0, g1, g2, g3])) W := by
  obtain ⟨i, hi⟩ := info3i
  refine (run_equalIn_array (P := Try.prog) W 9999 _ _ Try.underlying77 hi).trans ?_
  rw [cells3]
  simp only [List.range, List.range.loop, Op.eqItems, Sem.run_bind, Nat.zero_mul, Nat.one_mul, Nat.mul_one, part30, part31, part32, part33, Result.andThen_ok, eqI3]
  by_cases h0 : x0 = g0
  · by_cases h1 : x1 = g1
    · by_cases h2 : x2 = g2
      · by_cases h3 : x3 = g3
        · simp [h0, h1, h2, h3, go_sem, part31, part32, part33, eqI3]
        · simp [h0, h1, h2, h3, go_sem, part31, part32, part33, eqI3]
      · simp [h0, h1, h2, go_sem, part31, part32, eqI3]
    · simp [h0, h1, go_sem, part31, eqI3]
  · simp [h0, go_sem]
set_option maxRecDepth 100000 in
set_option maxHeartbeats 400000 in
/-- a filling is the goal -/
theorem wayGoal_any (g0 g1 g2 g3 x0 x1 x2 x3 : Int) (b : Nat) (W : World) (hb : Row W b 77 [.int .i64 g0, .int .i64 g1, .int .i64 g2, .int .i64 g3]) :
    Calls Try.prog 58 #[.agg #[.int .i64 x0, .int .i64 x1, .int .i64 x2, .int .i64 x3], .pointer (some ⟨b, 0, none⟩)] W fun e w' => e = .returned (.bool (decide ([x0, x1, x2, x3] = [g0, g1, g2, g3]))) ∧ Below W.heap.size W w' := by
  have ba := (Below.refl W.heap.size W).alloc (Nat.le_refl _) (.cells #[.int .i64 x0, .int .i64 x1, .int .i64 x2, .int .i64 x3] 77)
  have r1 := hb.below ba hb.lt
  have c0 : (W.alloc (.cells #[.int .i64 x0, .int .i64 x1, .int .i64 x2, .int .i64 x3] 77)).cell? ⟨b, 0, none⟩ = some (.int .i64 g0) := r1.cell 0
  have c1 : (W.alloc (.cells #[.int .i64 x0, .int .i64 x1, .int .i64 x2, .int .i64 x3] 77)).cell? ⟨b, 1, none⟩ = some (.int .i64 g1) := r1.cell 1
  have c2 : (W.alloc (.cells #[.int .i64 x0, .int .i64 x1, .int .i64 x2, .int .i64 x3] 77)).cell? ⟨b, 2, none⟩ = some (.int .i64 g2) := r1.cell 2
  have c3 : (W.alloc (.cells #[.int .i64 x0, .int .i64 x1, .int .i64 x2, .int .i64 x3] 77)).cell? ⟨b, 3, none⟩ = some (.int .i64 g3) := r1.cell 3
  have BA := Lib.hid ba
  have E := Lib.hid (eq77 x0 x1 x2 x3 g0 g1 g2 g3 (W.alloc (.cells #[.int .i64 x0, .int .i64 x1, .int .i64 x2, .int .i64 x3] 77)))
  generalize decide ([x0, x1, x2, x3] = [g0, g1, g2, g3]) = bb at *
  clear hb r1 ba
  go_enter Try.func58, Try.ntmps58
  go_wp2_with fail
  rw [E.out, Result.andThen_ok]
  go_wp2_with fail
  go_ret
  exact ⟨rfl, BA.out⟩
set_option maxRecDepth 100000 in
set_option maxHeartbeats 400000 in
/-- nothing is the goal -/
theorem noGoal_any (x0 x1 x2 x3 : Int) (W : World) : Calls Try.prog 68 #[.agg #[.int .i64 x0, .int .i64 x1, .int .i64 x2, .int .i64 x3]] W fun e w' => e = .returned (.bool false) ∧ Below W.heap.size W w' := by
  have BA := Lib.hid ((Below.refl W.heap.size W).alloc (Nat.le_refl _) (.cells #[.int .i64 x0, .int .i64 x1, .int .i64 x2, .int .i64 x3] 77))
  go_enter Try.func68, Try.ntmps68
  go_wp2_with fail
  go_ret
  exact ⟨rfl, BA.out⟩
set_option maxRecDepth 100000 in
set_option maxHeartbeats 400000 in
/-- a filling holds the amount -/
theorem amountGoal_any (n : Nat) (hn : n ≤ 4) (p0 p1 p2 p3 a x0 x1 x2 x3 : Int) (bj ba : Nat) (W : World) (hj : Row W bj 80 [.int .i64 (n : Int), .int .i64 p0, .int .i64 p1, .int .i64 p2, .int .i64 p3]) (ha : Row W ba 3 [.int .i64 a]) :
    Calls Try.prog 66 #[.agg #[.int .i64 x0, .int .i64 x1, .int .i64 x2, .int .i64 x3], .pointer (some ⟨bj, 0, none⟩), .pointer (some ⟨ba, 0, none⟩)] W fun e w' => e = .returned (.bool (holdsB n [x0, x1, x2, x3] a)) ∧ Below W.heap.size W w' := by
  have bb := (Below.refl W.heap.size W).alloc (Nat.le_refl _) (.cells #[.int .i64 x0, .int .i64 x1, .int .i64 x2, .int .i64 x3] 77)
  have r1 := hj.below bb hj.lt
  have r2 := ha.below bb ha.lt
  have c0 : (W.alloc (.cells #[.int .i64 x0, .int .i64 x1, .int .i64 x2, .int .i64 x3] 77)).cell? ⟨bj, 0, none⟩ = some (.int .i64 (n : Int)) := r1.cell 0
  have c1 : (W.alloc (.cells #[.int .i64 x0, .int .i64 x1, .int .i64 x2, .int .i64 x3] 77)).cell? ⟨bj, 1, none⟩ = some (.int .i64 p0) := r1.cell 1
  have c2 : (W.alloc (.cells #[.int .i64 x0, .int .i64 x1, .int .i64 x2, .int .i64 x3] 77)).cell? ⟨bj, 2, none⟩ = some (.int .i64 p1) := r1.cell 2
  have c3 : (W.alloc (.cells #[.int .i64 x0, .int .i64 x1, .int .i64 x2, .int .i64 x3] 77)).cell? ⟨bj, 3, none⟩ = some (.int .i64 p2) := r1.cell 3
  have c4 : (W.alloc (.cells #[.int .i64 x0, .int .i64 x1, .int .i64 x2, .int .i64 x3] 77)).cell? ⟨bj, 4, none⟩ = some (.int .i64 p3) := r1.cell 4
  have c5 : (W.alloc (.cells #[.int .i64 x0, .int .i64 x1, .int .i64 x2, .int .i64 x3] 77)).cell? ⟨ba, 0, none⟩ = some (.int .i64 a) := r2.cell 0
  have BA := Lib.hid bb
  have Z := Lib.hid (size_al W (.cells #[.int .i64 x0, .int .i64 x1, .int .i64 x2, .int .i64 x3] 77))
  have HH := Lib.hid (fun W => holds_any n hn p0 p1 p2 p3 x0 x1 x2 x3 a W)
  generalize holdsB n [x0, x1, x2, x3] a = bo at *
  clear hj ha r1 r2 bb
  go_enter Try.func66, Try.ntmps66
  go_wp2_with fail
  refine (HH.out _).mono ?_
  rintro e w1 ⟨rfl, hb⟩
  have HB := Lib.hid hb
  clear hb
  go_wp2_with fail
  go_ret
  exact ⟨rfl, Below.andThen BA.out HB.out (Nat.le_refl _)⟩
end Go.Proofs.Ytlamppplnojpbaa
