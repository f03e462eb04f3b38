import Derived.Test.YtlehddifcjklgaaAf
import Derived.ChangeKeysEq
import Derived.Maps.OwnIn
import Derived.Maps.OwnSet
import Derived.Maps.AppendAt
import Derived.RangeFuncNested
import Derived.RangeFuncBound
import Derived.RangeFuncCalls
import Derived.RangeFuncLeaves
import Derived.Shelf.Abstract
import Derived.Shelf.RegionOpen
import Derived.WalkKit
import Derived.OwnWalkIn
import Derived.TacticsInMore
import Derived.LoopNIn
import Derived.LoopIn
import Derived.WalkMore
import Derived.Sort.QuietThIn
import Derived.Sort.QuietTacIn
import Derived.Sort.BigQuietIn
import Derived.WalkSpells
import Derived.WalkLawsBesides
import Derived.BigQuiet
import Derived.Deep.QuietTactic
import Derived.Lib.Hide
import Derived.Deep.RegionHeld3
import Derived.StillTailTactics
import Derived.Deep.LoopGhost
import Derived.Lib.IndexAny
namespace Go.Proofs.Ytlehddifcjklgaa
open Go.RowKit Go.Shelf
attribute [local go_sem] Oper.semAt_some
theorem info2 : ∃ i, Try.prog.info? 2 = some i := by
  cases h : Try.prog.info? 2 with
  | some i => exact ⟨i, rfl⟩
  | none =>
    have : (Try.prog.info? 2).isSome = true := by kernel_rfl
    rw [h] at this; cases this
theorem cells2 : Try.prog.cellsOf 2 = 1 := by kernel_rfl
theorem part0 (a b : Int) (W : World) : (part 2 #[.int .i64 a, .int .i64 b] 0).run Try.prog W = .ok (.int .i64 a) W := by kernel_rfl
theorem part1 (a b : Int) (W : World) : (part 2 #[.int .i64 a, .int .i64 b] 1).run Try.prog W = .ok (.int .i64 b) W := by kernel_rfl
theorem eqI (a b : Int) (W : World) : (Op.equalIn 9999 2 (.int .i64 a) (.int .i64 b)).run Try.prog W = .ok (a == b) W := by
  first
    | kernel_rfl
    | simp [Op.equalIn, go_sem]
theorem eq39 (a b : Int) (W : World) : (Op.equalIn 10000 39 (.agg #[.int .i64 a, .int .i64 b]) (.agg #[.int .i64 a, .int .i64 b])).run Try.prog W = .ok true W := by
  obtain ⟨i, hi⟩ := info2
  refine (run_equalIn_array (P := Try.prog) W 9999 _ _ Try.underlying39 hi).trans ?_
  rw [cells2]
  simp only [List.range, List.range.loop, Op.eqItems, Sem.run_bind, Nat.zero_mul, Nat.one_mul, part0, part1, Result.andThen_ok, eqI, beq_self_eq_true, Bool.not_true, Bool.false_eq_true, if_false, Sem.run_pure]
end Go.Proofs.Ytlehddifcjklgaa
