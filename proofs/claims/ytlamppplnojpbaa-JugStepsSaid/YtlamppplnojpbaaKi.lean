import Derived.Test.YtlamppplnojpbaaKh
import Derived.Laws.AppendOwn
import Derived.ChangeKeysEq
import Derived.Maps.RangeWalk
import Derived.Maps.OwnIn
import Derived.Maps.AppendAt
import Derived.RangeFuncNested
import Derived.RangeFuncBound
import Derived.RangeFuncCalls
import Derived.RangeFuncLeaves
import Derived.Shelf.Abstract
import Derived.Shelf.RegionOpen
import Derived.WalkKit
import Derived.WalkMore
import Derived.OwnWalkIn
import Derived.TacticsInMore
import Derived.LoopNIn
import Derived.LoopIn
import Derived.WalkSpells
import Derived.WalkLawsBesides
import Derived.BigQuiet
import Derived.Deep.QuietTactic
import Derived.Lib.Hide
import Derived.Deep.RegionHeld3
import Derived.StillTailTactics
import Derived.Deep.LoopGhost
import Derived.Maps.OwnSet
import Derived.Lib.IndexAny
import Derived.Sort.QuietThIn
import Derived.Sort.QuietTacIn
import Derived.Sort.BigQuietIn
namespace Go.Proofs.Ytlamppplnojpbaa
open Go.RowKit Go.Shelf
attribute [local go_sem] Oper.semAt_some
theorem bfs_mono (P : List Int) (gl : List Int → Bool) (ss : List (Int × Int)) (d : Nat) : ∀ (k : Nat) (A : Sn) (qs : List (List Int)) (r : Sn × Option (List Int)), bfs P gl ss k A qs = some r → bfs P gl ss (k + d) A qs = some r
  | 0, _, _, _, h => by simp [bfs] at h
  | k + 1, A, [], r, h => by rw [bfs] at h; rw [show k + 1 + d = (k + d) + 1 by omega, bfs]; exact h
  | k + 1, A, q :: qs, r, h => by
    rw [bfs] at h
    rw [show k + 1 + d = (k + d) + 1 by omega, bfs]
    rcases hv : visit P gl q (((lookA A q).map Cm.k).getD 0 + 1) ss (A, qs) with ⟨⟨A', qs'⟩, o⟩
    rw [hv] at h
    cases o with
    | some g => exact h
    | none => exact bfs_mono P gl ss d k A' qs' r h
theorem srch_mono {P : List Int} {gl : List Int → Bool} {ss : List (Int × Int)} {k d : Nat} {F : List Int} {r : Sn × Option (List Int)} (h : srch P gl ss k F = some r) : srch P gl ss (k + d) F = some r := by
  unfold srch at h ⊢
  split
  · rename_i e; rw [if_pos e] at h; exact h
  · rename_i e; rw [if_neg e] at h; exact bfs_mono P gl ss d k _ _ r h
def evOk (o : Option (Sn × Option (List Int))) (f : Sn × Option (List Int) → Bool) : Bool := match o with | some r => f r | none => false
theorem evOk_some {o : Option (Sn × Option (List Int))} {f : Sn × Option (List Int) → Bool} (h : evOk o f = true) : ∃ r, o = some r ∧ f r = true := by
  cases o with
  | none => cases h
  | some r => exact ⟨r, rfl, h⟩
theorem ev1 : evOk (srch (padF [3, 5]) (glA 2 4) (stepsL (-1) 3) 60 [0, 0, 0, 0]) (fun r => r.2.isSome && decide ((wayF r).length = 6)) = true := by decide +kernel
theorem ev2 : evOk (srch (padF [8, 5, 3]) (glG (padF [4, 4, 0])) (ssF true 3) 60 (padF [8, 0, 0])) (fun r => r.2.isSome && decide ((wayF r).length = 7)) = true := by decide +kernel
theorem ev3 : evOk (srch (padF [4, 6]) glN (ssF false 2) 60 (padF [])) (fun r => decide (amtL r.1 2 13 = [0, 2, 4, 6])) = true := by decide +kernel
theorem ev4 : ringL true 3 5 4 20 0 0 [] = some ([(-1, 0), (0, 1), (-1, 0), (0, 1), (1, -1), (0, 1), (-1, 0), (0, 1)], true) := by decide +kernel
end Go.Proofs.Ytlamppplnojpbaa
