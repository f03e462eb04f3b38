import Derived.Test.YtlamppplnojpbaaKo
import Derived.Laws.AppendOwn
import Derived.ChangeKeysEq
import Derived.Maps.RangeWalk
import Derived.Laws.OwnMore
import Derived.Maps.OwnIn
import Derived.Maps.AppendAt
import Derived.RangeFuncNested
import Derived.RangeFuncBound
import Derived.RangeFuncCalls
import Derived.RangeFuncLeaves
import Derived.Shelf.Abstract
import Derived.Shelf.RegionOpen
import Derived.WalkKit
import Derived.WalkMore
import Derived.OwnWalkIn
import Derived.TacticsInMore
import Derived.LoopNIn
import Derived.LoopIn
import Derived.WalkSpells
import Derived.WalkLawsBesides
import Derived.BigQuiet
import Derived.Deep.QuietTactic
import Derived.Lib.Hide
import Derived.Deep.RegionHeld3
import Derived.StillTailTactics
import Derived.Deep.LoopGhost
import Derived.Maps.OwnSet
import Derived.Lib.IndexAny
import Derived.Sort.QuietThIn
import Derived.Sort.QuietTacIn
import Derived.Sort.BigQuietIn
namespace Go.Proofs.Ytlamppplnojpbaa
open Go.RowKit Go.Shelf
attribute [local go_sem] Oper.semAt_some
theorem padF_app {fs : List Int} (h : fs.length ≤ 4) : padF fs = fs ++ List.replicate (4 - fs.length) 0 := by
  unfold padF
  rw [List.take_append, List.take_of_length_le h, List.take_replicate]
  congr 2; omega
theorem getD_app (fs r : List Int) (i : Nat) (h : i < fs.length) : (fs ++ r).getD i 0 = fs.getD i 0 := by
  rw [List.getD_eq_getElem?_getD, List.getElem?_append_left h, ← List.getD_eq_getElem?_getD]
theorem after_app (ss fs r q : List Int) (hl : fs.length = ss.length) (a b : Int) (ha : -1 ≤ a ∧ a < (ss.length : Int)) (hb : -1 ≤ b ∧ b < (ss.length : Int)) (hab : a ≠ b) : afterF (ss ++ r) (fs ++ q) a b = afterF ss fs a b ++ q := by
  unfold afterF
  by_cases h1 : a = -1
  · rw [if_pos h1, if_pos h1, getD_app _ _ _ (by omega), List.set_append_left _ _ (by omega)]
  · rw [if_neg h1, if_neg h1]
    by_cases h2 : b = -1
    · rw [if_pos h2, if_pos h2, List.set_append_left _ _ (by omega)]
    · rw [if_neg h2, if_neg h2, getD_app _ _ _ (by omega), getD_app _ _ _ (by omega), getD_app _ _ _ (by omega), List.set_append_left _ _ (by omega), List.set_append_left _ _ (by rw [List.length_set]; omega)]
theorem pad_after (ss fs : List Int) (hl : fs.length = ss.length) (hs : ss.length ≤ 4) (a b : Int) (ha : -1 ≤ a ∧ a < (ss.length : Int)) (hb : -1 ≤ b ∧ b < (ss.length : Int)) (hab : a ≠ b) : (afterF (padF ss) (padF fs) a b = padF fs) ↔ (fs = afterF ss fs a b) := by
  rw [padF_app hs, padF_app (show fs.length ≤ 4 by omega), after_app ss fs _ _ hl a b ha hb hab, List.append_left_inj]
  exact eq_comm
def keepQ (cl : Bool) (x : Int × Int) : Bool := !(cl && (decide (x.1 = -1) || decide (x.2 = -1))) && !decide (x.1 = x.2)
theorem steps_same (cl : Bool) (n : Nat) (h1 : 1 ≤ n) (h4 : n ≤ 4) : (allA (n + 1) (n + 1) 0).filter (keepQ cl) = ssF cl n ∧ ∀ x ∈ ssF cl n, (-1 ≤ x.1 ∧ x.1 < (n : Int)) ∧ (-1 ≤ x.2 ∧ x.2 < (n : Int)) ∧ x.1 ≠ x.2 := by
  obtain rfl | rfl | rfl | rfl : n = 1 ∨ n = 2 ∨ n = 3 ∨ n = 4 := by omega
  all_goals cases cl <;> decide +kernel
theorem refL_steps (ss fs : List Int) (cl : Bool) (hj : jugsB ss = true) (hf : fitsB ss fs = true) : refL ss fs cl (ss.length + 1) (ss.length + 1) 0 = stepsF (padF ss) (padF fs) (ssF cl ss.length) := by
  have hn : 1 ≤ ss.length ∧ ss.length ≤ 4 := by
    unfold jugsB at hj
    simp only [Bool.and_eq_true, decide_eq_true_eq] at hj
    exact hj.1
  have hfl : fs.length = ss.length := by
    unfold fitsB at hf
    simp only [Bool.and_eq_true, decide_eq_true_eq] at hf
    exact hf.1
  obtain ⟨h1, h2⟩ := steps_same cl ss.length hn.1 hn.2
  have h3 : refL ss fs cl (ss.length + 1) (ss.length + 1) 0 = ((allA (ss.length + 1) (ss.length + 1) 0).filter (keepQ cl)).filter fun x => !decide (fs = afterF ss fs x.1 x.2) := by
    unfold refL
    rw [List.filter_filter]
    congr 1
    funext x
    unfold keepB keepQ
    cases decide (x.1 = x.2) <;> cases decide (fs = afterF ss fs x.1 x.2) <;> cases (cl && (decide (x.1 = -1) || decide (x.2 = -1))) <;> rfl
  rw [h3, h1]
  unfold stepsF
  apply List.filter_congr
  intro x hx
  obtain ⟨a1, a2, a3⟩ := h2 x hx
  have := pad_after ss fs hfl hn.2 x.1 x.2 a1 a2 a3
  congr 1
  exact (decide_eq_decide.2 this).symm
theorem errA_fits {ss fs : List Int} (hj : jugsB ss = true) (hf : fitsB ss fs = true) : errA ss [fs] = 0 := by
  unfold errA; rw [if_pos hj]; simp [hf]
end Go.Proofs.Ytlamppplnojpbaa
