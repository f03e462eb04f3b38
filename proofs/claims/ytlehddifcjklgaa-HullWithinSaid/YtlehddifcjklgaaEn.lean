import Derived.Test.YtlehddifcjklgaaEl
import Derived.Maps.OwnIn
import Derived.Maps.OwnSet
import Derived.Maps.AppendAt
import Derived.RangeFuncNested
import Derived.RangeFuncBound
import Derived.RangeFuncCalls
import Derived.RangeFuncLeaves
import Derived.Shelf.Abstract
import Derived.Shelf.RegionOpen
import Derived.WalkKit
import Derived.OwnWalkIn
import Derived.TacticsInMore
import Derived.LoopNIn
import Derived.LoopIn
import Derived.WalkMore
import Derived.Sort.QuietThIn
import Derived.Sort.QuietTacIn
import Derived.Sort.BigQuietIn
import Derived.WalkSpells
import Derived.WalkLawsBesides
import Derived.BigQuiet
import Derived.Deep.QuietTactic
import Derived.Lib.Hide
import Derived.Deep.RegionHeld3
import Derived.StillTailTactics
import Derived.Deep.LoopGhost
import Derived.Lib.IndexAny
namespace Go.Proofs.Ytlehddifcjklgaa
open Go.RowKit Go.Shelf
attribute [local go_sem] Oper.semAt_some
set_option maxRecDepth 100000 in
set_option maxHeartbeats 400000 in
theorem grow_any (n : Nat) (w : World) (h1 : 1 ≤ n) (h24 : n ≤ 24) :
    Calls Try.prog 106 #[.slice none 0 0, .int .i64 (n : Int)] w fun e w' => ∃ v, e = .returned v ∧ OwnP w' w.heap.size v [] ∧ Below w.heap.size w w' := by
  have d0 : decide ((n : Int) < 0) = false := decide_eq_false (by omega)
  have d1 : decide ((n : Int) > 0) = true := decide_eq_true (by omega)
  have d1' : decide (0 < (n : Int)) = true := decide_eq_true (by omega)
  have d2 : decide (0 < n) = true := decide_eq_true (by omega)
  have e0 : IntKind.i64.wrap ((n : Int) - 0) = (n : Int) := by rw [Int.sub_zero]; exact i64_of _ (by omega) (by omega)
  go_enter Try.func106, Try.ntmps106
  go_wp2_with fail
  all_goals (try (exfalso; have hb : Try.t58.bytes = 16 := rfl; simp only [hb] at *; omega))
  · exfalso
    rename_i hx _ _ _
    have hb : Try.t58.bytes = 16 := rfl
    have hn : Builtin.nextslicecap n 0 = n := by unfold Builtin.nextslicecap; rw [if_pos (by omega)]
    rw [hn, hb] at hx
    omega
  · clear d0 d1 d1' d2 e0
    obtain ⟨cp, hcp⟩ : ∃ cp, (Question.appendCap n 0 58).cut (w.tape w.drawn (Question.appendCap n 0 58)) = cp := ⟨_, rfl⟩
    have hc1 : n ≤ cp ∧ cp ≤ maxLen := by
      rw [← hcp]
      unfold Question.cut maxLen
      have := Nat.mod_lt (w.tape w.drawn (Question.appendCap n 0 58)) (show 0 < 2 ^ 63 - n by omega)
      dsimp only
      omega
    rw [hcp]
    have hsz : (Builtin.zeroCells #[Value.int IntKind.i64 0, Value.int IntKind.i64 0] n ++ Builtin.zeroCells #[Value.int IntKind.i64 0, Value.int IntKind.i64 0] (cp - n)).size = cp * 2 := by simp [Builtin.zeroCells]; omega
    generalize Builtin.zeroCells #[Value.int IntKind.i64 0, Value.int IntKind.i64 0] n ++ Builtin.zeroCells #[Value.int IntKind.i64 0, Value.int IntKind.i64 0] (cp - n) = Z at *
    have hb := ((Below.refl w.heap.size w).alloc (Nat.le_refl _) (.cells Z 58)).drew
    have hO : OwnP (w.alloc (.cells Z 58)).drew w.heap.size (.slice (some ⟨w.heap.size, 0, none⟩) 0 cp) [] := by
      refine ⟨rfl, .inr ⟨w.heap.size, cp, _, rfl, Nat.le_refl _, by
        show (w.heap.push (Obj.cells Z 58))[w.heap.size]? = _
        exact Array.getElem?_push_size, Nat.zero_le _, hc1.2, hsz, rfl⟩⟩
    exact bodyPost_ret (v := .slice (some ⟨w.heap.size, 0, none⟩) 0 cp) (by simp [results, Try.results106, go_sem]) rfl ⟨_, rfl, hO, hb⟩
end Go.Proofs.Ytlehddifcjklgaa
