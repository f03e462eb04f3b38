import Derived.Test.YtlehddifcjklgaaCq
import Derived.Test.YtlehddifcjklgaaCl
import Derived.Maps.OwnIn
import Derived.Maps.OwnSet
import Derived.Maps.AppendAt
import Derived.RangeFuncNested
import Derived.RangeFuncBound
import Derived.RangeFuncCalls
import Derived.RangeFuncLeaves
import Derived.Shelf.Abstract
import Derived.Shelf.RegionOpen
import Derived.WalkKit
import Derived.OwnWalkIn
import Derived.TacticsInMore
import Derived.LoopNIn
import Derived.LoopIn
import Derived.WalkMore
import Derived.Sort.QuietThIn
import Derived.Sort.QuietTacIn
import Derived.Sort.BigQuietIn
import Derived.WalkSpells
import Derived.WalkLawsBesides
import Derived.BigQuiet
import Derived.Deep.QuietTactic
import Derived.Lib.Hide
import Derived.Deep.RegionHeld3
import Derived.StillTailTactics
import Derived.Deep.LoopGhost
import Derived.Lib.IndexAny
namespace Go.Proofs.Ytlehddifcjklgaa
open Go.RowKit Go.Shelf
attribute [local go_sem] Oper.semAt_some
theorem oints {W : World} {n₀ : Nat} {zs : List Int} {v : Value} (h : W.ownsRow n₀ 3 1 v zs.length (zs.map encI)) : (zs = [] ∧ ∃ a c, v = .slice a 0 c) ∨ (∃ g c, v = .slice (some ⟨g, 0, none⟩) zs.length c ∧ g < W.heap.size ∧ n₀ ≤ g ∧ IntsAt W g 0 zs) := by
  by_cases hz : zs = []
  · subst hz
    left
    refine ⟨rfl, ?_⟩
    rcases h.2 with ⟨rfl, _⟩ | ⟨g, cap, cur, rfl, _⟩
    · exact ⟨_, _, rfl⟩
    · exact ⟨_, _, rfl⟩
  · right
    rcases h.2 with ⟨rfl, h0⟩ | ⟨g, cap, cur, rfl, hg, hgb, _⟩
    · exact absurd (List.eq_nil_of_length_eq_zero h0) hz
    · have hlt := (Array.getElem?_eq_some_iff.1 hgb).1
      refine ⟨g, cap, rfl, hlt, hg, .inr hlt, fun i hi => ?_⟩
      have := h.cells (g := g) rfl i (encI zs[i]) (by simp [hi])
      rw [Nat.zero_add]
      by_cases h0 : i = 0
      · subst h0; simpa [Addr.add, encI] using this
      · simpa [Addr.add, encI, h0] using this
set_option maxRecDepth 100000 in
set_option maxHeartbeats 1000000 in
theorem ints_own {W : World} {n₀ m₀ : Nat} {zs : List Int} {v u : Value} (h : W.ownsRow n₀ 3 1 v zs.length (zs.map encI)) (h' : W.ownsRow m₀ 3 1 u zs.length (zs.map encI)) (h1 : zs.length ≤ 1000) :
    Calls Try.prog 34 #[v, u] W fun e w' => e = .returned (.bool true) ∧ Below W.heap.size W w' := by
  rcases oints h with ⟨rfl, a, c, rfl⟩ | ⟨g, c, rfl, _, _, hi⟩
  · rcases oints h' with ⟨_, b, d, rfl⟩ | ⟨k, d, rfl, _⟩
    · clear h h'
      go_enter Try.func34, Try.ntmps34
      go_wp2_with fail
      go_loopw [5] (fun i wr => i = .int .i64 0 ∧ wr = W) (fun i _ => 0)
      case atStart => exact ⟨rfl, rfl⟩
      case round =>
        obtain ⟨rfl, rfl⟩ := hrel
        go_wp2_with fail
        go_ret
        exact ⟨rfl, Below.refl _ _⟩
    · clear h h'
      go_enter Try.func34, Try.ntmps34
      go_wp2_with fail
      go_loopw [5] (fun i wr => i = .int .i64 0 ∧ wr = W) (fun i _ => 0)
      case atStart => exact ⟨rfl, rfl⟩
      case round =>
        obtain ⟨rfl, rfl⟩ := hrel
        go_wp2_with fail
        go_ret
        exact ⟨rfl, Below.refl _ _⟩
  · rcases oints h' with ⟨rfl, b, d, rfl⟩ | ⟨k, d, rfl, _, _, hj⟩
    · clear h h' hi
      go_enter Try.func34, Try.ntmps34
      go_wp2_with fail
      go_loopw [5] (fun i wr => i = .int .i64 0 ∧ wr = W) (fun i _ => 0)
      case atStart => exact ⟨rfl, rfl⟩
      case round =>
        obtain ⟨rfl, rfl⟩ := hrel
        go_wp2_with fail
        go_ret
        exact ⟨rfl, Below.refl _ _⟩
    · have := ints_any zs zs g k c d W hi hj rfl h1
      rwa [decide_eq_true (show zs = zs from rfl)] at this
end Go.Proofs.Ytlehddifcjklgaa
