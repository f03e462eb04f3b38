import Derived.Test.YtlemipnplgbckaaPE
import Derived.Test.YtlemipnplgbckaaPD
import Derived.Lib.OwnBridge
import Derived.Shelf.SlicesG.CompactI
import Derived.Laws.AppendOwn
import Derived.ChangeKeysEq
import Derived.Maps.RangeWalk
import Derived.Maps.OwnIn
import Derived.Maps.AppendAt
import Derived.RangeFuncNested
import Derived.RangeFuncBound
import Derived.RangeFuncCalls
import Derived.RangeFuncLeaves
import Derived.Shelf.Abstract
import Derived.Shelf.RegionOpen
import Derived.WalkKit
import Derived.WalkMore
import Derived.OwnWalkIn
import Derived.TacticsInMore
import Derived.LoopNIn
import Derived.LoopIn
import Derived.WalkSpells
import Derived.WalkLawsBesides
import Derived.BigQuiet
import Derived.Deep.QuietTactic
import Derived.Lib.Hide
import Derived.Deep.RegionHeld3
import Derived.StillTailTactics
import Derived.Deep.LoopGhost
import Derived.Maps.OwnSet
import Derived.Lib.IndexAny
import Derived.Sort.QuietThIn
import Derived.Sort.QuietTacIn
import Derived.Sort.BigQuietIn
import Derived.Laws.OwnMore
import Derived.DeepKeys4
import Derived.Maps.Views
import Derived.Maps.OwnOps
import Derived.Laws.OwnMore
import Derived.Deep.DeepCutAuto
import Derived.ChangeKeysEq
namespace Go.Proofs.Ytlemipnplgbckaa
open Go.RowKit Go.Shelf
attribute [local go_sem] Oper.semAt_some
end Go.Proofs.Ytlemipnplgbckaa
namespace Go.Proofs
open Go.Shelf
def Try.lays43c_ren : Go.Shelf.Ren := ⟨fun | 43 => 57 | n => n, fun | 22 => 35 | 23 => 3 | n => n, fun | n => n⟩
theorem Try.lays43c : SlLaysN.n43 Try.prog Try.lays43c_ren := {
  mixed := by kernel_rfl
  f43 := ⟨"slices.Compact[[]int,int]", by decide, Try.func57.trans (congrArg some (by kernel_rfl))⟩
  t0 := Try.underlying0
  a0 := Try.isAgg0
  z0 := Try.sizeOf0
  v0 := Try.zeroValue0
  t3 := Try.underlying3
  a3 := Try.isAgg3
  z3 := Try.sizeOf3
  v3 := Try.zeroValue3
  t4 := Try.underlying4
  a4 := Try.isAgg4
  z4 := Try.sizeOf4
  v4 := Try.zeroValue4
  t22 := Try.underlying35
  a22 := Try.isAgg35
  z22 := Try.sizeOf35
  v22 := Try.zeroValue35
  t23 := Try.underlying3
  a23 := Try.isAgg3
  z23 := Try.sizeOf3
  v23 := Try.zeroValue3
  i23 := by kernel_rfl }
end Go.Proofs
namespace Go.Proofs.Ytlemipnplgbckaa
open Go.RowKit Go.Shelf Go.Lib
attribute [local go_sem] Oper.semAt_some
/-- three rising numbers, each once -/
def cmp3 (i j k : Nat) : List Nat := if i = j then (if j = k then [i] else [i, k]) else if j = k then [i, j] else [i, j, k]
def encN (n : Nat) : Int := (n : Int)
theorem cmp3_compact (i j k : Nat) : Lib.compact [(i : Int), j, k] = (cmp3 i j k).map encN := by
  unfold Lib.compact Lib.compactUpTo Lib.keeps cmp3
  by_cases h1 : i = j <;> by_cases h2 : j = k
  · subst h1; subst h2; simp [List.range, List.range.loop, List.filter, encN]
  · subst h1
    have h3 : ¬ (k : Int) = i := by omega
    simp [List.range, List.range.loop, List.filter, encN, h2, h3]
  · subst h2
    have h3 : ¬ (j : Int) = i := by omega
    simp [List.range, List.range.loop, List.filter, encN, h1, h3]
  · have h3 : ¬ (j : Int) = i := by omega
    have h4 : ¬ (k : Int) = j := by omega
    simp [List.range, List.range.loop, List.filter, encN, h1, h2, h3, h4]
theorem cmp3_len (i j k : Nat) : (cmp3 i j k).length ≤ 3 := by
  unfold cmp3; split <;> split <;> simp
set_option maxHeartbeats 400000 in
theorem compact3_any (i j k g n₀ : Nat) (w : World) (h : w.ownsRow n₀ 3 1 (.slice (some ⟨g, 0, none⟩) 3 3) 3 ([(i : Int), j, k].map encI)) (hg : n₀ ≤ g) :
    Calls Try.prog 57 #[.slice (some ⟨g, 0, none⟩) 3 3] w fun e w' => e = .returned (.slice (some ⟨g, 0, none⟩) (cmp3 i j k).length 3) ∧ w'.ownsRow n₀ 3 1 (.slice (some ⟨g, 0, none⟩) (cmp3 i j k).length 3) (cmp3 i j k).length ((cmp3 i j k).map (fun n : Nat => encI (n : Int))) ∧ (∀ w0, Below n₀ w0 w → Below n₀ w0 w') := by
  have hH : Sort.Holds (Value.int .i64) w g 0 [(i : Int), j, k].toArray := by
    obtain ⟨g', cap, e, _, _, _, _, _, hH⟩ := holds_of_ownsRow (enc := Value.int .i64) (zs := [(i : Int), j, k]) h (by simp)
    injection e with e1 _ _
    injection e1 with e1
    injection e1 with e1
    subst e1
    exact hH
  refine (AnyG.slices_Compact_int Try.lays43c g 0 3 [(i : Int), j, k] w hH (by simp) (by simp)).mono ?_
  rintro e w' ⟨rfl, q, rfl⟩
  have hl : (Lib.compact [(i : Int), j, k]).length = (cmp3 i j k).length := by rw [cmp3_compact]; simp
  refine ⟨by rw [hl], ?_, fun w0 hb => below_putRow hb hg⟩
  have h3 := cmp3_len i j k
  have := ownsRow_putRow (enc := Value.int .i64) (q := q) (k := (cmp3 i j k).length) (ys := Lib.compact [(i : Int), j, k] ++ List.replicate (3 - (Lib.compact [(i : Int), j, k]).length) 0) h (by rw [List.length_append, List.length_replicate, hl]; omega) h3
  have ht : (Lib.compact [(i : Int), j, k] ++ List.replicate (3 - (Lib.compact [(i : Int), j, k]).length) 0).take (cmp3 i j k).length = (cmp3 i j k).map encN := by rw [← hl, List.take_left, cmp3_compact]
  rw [ht] at this
  simpa [List.map_map, Function.comp_def, encN, encI] using this
end Go.Proofs.Ytlemipnplgbckaa
