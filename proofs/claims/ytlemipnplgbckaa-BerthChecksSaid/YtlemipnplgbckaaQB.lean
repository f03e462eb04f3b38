import Derived.Test.YtlemipnplgbckaaPL
import Derived.Test.YtlemipnplgbckaaBQ
import Derived.Laws.AppendOwn
import Derived.ChangeKeysEq
import Derived.Maps.RangeWalk
import Derived.Maps.OwnIn
import Derived.Maps.AppendAt
import Derived.RangeFuncNested
import Derived.RangeFuncBound
import Derived.RangeFuncCalls
import Derived.RangeFuncLeaves
import Derived.Shelf.Abstract
import Derived.Shelf.RegionOpen
import Derived.WalkKit
import Derived.WalkMore
import Derived.OwnWalkIn
import Derived.TacticsInMore
import Derived.LoopNIn
import Derived.LoopIn
import Derived.WalkSpells
import Derived.WalkLawsBesides
import Derived.BigQuiet
import Derived.Deep.QuietTactic
import Derived.Lib.Hide
import Derived.Deep.RegionHeld3
import Derived.StillTailTactics
import Derived.Deep.LoopGhost
import Derived.Maps.OwnSet
import Derived.Lib.IndexAny
import Derived.Sort.QuietThIn
import Derived.Sort.QuietTacIn
import Derived.Sort.BigQuietIn
import Derived.Laws.OwnMore
import Derived.DeepKeys4
import Derived.Maps.Views
import Derived.Maps.OwnOps
import Derived.Laws.OwnMore
import Derived.Deep.DeepCutAuto
import Derived.ChangeKeysEq
namespace Go.Proofs.Ytlemipnplgbckaa
open Go.RowKit Go.Shelf
attribute [local go_sem] Oper.semAt_some
theorem pr_start (w : World) (v : Value) : ∃ V, V = ((w.alloc (.cells #[v] 22)).alloc (.cells #[.int .i64 0, .int .i64 0] 28)).alloc (.cells #[.int .i64 0, .int .i64 0] 28) ∧
    Row V w.heap.size 22 [v] ∧ Row V (w.heap.size + 1) 28 [.int .i64 0, .int .i64 0] ∧ Row V (w.heap.size + 1 + 1) 28 [.int .i64 0, .int .i64 0] ∧ Below w.heap.size w V := by
  obtain ⟨V1, hV, r1, r2, b1', hs⟩ := two_start w 22 28 [v] [.int .i64 0, .int .i64 0]
  obtain ⟨b2', r3⟩ := box_start V1 28 [.int .i64 0, .int .i64 0]
  exact ⟨V1.alloc (.cells [.int .i64 0, .int .i64 0].toArray 28), by rw [hV], r1.below b2' r1.lt, r2.below b2' r2.lt, by rw [← hs]; exact r3, Below.andThen b1' b2' (Nat.le_refl _)⟩
set_option maxRecDepth 100000 in
set_option maxHeartbeats 1000000 in
theorem Pairs_err (ps : List Pt) (v : Value) (w : World) (hv : SlP w v ps) (hl : ps.length ≤ 1000000) (k : Int) (he : errP ps = k) (hk : k ≠ 0) :
    Calls Try.prog 26 #[v] w fun e w' => e = .returned (.tuple #[.agg #[.int .i64 0, .int .i64 0], .agg #[.int .i64 0, .int .i64 0], .int .i64 k]) ∧ Below w.heap.size w w' := by
  obtain ⟨V, hV, r1, r2, r3, bV⟩ := pr_start w v
  have HC := Lib.hid (Check_any ps v V (hv.grow bV) hl)
  rw [he] at HC
  have hd : (k != 0) = true := by simp; exact hk
  obtain ⟨a, c, rfl, _⟩ := hv
  generalize ps.length = n at *
  have BV := Lib.hid bV
  have R2 := Lib.hid r2
  have R3 := Lib.hid r3
  have k0 := r1.cell 0
  simp only [List.getElem?_cons_zero] at k0
  clear r1 r2 r3 bV he hl hk
  refine callsIn_wide.1 (callsIn_of_wp_marks (F := Fence.wide) (n := 4) Try.func26 rfl trivial ?_ rfl)
  simp only [Try.ntmps26, List.size_toArray, List.length_cons, List.length_nil, Nat.reduceAdd, Nat.reduceSub, Array.replicate_succ, Array.replicate_zero, List.push_toArray, List.append_toArray, List.nil_append, List.cons_append]
  gi_wp2_with fail
  rw [← hV]
  refine ⟨trivial, (callsIn_wide.2 HC.out).mono ?_⟩
  rintro e w1 ⟨rfl, hb⟩
  have BB := Lib.hid (Below.andThen BV.out hb (Nat.le_refl _))
  have R21 := Lib.hid (R2.out.below hb R2.out.lt)
  have R31 := Lib.hid (R3.out.below hb R3.out.lt)
  clear hb HC k0 hV BV R2 R3
  have q2 := R21.out
  have q3 := R31.out
  have s0 := q2.cell 0
  have s1 := q2.cell 1
  have t0 := q3.cell 0
  have t1 := q3.cell 1
  have f0 := frozen_of_row _ (w.heap.size + 1) 0 _ _ q2
  have f1 := frozen_of_row _ (w.heap.size + 1) 1 _ _ q2
  have g0 := frozen_of_row _ (w.heap.size + 1 + 1) 0 _ _ q3
  have g1 := frozen_of_row _ (w.heap.size + 1 + 1) 1 _ _ q3
  simp only [List.getElem?_cons_zero, List.getElem?_cons_succ] at s0 s1 t0 t1
  clear q2 q3
  gi_wp2_with fail
  have hw : Below w.heap.size w ((((w1.setCell ⟨w.heap.size + 1, 0, none⟩ (.int .i64 0)).setCell ⟨w.heap.size + 1, 1, none⟩ (.int .i64 0)).setCell ⟨w.heap.size + 1 + 1, 0, none⟩ (.int .i64 0)).setCell ⟨w.heap.size + 1 + 1, 1, none⟩ (.int .i64 0)) :=
    (((BB.out.setCell (p := ⟨w.heap.size + 1, 0, none⟩) (by dsimp only; omega) _).setCell (p := ⟨w.heap.size + 1, 1, none⟩) (by dsimp only; omega) _).setCell (p := ⟨w.heap.size + 1 + 1, 0, none⟩) (by dsimp only; omega) _).setCell (p := ⟨w.heap.size + 1 + 1, 1, none⟩) (by dsimp only; omega) _
  have hr2 := ((((R21.out.set 0 (.int .i64 0)).set 1 (.int .i64 0)).other 0 (.int .i64 0) (show w.heap.size + 1 ≠ w.heap.size + 1 + 1 by omega)).other 1 (.int .i64 0) (show w.heap.size + 1 ≠ w.heap.size + 1 + 1 by omega))
  have hr3 := ((((R31.out.other 0 (.int .i64 0) (show w.heap.size + 1 + 1 ≠ w.heap.size + 1 by omega)).other 1 (.int .i64 0) (show w.heap.size + 1 + 1 ≠ w.heap.size + 1 by omega)).set 0 (.int .i64 0)).set 1 (.int .i64 0))
  simp only [List.set_cons_zero, List.set_cons_succ] at hr2 hr3
  refine leaves_marks (B := w.heap.size) (fun X => Below w.heap.size w X ∧ (Row X (w.heap.size + 1) 28 [.int .i64 0, .int .i64 0] ∧ Row X (w.heap.size + 1 + 1) 28 [.int .i64 0, .int .i64 0])) ((lasts_below _ _ _ (Nat.le_refl _) (Nat.le_refl _)).and ((lasts_row _ _ _ _).and (lasts_row _ _ _ _))) ?_ [] _ (marks_nil _ _) ⟨hw, hr2, hr3⟩
  rintro X ⟨hX, x2, x3⟩
  have v0 := x2.cell 0
  have v1 := x2.cell 1
  have u0 := x3.cell 0
  have u1 := x3.cell 1
  simp only [List.getElem?_cons_zero, List.getElem?_cons_succ] at v0 v1 u0 u1
  refine ⟨.tuple #[.agg #[.int .i64 0, .int .i64 0], .agg #[.int .i64 0, .int .i64 0], .int .i64 k], ?_, rfl, hX⟩
  simp [results, Try.results26, go_sem, v0, v1, u0, u1]
end Go.Proofs.Ytlemipnplgbckaa
