import Derived.Test.YtlemipnplgbckaaPC
import Derived.Test.YtlemipnplgbckaaBY
import Derived.Laws.AppendOwn
import Derived.ChangeKeysEq
import Derived.Maps.RangeWalk
import Derived.Maps.OwnIn
import Derived.Maps.AppendAt
import Derived.RangeFuncNested
import Derived.RangeFuncBound
import Derived.RangeFuncCalls
import Derived.RangeFuncLeaves
import Derived.Shelf.Abstract
import Derived.Shelf.RegionOpen
import Derived.WalkKit
import Derived.WalkMore
import Derived.OwnWalkIn
import Derived.TacticsInMore
import Derived.LoopNIn
import Derived.LoopIn
import Derived.WalkSpells
import Derived.WalkLawsBesides
import Derived.BigQuiet
import Derived.Deep.QuietTactic
import Derived.Lib.Hide
import Derived.Deep.RegionHeld3
import Derived.StillTailTactics
import Derived.Deep.LoopGhost
import Derived.Maps.OwnSet
import Derived.Lib.IndexAny
import Derived.Sort.QuietThIn
import Derived.Sort.QuietTacIn
import Derived.Sort.BigQuietIn
import Derived.Laws.OwnMore
import Derived.DeepKeys4
import Derived.Maps.Views
import Derived.Maps.OwnOps
import Derived.Laws.OwnMore
import Derived.Deep.DeepCutAuto
import Derived.ChangeKeysEq
namespace Go.Proofs.Ytlemipnplgbckaa
open Go.RowKit Go.Shelf
attribute [local go_sem] Oper.semAt_some
theorem cell_start (w : World) : Below w.heap.size w (w.alloc (.cells #[.int .i64 0, .int .i64 0, .int .i64 0, .int .i64 0] 30)) ∧ Row (w.alloc (.cells #[.int .i64 0, .int .i64 0, .int .i64 0, .int .i64 0] 30)) w.heap.size 30 [.int .i64 0, .int .i64 0, .int .i64 0, .int .i64 0] := box_start w 30 [.int .i64 0, .int .i64 0, .int .i64 0, .int .i64 0]
theorem errP_ok {ps : List Pt} (h : chkP ps = true) : errP ps = 0 := by unfold errP; rw [if_pos h]
set_option maxRecDepth 100000 in
set_option maxHeartbeats 600000 in
theorem Smallest_err (ps : List Pt) (v : Value) (w : World) (hv : SlP w v ps) (hl : ps.length ≤ 1000000) (k : Int) (he : errP ps = k) (hk : k ≠ 0) :
    Calls Try.prog 19 #[v] w fun e w' => e = .returned (.tuple #[cirV 0 0 0 0, .int .i64 k]) ∧ Below w.heap.size w w' := by
  obtain ⟨ba, rb⟩ := cell_start w
  have HC := Lib.hid (Check_any ps v _ (hv.grow ba) hl)
  rw [he] at HC
  have hd : (k != 0) = true := by simp; exact hk
  obtain ⟨a, c, rfl, _⟩ := hv
  generalize ps.length = n at *
  have BA := Lib.hid ba
  have RB := Lib.hid rb
  clear ba rb he hl hk
  go_enter Try.func19, Try.ntmps19
  go_wp2_with fail
  refine HC.out.mono ?_
  rintro e w1 ⟨rfl, hb⟩
  have BW := Lib.hid (Below.andThen BA.out hb (Nat.le_refl _))
  have rT := RB.out.below hb RB.out.lt
  have RT := Lib.hid rT
  have t0 := rT.cell 0
  have t1 := rT.cell 1
  have t2 := rT.cell 2
  have t3 := rT.cell 3
  have g0 := frozen_of_row _ w.heap.size 0 _ _ rT
  have g1 := frozen_of_row _ w.heap.size 1 _ _ rT
  have g2 := frozen_of_row _ w.heap.size 2 _ _ rT
  have g3 := frozen_of_row _ w.heap.size 3 _ _ rT
  simp only [List.getElem?_cons_zero, List.getElem?_cons_succ] at t0 t1 t2 t3
  clear hb rT HC
  go_wp2_with fail
  have hr := (((RT.out.set 0 (.int .i64 0)).set 1 (.int .i64 0)).set 2 (.int .i64 0)).set 3 (.int .i64 0)
  have v0 := hr.cell 0
  have v1 := hr.cell 1
  have v2 := hr.cell 2
  have v3 := hr.cell 3
  simp only [List.set_cons_zero, List.set_cons_succ, List.getElem?_cons_zero, List.getElem?_cons_succ] at v0 v1 v2 v3
  refine bodyPost_ret (v := .tuple #[cirV 0 0 0 0, .int .i64 k]) (by simp [results, Try.results19, go_sem, v0, v1, v2, v3, cirV]) rfl ⟨rfl, ?_⟩
  exact (((BW.out.setCell (p := ⟨w.heap.size, 0, none⟩) (by dsimp only; omega) _).setCell (p := ⟨w.heap.size, 1, none⟩) (by dsimp only; omega) _).setCell (p := ⟨w.heap.size, 2, none⟩) (by dsimp only; omega) _).setCell (p := ⟨w.heap.size, 3, none⟩) (by dsimp only; omega) _
set_option maxRecDepth 100000 in
set_option maxHeartbeats 600000 in
theorem Smallest_ok (ps : List Pt) (v : Value) (w : World) (hv : SlP w v ps) (he : chkP ps = true) :
    Calls Try.prog 19 #[v] w fun e w' => e = .returned (.tuple #[(smC ps).V, .int .i64 0]) ∧ Below w.heap.size w w' := by
  obtain ⟨⟨hl1, hl⟩, hps, _⟩ := chkP_iff.1 he
  obtain ⟨ba, rb⟩ := cell_start w
  have HC := Lib.hid (Check_any ps v _ (hv.grow ba) (by omega))
  rw [errP_ok he] at HC
  obtain ⟨c0, cs, hf⟩ := sm_filter (ps := ps) (by intro h; rw [h] at hl1; simp at hl1)
  have hsm : smC ps = minL c0 cs := by unfold smC; rw [hf]
  have HSM := Lib.hid (fun W (hb : Below w.heap.size w W) => smallest_any ps v W (hv.grow hb) hl hps c0 cs hf)
  rw [← hsm] at HSM
  obtain ⟨a, c, rfl, _⟩ := hv
  generalize smC ps = M at *
  obtain ⟨X, Y, D, R⟩ := M
  unfold Cir.V cirV at HSM ⊢
  dsimp only at HSM ⊢
  generalize ps.length = n at *
  have BA := Lib.hid ba
  have RB := Lib.hid rb
  clear ba rb he hl hl1 hps hf hsm
  go_enter Try.func19, Try.ntmps19
  go_wp2_with fail
  refine HC.out.mono ?_
  rintro e w1 ⟨rfl, hb⟩
  have BW := Lib.hid (Below.andThen BA.out hb (Nat.le_refl _))
  have RT := Lib.hid (RB.out.below hb RB.out.lt)
  clear hb HC
  go_wp2_with fail
  refine (HSM.out _ BW.out).mono ?_
  rintro e w2 ⟨rfl, hb2⟩
  have BX := Lib.hid (Below.andThen BW.out hb2 (Nat.le_refl _))
  have rT := RT.out.below hb2 RT.out.lt
  have RU := Lib.hid rT
  have t0 := rT.cell 0
  have t1 := rT.cell 1
  have t2 := rT.cell 2
  have t3 := rT.cell 3
  have g0 := frozen_of_row _ w.heap.size 0 _ _ rT
  have g1 := frozen_of_row _ w.heap.size 1 _ _ rT
  have g2 := frozen_of_row _ w.heap.size 2 _ _ rT
  have g3 := frozen_of_row _ w.heap.size 3 _ _ rT
  simp only [List.getElem?_cons_zero, List.getElem?_cons_succ] at t0 t1 t2 t3
  clear hb2 rT HSM RT
  go_wp2_with fail
  have hr := (((RU.out.set 0 (.int .i64 X)).set 1 (.int .i64 Y)).set 2 (.int .i64 D)).set 3 (.int .i64 R)
  have v0 := hr.cell 0
  have v1 := hr.cell 1
  have v2 := hr.cell 2
  have v3 := hr.cell 3
  simp only [List.set_cons_zero, List.set_cons_succ, List.getElem?_cons_zero, List.getElem?_cons_succ] at v0 v1 v2 v3
  refine bodyPost_ret (v := .tuple #[.agg #[.int .i64 X, .int .i64 Y, .int .i64 D, .int .i64 R], .int .i64 0]) (by simp [results, Try.results19, go_sem, v0, v1, v2, v3]) rfl ⟨rfl, ?_⟩
  exact (((BX.out.setCell (p := ⟨w.heap.size, 0, none⟩) (by dsimp only; omega) _).setCell (p := ⟨w.heap.size, 1, none⟩) (by dsimp only; omega) _).setCell (p := ⟨w.heap.size, 2, none⟩) (by dsimp only; omega) _).setCell (p := ⟨w.heap.size, 3, none⟩) (by dsimp only; omega) _
end Go.Proofs.Ytlemipnplgbckaa
