import Derived.Test.YtlamppplnojpbaaKd
import Derived.Laws.AppendOwn
import Derived.ChangeKeysEq
import Derived.Maps.RangeWalk
import Derived.Maps.OwnIn
import Derived.Maps.AppendAt
import Derived.RangeFuncNested
import Derived.RangeFuncBound
import Derived.RangeFuncCalls
import Derived.RangeFuncLeaves
import Derived.Shelf.Abstract
import Derived.Shelf.RegionOpen
import Derived.WalkKit
import Derived.WalkMore
import Derived.OwnWalkIn
import Derived.TacticsInMore
import Derived.LoopNIn
import Derived.LoopIn
import Derived.WalkSpells
import Derived.WalkLawsBesides
import Derived.BigQuiet
import Derived.Deep.QuietTactic
import Derived.Lib.Hide
import Derived.Deep.RegionHeld3
import Derived.StillTailTactics
import Derived.Deep.LoopGhost
import Derived.Maps.OwnSet
import Derived.Lib.IndexAny
import Derived.Sort.QuietThIn
import Derived.Sort.QuietTacIn
import Derived.Sort.BigQuietIn
namespace Go.Proofs.Ytlamppplnojpbaa
open Go.RowKit Go.Shelf
attribute [local go_sem] Oper.semAt_some
set_option maxRecDepth 100000 in
set_option maxHeartbeats 1000000 in
theorem after2_0_1l (n p0 p1 p2 p3 f0 f1 f2 f3 : Int) (hf : 0 ≤ f0 ∧ f0 ≤ 1000) (ht : 0 ≤ f1 ∧ f1 ≤ p1) (hp : p1 ≤ 1000) (hmin : f0 ≤ p1 - f1) (w : World) :
    Calls Try.prog 54 #[.agg #[.int .i64 n, .int .i64 p0, .int .i64 p1, .int .i64 p2, .int .i64 p3], .agg #[.int .i64 f0, .int .i64 f1, .int .i64 f2, .int .i64 f3], .agg #[.int .i64 0, .int .i64 1]] w fun e w' => e = .returned (aggI (afterF [p0, p1, p2, p3] [f0, f1, f2, f3] 0 1)) ∧ Below w.heap.size w w' := by
  obtain ⟨V, hV, rJ, rF, rS, rR, hb, hsz⟩ := after_start w [.int .i64 n, .int .i64 p0, .int .i64 p1, .int .i64 p2, .int .i64 p3] [.int .i64 f0, .int .i64 f1, .int .i64 f2, .int .i64 f3] [.int .i64 0, .int .i64 1] [.int .i64 0, .int .i64 0, .int .i64 0, .int .i64 0]
  have e1 : IntKind.i64.wrap (p1 - f1) = p1 - f1 := i64_of _ (by omega) (by omega)
  have e2 : IntKind.i64.wrap (f0 - f0) = f0 - f0 := i64_of _ (by omega) (by omega)
  have e3 : IntKind.i64.wrap (f1 + f0) = f1 + f0 := i64_of _ (by omega) (by omega)
  have hm : min f0 (p1 - f1) = f0 := by omega
  have FIN : Hid (aggI (afterF [p0, p1, p2, p3] [f0, f1, f2, f3] 0 1) = .agg #[.int .i64 0, .int .i64 (f1 + f0), .int .i64 f2, .int .i64 f3]) := Lib.hid (by simp [afterF, aggI, encI, hm])
  rw [FIN.out]
  have HV := Lib.hid hV
  have RJ := Lib.hid rJ
  have RF := Lib.hid rF
  have RR := Lib.hid rR
  have B0 := Lib.hid hb
  have s0 := rS.cell 0
  have s1 := rS.cell 1
  simp only [List.getElem?_cons_zero, List.getElem?_cons_succ] at s0 s1
  have u0 := Kl.cell rS.lt s0
  have u1 := Kl.cell rS.lt s1
  clear hV rJ rF rS rR hb hsz s0 s1
  go_enter Try.func54, Try.ntmps54
  go_wp2_with fail
  rw [← HV.out]
  refine wp_region_below (by kernel_rfl) (by kernel_rfl) ?_
  repeat (go_big_quiet_step (fail))
  refine wpQuiet_nil ?_
  rintro _ ⟨wq, rfl⟩
  have BQ := Lib.hid wq.h
  generalize wq.W = w2 at *
  clear u0 u1
  have q1 := (RF.out.below BQ.out RF.out.lt).cell 0
  have q2 := (RF.out.below BQ.out RF.out.lt).cell 1
  have q3 := (RJ.out.below BQ.out RJ.out.lt).cell 2
  simp only [List.getElem?_cons_zero, List.getElem?_cons_succ] at q1 q2 q3
  have u0 := Kl.cell (RF.out.below BQ.out RF.out.lt).lt q1
  have u1 := Kl.cell (RF.out.below BQ.out RF.out.lt).lt q2
  have u2 := Kl.cell (RJ.out.below BQ.out RJ.out.lt).lt q3
  clear q1 q2 q3
  go_wp2_with fail
  refine wp_region_below (by kernel_rfl) (by kernel_rfl) ?_
  repeat (go_big_quiet_step (fail))
  refine wpQuiet_nil ?_
  rintro _ ⟨wq, rfl⟩
  have BQ := Lib.hid (Below.andThen BQ.out wq.h (by have := BQ.out.size; have := RR.out.lt; omega))
  generalize wq.W = w2 at *
  clear u0 u1 u2
  have rJ := RJ.out.below BQ.out RJ.out.lt
  have rF := RF.out.below BQ.out RF.out.lt
  have rR := RR.out.below BQ.out RR.out.lt
  have RF2 := Lib.hid rF
  have RR2 := Lib.hid rR
  have j1 := rJ.cell 1
  have j2 := rJ.cell 2
  have j3 := rJ.cell 3
  have j4 := rJ.cell 4
  have c0 := rF.cell 0
  have c1 := rF.cell 1
  have c2 := rF.cell 2
  have c3 := rF.cell 3
  have z0 := rR.cell 0
  have z1 := rR.cell 1
  have z2 := rR.cell 2
  have z3 := rR.cell 3
  have k0 := frozen_of_row _ (w.heap.size + 1) 0 _ _ rF
  have k1 := frozen_of_row _ (w.heap.size + 1) 1 _ _ rF
  have k2 := frozen_of_row _ (w.heap.size + 1) 2 _ _ rF
  have k3 := frozen_of_row _ (w.heap.size + 1) 3 _ _ rF
  have l0 := frozen_of_row _ (w.heap.size + 1 + 1 + 1) 0 _ _ rR
  have l1 := frozen_of_row _ (w.heap.size + 1 + 1 + 1) 1 _ _ rR
  have l2 := frozen_of_row _ (w.heap.size + 1 + 1 + 1) 2 _ _ rR
  have l3 := frozen_of_row _ (w.heap.size + 1 + 1 + 1) 3 _ _ rR
  simp only [List.getElem?_cons_zero, List.getElem?_cons_succ] at j1 j2 j3 j4 c0 c1 c2 c3 z0 z1 z2 z3
  clear rJ rF rR
  go_wp2_with fail
  all_goals first | (exfalso; omega) | skip
  have hr : Row ((((((w2.setCell ⟨w.heap.size + 1, 0, none⟩ (.int .i64 0)).setCell ⟨w.heap.size + 1, 1, none⟩ (.int .i64 (f1 + f0))).setCell ⟨w.heap.size + 1 + 1 + 1, 0, none⟩ (.int .i64 0)).setCell ⟨w.heap.size + 1 + 1 + 1, 1, none⟩ (.int .i64 (f1 + f0))).setCell ⟨w.heap.size + 1 + 1 + 1, 2, none⟩ (.int .i64 f2)).setCell ⟨w.heap.size + 1 + 1 + 1, 3, none⟩ (.int .i64 f3)) (w.heap.size + 1 + 1 + 1) 77 [.int .i64 0, .int .i64 (f1 + f0), .int .i64 f2, .int .i64 f3] := by
    simpa using ((((((RR2.out.other (0) (.int .i64 0) (g' := w.heap.size + 1) (by omega)).other (1) (.int .i64 (f1 + f0)) (g' := w.heap.size + 1) (by omega)).set 0 (.int .i64 0)).set 1 (.int .i64 (f1 + f0))).set 2 (.int .i64 f2)).set 3 (.int .i64 f3))
  have v0 := hr.cell 0
  have v1 := hr.cell 1
  have v2 := hr.cell 2
  have v3 := hr.cell 3
  simp only [List.getElem?_cons_zero, List.getElem?_cons_succ] at v0 v1 v2 v3
  refine bodyPost_ret (v := .agg #[.int .i64 0, .int .i64 (f1 + f0), .int .i64 f2, .int .i64 f3]) (by simp [results, Try.results54, go_sem, v0, v1, v2, v3]) rfl ⟨rfl, ?_⟩
  exact (((((((Below.andThen B0.out BQ.out (Nat.le_refl _)).setCell (p := ⟨w.heap.size + 1, 0, none⟩) (by dsimp only; omega) (.int .i64 0)).setCell (p := ⟨w.heap.size + 1, 1, none⟩) (by dsimp only; omega) (.int .i64 (f1 + f0))).setCell (p := ⟨w.heap.size + 1 + 1 + 1, 0, none⟩) (by dsimp only; omega) (.int .i64 0)).setCell (p := ⟨w.heap.size + 1 + 1 + 1, 1, none⟩) (by dsimp only; omega) (.int .i64 (f1 + f0))).setCell (p := ⟨w.heap.size + 1 + 1 + 1, 2, none⟩) (by dsimp only; omega) (.int .i64 f2)).setCell (p := ⟨w.heap.size + 1 + 1 + 1, 3, none⟩) (by dsimp only; omega) (.int .i64 f3))
set_option maxRecDepth 100000 in
set_option maxHeartbeats 1000000 in
theorem after2_0_1h (n p0 p1 p2 p3 f0 f1 f2 f3 : Int) (hf : 0 ≤ f0 ∧ f0 ≤ 1000) (ht : 0 ≤ f1 ∧ f1 ≤ p1) (hp : p1 ≤ 1000) (hmin : p1 - f1 < f0) (w : World) :
    Calls Try.prog 54 #[.agg #[.int .i64 n, .int .i64 p0, .int .i64 p1, .int .i64 p2, .int .i64 p3], .agg #[.int .i64 f0, .int .i64 f1, .int .i64 f2, .int .i64 f3], .agg #[.int .i64 0, .int .i64 1]] w fun e w' => e = .returned (aggI (afterF [p0, p1, p2, p3] [f0, f1, f2, f3] 0 1)) ∧ Below w.heap.size w w' := by
  obtain ⟨V, hV, rJ, rF, rS, rR, hb, hsz⟩ := after_start w [.int .i64 n, .int .i64 p0, .int .i64 p1, .int .i64 p2, .int .i64 p3] [.int .i64 f0, .int .i64 f1, .int .i64 f2, .int .i64 f3] [.int .i64 0, .int .i64 1] [.int .i64 0, .int .i64 0, .int .i64 0, .int .i64 0]
  have e1 : IntKind.i64.wrap (p1 - f1) = p1 - f1 := i64_of _ (by omega) (by omega)
  have e2 : IntKind.i64.wrap (f0 - (p1 - f1)) = f0 - (p1 - f1) := i64_of _ (by omega) (by omega)
  have e3 : IntKind.i64.wrap (f1 + (p1 - f1)) = f1 + (p1 - f1) := i64_of _ (by omega) (by omega)
  have hm : min f0 (p1 - f1) = (p1 - f1) := by omega
  have FIN : Hid (aggI (afterF [p0, p1, p2, p3] [f0, f1, f2, f3] 0 1) = .agg #[.int .i64 (f0 - (p1 - f1)), .int .i64 (f1 + (p1 - f1)), .int .i64 f2, .int .i64 f3]) := Lib.hid (by simp [afterF, aggI, encI, hm])
  rw [FIN.out]
  have HV := Lib.hid hV
  have RJ := Lib.hid rJ
  have RF := Lib.hid rF
  have RR := Lib.hid rR
  have B0 := Lib.hid hb
  have s0 := rS.cell 0
  have s1 := rS.cell 1
  simp only [List.getElem?_cons_zero, List.getElem?_cons_succ] at s0 s1
  have u0 := Kl.cell rS.lt s0
  have u1 := Kl.cell rS.lt s1
  clear hV rJ rF rS rR hb hsz s0 s1
  go_enter Try.func54, Try.ntmps54
  go_wp2_with fail
  rw [← HV.out]
  refine wp_region_below (by kernel_rfl) (by kernel_rfl) ?_
  repeat (go_big_quiet_step (fail))
  refine wpQuiet_nil ?_
  rintro _ ⟨wq, rfl⟩
  have BQ := Lib.hid wq.h
  generalize wq.W = w2 at *
  clear u0 u1
  have q1 := (RF.out.below BQ.out RF.out.lt).cell 0
  have q2 := (RF.out.below BQ.out RF.out.lt).cell 1
  have q3 := (RJ.out.below BQ.out RJ.out.lt).cell 2
  simp only [List.getElem?_cons_zero, List.getElem?_cons_succ] at q1 q2 q3
  have u0 := Kl.cell (RF.out.below BQ.out RF.out.lt).lt q1
  have u1 := Kl.cell (RF.out.below BQ.out RF.out.lt).lt q2
  have u2 := Kl.cell (RJ.out.below BQ.out RJ.out.lt).lt q3
  clear q1 q2 q3
  go_wp2_with fail
  refine wp_region_below (by kernel_rfl) (by kernel_rfl) ?_
  repeat (go_big_quiet_step (fail))
  refine wpQuiet_nil ?_
  rintro _ ⟨wq, rfl⟩
  have BQ := Lib.hid (Below.andThen BQ.out wq.h (by have := BQ.out.size; have := RR.out.lt; omega))
  generalize wq.W = w2 at *
  clear u0 u1 u2
  have rJ := RJ.out.below BQ.out RJ.out.lt
  have rF := RF.out.below BQ.out RF.out.lt
  have rR := RR.out.below BQ.out RR.out.lt
  have RF2 := Lib.hid rF
  have RR2 := Lib.hid rR
  have j1 := rJ.cell 1
  have j2 := rJ.cell 2
  have j3 := rJ.cell 3
  have j4 := rJ.cell 4
  have c0 := rF.cell 0
  have c1 := rF.cell 1
  have c2 := rF.cell 2
  have c3 := rF.cell 3
  have z0 := rR.cell 0
  have z1 := rR.cell 1
  have z2 := rR.cell 2
  have z3 := rR.cell 3
  have k0 := frozen_of_row _ (w.heap.size + 1) 0 _ _ rF
  have k1 := frozen_of_row _ (w.heap.size + 1) 1 _ _ rF
  have k2 := frozen_of_row _ (w.heap.size + 1) 2 _ _ rF
  have k3 := frozen_of_row _ (w.heap.size + 1) 3 _ _ rF
  have l0 := frozen_of_row _ (w.heap.size + 1 + 1 + 1) 0 _ _ rR
  have l1 := frozen_of_row _ (w.heap.size + 1 + 1 + 1) 1 _ _ rR
  have l2 := frozen_of_row _ (w.heap.size + 1 + 1 + 1) 2 _ _ rR
  have l3 := frozen_of_row _ (w.heap.size + 1 + 1 + 1) 3 _ _ rR
  simp only [List.getElem?_cons_zero, List.getElem?_cons_succ] at j1 j2 j3 j4 c0 c1 c2 c3 z0 z1 z2 z3
  clear rJ rF rR
  go_wp2_with fail
  all_goals first | (exfalso; omega) | skip
  have hr : Row ((((((w2.setCell ⟨w.heap.size + 1, 0, none⟩ (.int .i64 (f0 - (p1 - f1)))).setCell ⟨w.heap.size + 1, 1, none⟩ (.int .i64 (f1 + (p1 - f1)))).setCell ⟨w.heap.size + 1 + 1 + 1, 0, none⟩ (.int .i64 (f0 - (p1 - f1)))).setCell ⟨w.heap.size + 1 + 1 + 1, 1, none⟩ (.int .i64 (f1 + (p1 - f1)))).setCell ⟨w.heap.size + 1 + 1 + 1, 2, none⟩ (.int .i64 f2)).setCell ⟨w.heap.size + 1 + 1 + 1, 3, none⟩ (.int .i64 f3)) (w.heap.size + 1 + 1 + 1) 77 [.int .i64 (f0 - (p1 - f1)), .int .i64 (f1 + (p1 - f1)), .int .i64 f2, .int .i64 f3] := by
    simpa using ((((((RR2.out.other (0) (.int .i64 (f0 - (p1 - f1))) (g' := w.heap.size + 1) (by omega)).other (1) (.int .i64 (f1 + (p1 - f1))) (g' := w.heap.size + 1) (by omega)).set 0 (.int .i64 (f0 - (p1 - f1)))).set 1 (.int .i64 (f1 + (p1 - f1)))).set 2 (.int .i64 f2)).set 3 (.int .i64 f3))
  have v0 := hr.cell 0
  have v1 := hr.cell 1
  have v2 := hr.cell 2
  have v3 := hr.cell 3
  simp only [List.getElem?_cons_zero, List.getElem?_cons_succ] at v0 v1 v2 v3
  refine bodyPost_ret (v := .agg #[.int .i64 (f0 - (p1 - f1)), .int .i64 (f1 + (p1 - f1)), .int .i64 f2, .int .i64 f3]) (by simp [results, Try.results54, go_sem, v0, v1, v2, v3]) rfl ⟨rfl, ?_⟩
  exact (((((((Below.andThen B0.out BQ.out (Nat.le_refl _)).setCell (p := ⟨w.heap.size + 1, 0, none⟩) (by dsimp only; omega) (.int .i64 (f0 - (p1 - f1)))).setCell (p := ⟨w.heap.size + 1, 1, none⟩) (by dsimp only; omega) (.int .i64 (f1 + (p1 - f1)))).setCell (p := ⟨w.heap.size + 1 + 1 + 1, 0, none⟩) (by dsimp only; omega) (.int .i64 (f0 - (p1 - f1)))).setCell (p := ⟨w.heap.size + 1 + 1 + 1, 1, none⟩) (by dsimp only; omega) (.int .i64 (f1 + (p1 - f1)))).setCell (p := ⟨w.heap.size + 1 + 1 + 1, 2, none⟩) (by dsimp only; omega) (.int .i64 f2)).setCell (p := ⟨w.heap.size + 1 + 1 + 1, 3, none⟩) (by dsimp only; omega) (.int .i64 f3))
set_option maxRecDepth 100000 in
set_option maxHeartbeats 1000000 in
theorem after2_1_0l (n p0 p1 p2 p3 f0 f1 f2 f3 : Int) (hf : 0 ≤ f1 ∧ f1 ≤ 1000) (ht : 0 ≤ f0 ∧ f0 ≤ p0) (hp : p0 ≤ 1000) (hmin : f1 ≤ p0 - f0) (w : World) :
    Calls Try.prog 54 #[.agg #[.int .i64 n, .int .i64 p0, .int .i64 p1, .int .i64 p2, .int .i64 p3], .agg #[.int .i64 f0, .int .i64 f1, .int .i64 f2, .int .i64 f3], .agg #[.int .i64 1, .int .i64 0]] w fun e w' => e = .returned (aggI (afterF [p0, p1, p2, p3] [f0, f1, f2, f3] 1 0)) ∧ Below w.heap.size w w' := by
  obtain ⟨V, hV, rJ, rF, rS, rR, hb, hsz⟩ := after_start w [.int .i64 n, .int .i64 p0, .int .i64 p1, .int .i64 p2, .int .i64 p3] [.int .i64 f0, .int .i64 f1, .int .i64 f2, .int .i64 f3] [.int .i64 1, .int .i64 0] [.int .i64 0, .int .i64 0, .int .i64 0, .int .i64 0]
  have e1 : IntKind.i64.wrap (p0 - f0) = p0 - f0 := i64_of _ (by omega) (by omega)
  have e2 : IntKind.i64.wrap (f1 - f1) = f1 - f1 := i64_of _ (by omega) (by omega)
  have e3 : IntKind.i64.wrap (f0 + f1) = f0 + f1 := i64_of _ (by omega) (by omega)
  have hm : min f1 (p0 - f0) = f1 := by omega
  have FIN : Hid (aggI (afterF [p0, p1, p2, p3] [f0, f1, f2, f3] 1 0) = .agg #[.int .i64 (f0 + f1), .int .i64 0, .int .i64 f2, .int .i64 f3]) := Lib.hid (by simp [afterF, aggI, encI, hm])
  rw [FIN.out]
  have HV := Lib.hid hV
  have RJ := Lib.hid rJ
  have RF := Lib.hid rF
  have RR := Lib.hid rR
  have B0 := Lib.hid hb
  have s0 := rS.cell 0
  have s1 := rS.cell 1
  simp only [List.getElem?_cons_zero, List.getElem?_cons_succ] at s0 s1
  have u0 := Kl.cell rS.lt s0
  have u1 := Kl.cell rS.lt s1
  clear hV rJ rF rS rR hb hsz s0 s1
  go_enter Try.func54, Try.ntmps54
  go_wp2_with fail
  rw [← HV.out]
  refine wp_region_below (by kernel_rfl) (by kernel_rfl) ?_
  repeat (go_big_quiet_step (fail))
  refine wpQuiet_nil ?_
  rintro _ ⟨wq, rfl⟩
  have BQ := Lib.hid wq.h
  generalize wq.W = w2 at *
  clear u0 u1
  have q1 := (RF.out.below BQ.out RF.out.lt).cell 1
  have q2 := (RF.out.below BQ.out RF.out.lt).cell 0
  have q3 := (RJ.out.below BQ.out RJ.out.lt).cell 1
  simp only [List.getElem?_cons_zero, List.getElem?_cons_succ] at q1 q2 q3
  have u0 := Kl.cell (RF.out.below BQ.out RF.out.lt).lt q1
  have u1 := Kl.cell (RF.out.below BQ.out RF.out.lt).lt q2
  have u2 := Kl.cell (RJ.out.below BQ.out RJ.out.lt).lt q3
  clear q1 q2 q3
  go_wp2_with fail
  refine wp_region_below (by kernel_rfl) (by kernel_rfl) ?_
  repeat (go_big_quiet_step (fail))
  refine wpQuiet_nil ?_
  rintro _ ⟨wq, rfl⟩
  have BQ := Lib.hid (Below.andThen BQ.out wq.h (by have := BQ.out.size; have := RR.out.lt; omega))
  generalize wq.W = w2 at *
  clear u0 u1 u2
  have rJ := RJ.out.below BQ.out RJ.out.lt
  have rF := RF.out.below BQ.out RF.out.lt
  have rR := RR.out.below BQ.out RR.out.lt
  have RF2 := Lib.hid rF
  have RR2 := Lib.hid rR
  have j1 := rJ.cell 1
  have j2 := rJ.cell 2
  have j3 := rJ.cell 3
  have j4 := rJ.cell 4
  have c0 := rF.cell 0
  have c1 := rF.cell 1
  have c2 := rF.cell 2
  have c3 := rF.cell 3
  have z0 := rR.cell 0
  have z1 := rR.cell 1
  have z2 := rR.cell 2
  have z3 := rR.cell 3
  have k0 := frozen_of_row _ (w.heap.size + 1) 0 _ _ rF
  have k1 := frozen_of_row _ (w.heap.size + 1) 1 _ _ rF
  have k2 := frozen_of_row _ (w.heap.size + 1) 2 _ _ rF
  have k3 := frozen_of_row _ (w.heap.size + 1) 3 _ _ rF
  have l0 := frozen_of_row _ (w.heap.size + 1 + 1 + 1) 0 _ _ rR
  have l1 := frozen_of_row _ (w.heap.size + 1 + 1 + 1) 1 _ _ rR
  have l2 := frozen_of_row _ (w.heap.size + 1 + 1 + 1) 2 _ _ rR
  have l3 := frozen_of_row _ (w.heap.size + 1 + 1 + 1) 3 _ _ rR
  simp only [List.getElem?_cons_zero, List.getElem?_cons_succ] at j1 j2 j3 j4 c0 c1 c2 c3 z0 z1 z2 z3
  clear rJ rF rR
  go_wp2_with fail
  all_goals first | (exfalso; omega) | skip
  have hr : Row ((((((w2.setCell ⟨w.heap.size + 1, 1, none⟩ (.int .i64 0)).setCell ⟨w.heap.size + 1, 0, none⟩ (.int .i64 (f0 + f1))).setCell ⟨w.heap.size + 1 + 1 + 1, 0, none⟩ (.int .i64 (f0 + f1))).setCell ⟨w.heap.size + 1 + 1 + 1, 1, none⟩ (.int .i64 0)).setCell ⟨w.heap.size + 1 + 1 + 1, 2, none⟩ (.int .i64 f2)).setCell ⟨w.heap.size + 1 + 1 + 1, 3, none⟩ (.int .i64 f3)) (w.heap.size + 1 + 1 + 1) 77 [.int .i64 (f0 + f1), .int .i64 0, .int .i64 f2, .int .i64 f3] := by
    simpa using ((((((RR2.out.other (1) (.int .i64 0) (g' := w.heap.size + 1) (by omega)).other (0) (.int .i64 (f0 + f1)) (g' := w.heap.size + 1) (by omega)).set 0 (.int .i64 (f0 + f1))).set 1 (.int .i64 0)).set 2 (.int .i64 f2)).set 3 (.int .i64 f3))
  have v0 := hr.cell 0
  have v1 := hr.cell 1
  have v2 := hr.cell 2
  have v3 := hr.cell 3
  simp only [List.getElem?_cons_zero, List.getElem?_cons_succ] at v0 v1 v2 v3
  refine bodyPost_ret (v := .agg #[.int .i64 (f0 + f1), .int .i64 0, .int .i64 f2, .int .i64 f3]) (by simp [results, Try.results54, go_sem, v0, v1, v2, v3]) rfl ⟨rfl, ?_⟩
  exact (((((((Below.andThen B0.out BQ.out (Nat.le_refl _)).setCell (p := ⟨w.heap.size + 1, 1, none⟩) (by dsimp only; omega) (.int .i64 0)).setCell (p := ⟨w.heap.size + 1, 0, none⟩) (by dsimp only; omega) (.int .i64 (f0 + f1))).setCell (p := ⟨w.heap.size + 1 + 1 + 1, 0, none⟩) (by dsimp only; omega) (.int .i64 (f0 + f1))).setCell (p := ⟨w.heap.size + 1 + 1 + 1, 1, none⟩) (by dsimp only; omega) (.int .i64 0)).setCell (p := ⟨w.heap.size + 1 + 1 + 1, 2, none⟩) (by dsimp only; omega) (.int .i64 f2)).setCell (p := ⟨w.heap.size + 1 + 1 + 1, 3, none⟩) (by dsimp only; omega) (.int .i64 f3))
set_option maxRecDepth 100000 in
set_option maxHeartbeats 1000000 in
theorem after2_1_0h (n p0 p1 p2 p3 f0 f1 f2 f3 : Int) (hf : 0 ≤ f1 ∧ f1 ≤ 1000) (ht : 0 ≤ f0 ∧ f0 ≤ p0) (hp : p0 ≤ 1000) (hmin : p0 - f0 < f1) (w : World) :
    Calls Try.prog 54 #[.agg #[.int .i64 n, .int .i64 p0, .int .i64 p1, .int .i64 p2, .int .i64 p3], .agg #[.int .i64 f0, .int .i64 f1, .int .i64 f2, .int .i64 f3], .agg #[.int .i64 1, .int .i64 0]] w fun e w' => e = .returned (aggI (afterF [p0, p1, p2, p3] [f0, f1, f2, f3] 1 0)) ∧ Below w.heap.size w w' := by
  obtain ⟨V, hV, rJ, rF, rS, rR, hb, hsz⟩ := after_start w [.int .i64 n, .int .i64 p0, .int .i64 p1, .int .i64 p2, .int .i64 p3] [.int .i64 f0, .int .i64 f1, .int .i64 f2, .int .i64 f3] [.int .i64 1, .int .i64 0] [.int .i64 0, .int .i64 0, .int .i64 0, .int .i64 0]
  have e1 : IntKind.i64.wrap (p0 - f0) = p0 - f0 := i64_of _ (by omega) (by omega)
  have e2 : IntKind.i64.wrap (f1 - (p0 - f0)) = f1 - (p0 - f0) := i64_of _ (by omega) (by omega)
  have e3 : IntKind.i64.wrap (f0 + (p0 - f0)) = f0 + (p0 - f0) := i64_of _ (by omega) (by omega)
  have hm : min f1 (p0 - f0) = (p0 - f0) := by omega
  have FIN : Hid (aggI (afterF [p0, p1, p2, p3] [f0, f1, f2, f3] 1 0) = .agg #[.int .i64 (f0 + (p0 - f0)), .int .i64 (f1 - (p0 - f0)), .int .i64 f2, .int .i64 f3]) := Lib.hid (by simp [afterF, aggI, encI, hm])
  rw [FIN.out]
  have HV := Lib.hid hV
  have RJ := Lib.hid rJ
  have RF := Lib.hid rF
  have RR := Lib.hid rR
  have B0 := Lib.hid hb
  have s0 := rS.cell 0
  have s1 := rS.cell 1
  simp only [List.getElem?_cons_zero, List.getElem?_cons_succ] at s0 s1
  have u0 := Kl.cell rS.lt s0
  have u1 := Kl.cell rS.lt s1
  clear hV rJ rF rS rR hb hsz s0 s1
  go_enter Try.func54, Try.ntmps54
  go_wp2_with fail
  rw [← HV.out]
  refine wp_region_below (by kernel_rfl) (by kernel_rfl) ?_
  repeat (go_big_quiet_step (fail))
  refine wpQuiet_nil ?_
  rintro _ ⟨wq, rfl⟩
  have BQ := Lib.hid wq.h
  generalize wq.W = w2 at *
  clear u0 u1
  have q1 := (RF.out.below BQ.out RF.out.lt).cell 1
  have q2 := (RF.out.below BQ.out RF.out.lt).cell 0
  have q3 := (RJ.out.below BQ.out RJ.out.lt).cell 1
  simp only [List.getElem?_cons_zero, List.getElem?_cons_succ] at q1 q2 q3
  have u0 := Kl.cell (RF.out.below BQ.out RF.out.lt).lt q1
  have u1 := Kl.cell (RF.out.below BQ.out RF.out.lt).lt q2
  have u2 := Kl.cell (RJ.out.below BQ.out RJ.out.lt).lt q3
  clear q1 q2 q3
  go_wp2_with fail
  refine wp_region_below (by kernel_rfl) (by kernel_rfl) ?_
  repeat (go_big_quiet_step (fail))
  refine wpQuiet_nil ?_
  rintro _ ⟨wq, rfl⟩
  have BQ := Lib.hid (Below.andThen BQ.out wq.h (by have := BQ.out.size; have := RR.out.lt; omega))
  generalize wq.W = w2 at *
  clear u0 u1 u2
  have rJ := RJ.out.below BQ.out RJ.out.lt
  have rF := RF.out.below BQ.out RF.out.lt
  have rR := RR.out.below BQ.out RR.out.lt
  have RF2 := Lib.hid rF
  have RR2 := Lib.hid rR
  have j1 := rJ.cell 1
  have j2 := rJ.cell 2
  have j3 := rJ.cell 3
  have j4 := rJ.cell 4
  have c0 := rF.cell 0
  have c1 := rF.cell 1
  have c2 := rF.cell 2
  have c3 := rF.cell 3
  have z0 := rR.cell 0
  have z1 := rR.cell 1
  have z2 := rR.cell 2
  have z3 := rR.cell 3
  have k0 := frozen_of_row _ (w.heap.size + 1) 0 _ _ rF
  have k1 := frozen_of_row _ (w.heap.size + 1) 1 _ _ rF
  have k2 := frozen_of_row _ (w.heap.size + 1) 2 _ _ rF
  have k3 := frozen_of_row _ (w.heap.size + 1) 3 _ _ rF
  have l0 := frozen_of_row _ (w.heap.size + 1 + 1 + 1) 0 _ _ rR
  have l1 := frozen_of_row _ (w.heap.size + 1 + 1 + 1) 1 _ _ rR
  have l2 := frozen_of_row _ (w.heap.size + 1 + 1 + 1) 2 _ _ rR
  have l3 := frozen_of_row _ (w.heap.size + 1 + 1 + 1) 3 _ _ rR
  simp only [List.getElem?_cons_zero, List.getElem?_cons_succ] at j1 j2 j3 j4 c0 c1 c2 c3 z0 z1 z2 z3
  clear rJ rF rR
  go_wp2_with fail
  all_goals first | (exfalso; omega) | skip
  have hr : Row ((((((w2.setCell ⟨w.heap.size + 1, 1, none⟩ (.int .i64 (f1 - (p0 - f0)))).setCell ⟨w.heap.size + 1, 0, none⟩ (.int .i64 (f0 + (p0 - f0)))).setCell ⟨w.heap.size + 1 + 1 + 1, 0, none⟩ (.int .i64 (f0 + (p0 - f0)))).setCell ⟨w.heap.size + 1 + 1 + 1, 1, none⟩ (.int .i64 (f1 - (p0 - f0)))).setCell ⟨w.heap.size + 1 + 1 + 1, 2, none⟩ (.int .i64 f2)).setCell ⟨w.heap.size + 1 + 1 + 1, 3, none⟩ (.int .i64 f3)) (w.heap.size + 1 + 1 + 1) 77 [.int .i64 (f0 + (p0 - f0)), .int .i64 (f1 - (p0 - f0)), .int .i64 f2, .int .i64 f3] := by
    simpa using ((((((RR2.out.other (1) (.int .i64 (f1 - (p0 - f0))) (g' := w.heap.size + 1) (by omega)).other (0) (.int .i64 (f0 + (p0 - f0))) (g' := w.heap.size + 1) (by omega)).set 0 (.int .i64 (f0 + (p0 - f0)))).set 1 (.int .i64 (f1 - (p0 - f0)))).set 2 (.int .i64 f2)).set 3 (.int .i64 f3))
  have v0 := hr.cell 0
  have v1 := hr.cell 1
  have v2 := hr.cell 2
  have v3 := hr.cell 3
  simp only [List.getElem?_cons_zero, List.getElem?_cons_succ] at v0 v1 v2 v3
  refine bodyPost_ret (v := .agg #[.int .i64 (f0 + (p0 - f0)), .int .i64 (f1 - (p0 - f0)), .int .i64 f2, .int .i64 f3]) (by simp [results, Try.results54, go_sem, v0, v1, v2, v3]) rfl ⟨rfl, ?_⟩
  exact (((((((Below.andThen B0.out BQ.out (Nat.le_refl _)).setCell (p := ⟨w.heap.size + 1, 1, none⟩) (by dsimp only; omega) (.int .i64 (f1 - (p0 - f0)))).setCell (p := ⟨w.heap.size + 1, 0, none⟩) (by dsimp only; omega) (.int .i64 (f0 + (p0 - f0)))).setCell (p := ⟨w.heap.size + 1 + 1 + 1, 0, none⟩) (by dsimp only; omega) (.int .i64 (f0 + (p0 - f0)))).setCell (p := ⟨w.heap.size + 1 + 1 + 1, 1, none⟩) (by dsimp only; omega) (.int .i64 (f1 - (p0 - f0)))).setCell (p := ⟨w.heap.size + 1 + 1 + 1, 2, none⟩) (by dsimp only; omega) (.int .i64 f2)).setCell (p := ⟨w.heap.size + 1 + 1 + 1, 3, none⟩) (by dsimp only; omega) (.int .i64 f3))
/-- a step of two jugs of up to 1000 -/
theorem after_two (n p0 p1 f0 f1 : Int) (h0 : 0 ≤ f0 ∧ f0 ≤ p0 ∧ p0 ≤ 1000) (h1 : 0 ≤ f1 ∧ f1 ≤ p1 ∧ p1 ≤ 1000) (f t : Int) (hf : f = -1 ∨ f = 0 ∨ f = 1) (ht : t = -1 ∨ t = 0 ∨ t = 1) (hne : f ≠ t) (w : World) :
    Calls Try.prog 54 #[.agg #[.int .i64 n, .int .i64 p0, .int .i64 p1, .int .i64 0, .int .i64 0], .agg #[.int .i64 f0, .int .i64 f1, .int .i64 0, .int .i64 0], .agg #[.int .i64 f, .int .i64 t]] w fun e w' => e = .returned (aggI (afterF [p0, p1, 0, 0] [f0, f1, 0, 0] f t)) ∧ Below w.heap.size w w' := by
  rcases hf with rfl | rfl | rfl <;> rcases ht with rfl | rfl | rfl
  · exact absurd rfl hne
  · exact after_s_0 n p0 p1 0 0 f0 f1 0 0 w
  · exact after_s_1 n p0 p1 0 0 f0 f1 0 0 w
  · exact after_0_s n p0 p1 0 0 f0 f1 0 0 w
  · exact absurd rfl hne
  · rcases Int.lt_or_le (p1 - f1) f0 with h | h
    · exact after2_0_1h n p0 p1 0 0 f0 f1 0 0 ⟨h0.1, by omega⟩ ⟨h1.1, h1.2.1⟩ h1.2.2 h w
    · exact after2_0_1l n p0 p1 0 0 f0 f1 0 0 ⟨h0.1, by omega⟩ ⟨h1.1, h1.2.1⟩ h1.2.2 h w
  · exact after_1_s n p0 p1 0 0 f0 f1 0 0 w
  · rcases Int.lt_or_le (p0 - f0) f1 with h | h
    · exact after2_1_0h n p0 p1 0 0 f0 f1 0 0 ⟨h1.1, by omega⟩ ⟨h0.1, h0.2.1⟩ h0.2.2 h w
    · exact after2_1_0l n p0 p1 0 0 f0 f1 0 0 ⟨h1.1, by omega⟩ ⟨h0.1, h0.2.1⟩ h0.2.2 h w
  · exact absurd rfl hne
end Go.Proofs.Ytlamppplnojpbaa
