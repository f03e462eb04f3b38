import Derived.Test.YtlamppplnojpbaaMC
import Derived.Laws.AppendOwn
import Derived.ChangeKeysEq
import Derived.Maps.RangeWalk
import Derived.Maps.OwnIn
import Derived.Maps.AppendAt
import Derived.RangeFuncNested
import Derived.RangeFuncBound
import Derived.RangeFuncCalls
import Derived.RangeFuncLeaves
import Derived.Shelf.Abstract
import Derived.Shelf.RegionOpen
import Derived.WalkKit
import Derived.WalkMore
import Derived.OwnWalkIn
import Derived.TacticsInMore
import Derived.LoopNIn
import Derived.LoopIn
import Derived.WalkSpells
import Derived.WalkLawsBesides
import Derived.BigQuiet
import Derived.Deep.QuietTactic
import Derived.Lib.Hide
import Derived.Deep.RegionHeld3
import Derived.StillTailTactics
import Derived.Deep.LoopGhost
import Derived.Maps.OwnSet
import Derived.Lib.IndexAny
import Derived.Sort.QuietThIn
import Derived.Sort.QuietTacIn
import Derived.Sort.BigQuietIn
namespace Go.Proofs.Ytlamppplnojpbaa
open Go.RowKit Go.Shelf
attribute [local go_sem] Oper.semAt_some
set_option maxRecDepth 100000 in
set_option maxHeartbeats 1000000 in
theorem after2_0_1l (n p0 p1 p2 p3 f0 f1 f2 f3 : Int) (hf : 0 ≤ f0 ∧ f0 ≤ 1000) (ht : 0 ≤ f1 ∧ f1 ≤ p1) (hp : p1 ≤ 1000) (hmin : f0 ≤ p1 - f1) (w : World) :
    Calls Try.prog 54 #[.agg #[.int .i64 n, .int .i64 p0, .int .i64 p1, .int .i64 p2, .int .i64 p3], .agg #[.int .i64 f0, .int .i64 f1, .int .i64 f2, .int .i64 f3], .agg #[.int .i64 0, .int .i64 1]] w fun e w' => e = .returned (aggI (afterF [p0, p1, p2, p3] [f0, f1, f2, f3] 0 1)) ∧ Below w.heap.size w w' := by
  obtain ⟨V, hV, rJ, rF, rS, rR, hb, hsz⟩ := after_start w [.int .i64 n, .int .i64 p0, .int .i64 p1, .int .i64 p2, .int .i64 p3] [.int .i64 f0, .int .i64 f1, .int .i64 f2, .int .i64 f3] [.int .i64 0, .int .i64 1] [.int .i64 0, .int .i64 0, .int .i64 0, .int .i64 0]
  have e1 : IntKind.i64.wrap (p1 - f1) = p1 - f1 := i64_of _ (by omega) (by omega)
  have e2 : IntKind.i64.wrap (f0 - f0) = f0 - f0 := i64_of _ (by omega) (by omega)
  have e3 : IntKind.i64.wrap (f1 + f0) = f1 + f0 := i64_of _ (by omega) (by omega)
  have hm : min f0 (p1 - f1) = f0 := by omega
  have FIN : Hid (aggI (afterF [p0, p1, p2, p3] [f0, f1, f2, f3] 0 1) = .agg #[.int .i64 0, .int .i64 (f1 + f0), .int .i64 f2, .int .i64 f3]) := Lib.hid (by simp [afterF, aggI, encI, hm])
  rw [FIN.out]
  have HV := Lib.hid hV
  have RJ := Lib.hid rJ
  have RF := Lib.hid rF
  have RR := Lib.hid rR
  have B0 := Lib.hid hb
  have s0 := rS.cell 0
  have s1 := rS.cell 1
  simp only [List.getElem?_cons_zero, List.getElem?_cons_succ] at s0 s1
  have u0 := Kl.cell rS.lt s0
  have u1 := Kl.cell rS.lt s1
  clear hV rJ rF rS rR hb hsz s0 s1
  go_enter Try.func54, Try.ntmps54
  go_wp2_with fail
  rw [← HV.out]
  refine wp_region_below (by kernel_rfl) (by kernel_rfl) ?_
  repeat (go_big_quiet_step (fail))
  refine wpQuiet_nil ?_
  rintro _ ⟨wq, rfl⟩
  have BQ := Lib.hid wq.h
  generalize wq.W = w2 at *
  clear u0 u1
  have q1 := (RF.out.below BQ.out RF.out.lt).cell 0
  have q2 := (RF.out.below BQ.out RF.out.lt).cell 1
  have q3 := (RJ.out.below BQ.out RJ.out.lt).cell 2
  simp only [List.getElem?_cons_zero, List.getElem?_cons_succ] at q1 q2 q3
  have u0 := Kl.cell (RF.out.below BQ.out RF.out.lt).lt q1
  have u1 := Kl.cell (RF.out.below BQ.out RF.out.lt).lt q2
  have u2 := Kl.cell (RJ.out.below BQ.out RJ.out.lt).lt q3
  clear q1 q2 q3
  go_wp2_with fail
  refine wp_region_below (by kernel_rfl) (by kernel_rfl) ?_
  repeat (go_big_quiet_step (fail))
  refine wpQuiet_nil ?_
  rintro _ ⟨wq, rfl⟩
  have BQ := Lib.hid (Below.andThen BQ.out wq.h (by have := BQ.out.size; have := RR.out.lt; omega))
  generalize wq.W = w2 at *
  clear u0 u1 u2
  have rJ := RJ.out.below BQ.out RJ.out.lt
  have rF := RF.out.below BQ.out RF.out.lt
  have rR := RR.out.below BQ.out RR.out.lt
  have RF2 := Lib.hid rF
  have RR2 := Lib.hid rR
  have j1 := rJ.cell 1
  have j2 := rJ.cell 2
  have j3 := rJ.cell 3
  have j4 := rJ.cell 4
  have c0 := rF.cell 0
  have c1 := rF.cell 1
  have c2 := rF.cell 2
  have c3 := rF.cell 3
  have z0 := rR.cell 0
  have z1 := rR.cell 1
  have z2 := rR.cell 2
  have z3 := rR.cell 3
  have k0 := frozen_of_row _ (w.heap.size + 1) 0 _ _ rF
  have k1 := frozen_of_row _ (w.heap.size + 1) 1 _ _ rF
  have k2 := frozen_of_row _ (w.heap.size + 1) 2 _ _ rF
  have k3 := frozen_of_row _ (w.heap.size + 1) 3 _ _ rF
  have l0 := frozen_of_row _ (w.heap.size + 1 + 1 + 1) 0 _ _ rR
  have l1 := frozen_of_row _ (w.heap.size + 1 + 1 + 1) 1 _ _ rR
  have l2 := frozen_of_row _ (w.heap.size + 1 + 1 + 1) 2 _ _ rR
  have l3 := frozen_of_row _ (w.heap.size + 1 + 1 + 1) 3 _ _ rR
  simp only [List.getElem?_cons_zero, List.getElem?_cons_succ] at j1 j2 j3 j4 c0 c1 c2 c3 z0 z1 z2 z3
  clear rJ rF rR
  go_wp2_with fail
  all_goals first | (exfalso; omega) | skip
  have hr : Row ((((((w2.setCell ⟨w.heap.size + 1, 0, none⟩ (.int .i64 0)).setCell ⟨w.heap.size + 1, 1, none⟩ (.int .i64 (f1 + f0))).setCell ⟨w.heap.size + 1 + 1 + 1, 0, none⟩ (.int .i64 0)).setCell ⟨w.heap.size + 1 + 1 + 1, 1, none⟩ (.int .i64 (f1 + f0))).setCell ⟨w.heap.size + 1 + 1 + 1, 2, none⟩ (.int .i64 f2)).setCell ⟨w.heap.size + 1 + 1 + 1, 3, none⟩ (.int .i64 f3)) (w.heap.size + 1 + 1 + 1) 77 [.int .i64 0, .int .i64 (f1 + f0), .int .i64 f2, .int .i64 f3] := by
    simpa using ((((((RR2.out.other (0) (.int .i64 0) (g' := w.heap.size + 1) (by omega)).other (1) (.int .i64 (f1 + f0)) (g' := w.heap.size + 1) (by omega)).set 0 (.int .i64 0)).set 1 (.int .i64 (f1 + f0))).set 2 (.int .i64 f2)).set 3 (.int .i64 f3))
  have v0 := hr.cell 0
  have v1 := hr.cell 1
  have v2 := hr.cell 2
  have v3 := hr.cell 3
  simp only [List.getElem?_cons_zero, List.getElem?_cons_succ] at v0 v1 v2 v3
  refine bodyPost_ret (v := .agg #[.int .i64 0, .int .i64 (f1 + f0), .int .i64 f2, .int .i64 f3]) (by simp [results, Try.results54, go_sem, v0, v1, v2, v3]) rfl ⟨rfl, ?_⟩
  exact (((((((Below.andThen B0.out BQ.out (Nat.le_refl _)).setCell (p := ⟨w.heap.size + 1, 0, none⟩) (by dsimp only; omega) (.int .i64 0)).setCell (p := ⟨w.heap.size + 1, 1, none⟩) (by dsimp only; omega) (.int .i64 (f1 + f0))).setCell (p := ⟨w.heap.size + 1 + 1 + 1, 0, none⟩) (by dsimp only; omega) (.int .i64 0)).setCell (p := ⟨w.heap.size + 1 + 1 + 1, 1, none⟩) (by dsimp only; omega) (.int .i64 (f1 + f0))).setCell (p := ⟨w.heap.size + 1 + 1 + 1, 2, none⟩) (by dsimp only; omega) (.int .i64 f2)).setCell (p := ⟨w.heap.size + 1 + 1 + 1, 3, none⟩) (by dsimp only; omega) (.int .i64 f3))
set_option maxRecDepth 100000 in
set_option maxHeartbeats 1000000 in
theorem after2_0_1h (n p0 p1 p2 p3 f0 f1 f2 f3 : Int) (hf : 0 ≤ f0 ∧ f0 ≤ 1000) (ht : 0 ≤ f1 ∧ f1 ≤ p1) (hp : p1 ≤ 1000) (hmin : p1 - f1 < f0) (w : World) :
    Calls Try.prog 54 #[.agg #[.int .i64 n, .int .i64 p0, .int .i64 p1, .int .i64 p2, .int .i64 p3], .agg #[.int .i64 f0, .int .i64 f1, .int .i64 f2, .int .i64 f3], .agg #[.int .i64 0, .int .i64 1]] w fun e w' => e = .returned (aggI (afterF [p0, p1, p2, p3] [f0, f1, f2, f3] 0 1)) ∧ Below w.heap.size w w' := by
  obtain ⟨V, hV, rJ, rF, rS, rR, hb, hsz⟩ := after_start w [.int .i64 n, .int .i64 p0, .int .i64 p1, .int .i64 p2, .int .i64 p3] [.int .i64 f0, .int .i64 f1, .int .i64 f2, .int .i64 f3] [.int .i64 0, .int .i64 1] [.int .i64 0, .int .i64 0, .int .i64 0, .int .i64 0]
  have e1 : IntKind.i64.wrap (p1 - f1) = p1 - f1 := i64_of _ (by omega) (by omega)
  have e2 : IntKind.i64.wrap (f0 - (p1 - f1)) = f0 - (p1 - f1) := i64_of _ (by omega) (by omega)
  have e3 : IntKind.i64.wrap (f1 + (p1 - f1)) = f1 + (p1 - f1) := i64_of _ (by omega) (by omega)
  have hm : min f0 (p1 - f1) = (p1 - f1) := by omega
  have FIN : Hid (aggI (afterF [p0, p1, p2, p3] [f0, f1, f2, f3] 0 1) = .agg #[.int .i64 (f0 - (p1 - f1)), .int .i64 (f1 + (p1 - f1)), .int .i64 f2, .int .i64 f3]) := Lib.hid (by simp [afterF, aggI, encI, hm])
  rw [FIN.out]
  have HV := Lib.hid hV
  have RJ := Lib.hid rJ
  have RF := Lib.hid rF
  have RR := Lib.hid rR
  have B0 := Lib.hid hb
  have s0 := rS.cell 0
  have s1 := rS.cell 1
  simp only [List.getElem?_cons_zero, List.getElem?_cons_succ] at s0 s1
  have u0 := Kl.cell rS.lt s0
  have u1 := Kl.cell rS.lt s1
  clear hV rJ rF rS rR hb hsz s0 s1
  go_enter Try.func54, Try.ntmps54
  go_wp2_with fail
  rw [← HV.out]
  refine wp_region_below (by kernel_rfl) (by kernel_rfl) ?_
  repeat (go_big_quiet_step (fail))
  refine wpQuiet_nil ?_
  rintro _ ⟨wq, rfl⟩
  have BQ := Lib.hid wq.h
  generalize wq.W = w2 at *
  clear u0 u1
  have q1 := (RF.out.below BQ.out RF.out.lt).cell 0
  have q2 := (RF.out.below BQ.out RF.out.lt).cell 1
  have q3 := (RJ.out.below BQ.out RJ.out.lt).cell 2
  simp only [List.getElem?_cons_zero, List.getElem?_cons_succ] at q1 q2 q3
  have u0 := Kl.cell (RF.out.below BQ.out RF.out.lt).lt q1
  have u1 := Kl.cell (RF.out.below BQ.out RF.out.lt).lt q2
  have u2 := Kl.cell (RJ.out.below BQ.out RJ.out.lt).lt q3
  clear q1 q2 q3
  go_wp2_with fail
  refine wp_region_below (by kernel_rfl) (by kernel_rfl) ?_
  repeat (go_big_quiet_step (fail))
  refine wpQuiet_nil ?_
  rintro _ ⟨wq, rfl⟩
  have BQ := Lib.hid (Below.andThen BQ.out wq.h (by have := BQ.out.size; have := RR.out.lt; omega))
  generalize wq.W = w2 at *
  clear u0 u1 u2
  have rJ := RJ.out.below BQ.out RJ.out.lt
  have rF := RF.out.below BQ.out RF.out.lt
  have rR := RR.out.below BQ.out RR.out.lt
  have RF2 := Lib.hid rF
  have RR2 := Lib.hid rR
  have j1 := rJ.cell 1
  have j2 := rJ.cell 2
  have j3 := rJ.cell 3
  have j4 := rJ.cell 4
  have c0 := rF.cell 0
  have c1 := rF.cell 1
  have c2 := rF.cell 2
  have c3 := rF.cell 3
  have z0 := rR.cell 0
  have z1 := rR.cell 1
  have z2 := rR.cell 2
  have z3 := rR.cell 3
  have k0 := frozen_of_row _ (w.heap.size + 1) 0 _ _ rF
  have k1 := frozen_of_row _ (w.heap.size + 1) 1 _ _ rF
  have k2 := frozen_of_row _ (w.heap.size + 1) 2 _ _ rF
  have k3 := frozen_of_row _ (w.heap.size + 1) 3 _ _ rF
  have l0 := frozen_of_row _ (w.heap.size + 1 + 1 + 1) 0 _ _ rR
  have l1 := frozen_of_row _ (w.heap.size + 1 + 1 + 1) 1 _ _ rR
  have l2 := frozen_of_row _ (w.heap.size + 1 + 1 + 1) 2 _ _ rR
  have l3 := frozen_of_row _ (w.heap.size + 1 + 1 + 1) 3 _ _ rR
  simp only [List.getElem?_cons_zero, List.getElem?_cons_succ] at j1 j2 j3 j4 c0 c1 c2 c3 z0 z1 z2 z3
  clear rJ rF rR
  go_wp2_with fail
  all_goals first | (exfalso; omega) | skip
  have hr : Row ((((((w2.setCell ⟨w.heap.size + 1, 0, none⟩ (.int .i64 (f0 - (p1 - f1)))).setCell ⟨w.heap.size + 1, 1, none⟩ (.int .i64 (f1 + (p1 - f1)))).setCell ⟨w.heap.size + 1 + 1 + 1, 0, none⟩ (.int .i64 (f0 - (p1 - f1)))).setCell ⟨w.heap.size + 1 + 1 + 1, 1, none⟩ (.int .i64 (f1 + (p1 - f1)))).setCell ⟨w.heap.size + 1 + 1 + 1, 2, none⟩ (.int .i64 f2)).setCell ⟨w.heap.size + 1 + 1 + 1, 3, none⟩ (.int .i64 f3)) (w.heap.size + 1 + 1 + 1) 77 [.int .i64 (f0 - (p1 - f1)), .int .i64 (f1 + (p1 - f1)), .int .i64 f2, .int .i64 f3] := by
    simpa using ((((((RR2.out.other (0) (.int .i64 (f0 - (p1 - f1))) (g' := w.heap.size + 1) (by omega)).other (1) (.int .i64 (f1 + (p1 - f1))) (g' := w.heap.size + 1) (by omega)).set 0 (.int .i64 (f0 - (p1 - f1)))).set 1 (.int .i64 (f1 + (p1 - f1)))).set 2 (.int .i64 f2)).set 3 (.int .i64 f3))
  have v0 := hr.cell 0
  have v1 := hr.cell 1
  have v2 := hr.cell 2
  have v3 := hr.cell 3
  simp only [List.getElem?_cons_zero, List.getElem?_cons_succ] at v0 v1 v2 v3
  refine bodyPost_ret (v := .agg #[.int .i64 (f0 - (p1 - f1)), .int .i64 (f1 + (p1 - f1)), .int .i64 f2, .int .i64 f3]) (by simp [results, Try.results54, go_sem, v0, v1, v2, v3]) rfl ⟨rfl, ?_⟩
  exact (((((((Below.andThen B0.out BQ.out (Nat.le_refl _)).setCell (p := ⟨w.heap.size + 1, 0, none⟩) (by dsimp only; omega) (.int .i64 (f0 - (p1 - f1)))).setCell (p := ⟨w.heap.size + 1, 1, none⟩) (by dsimp only; omega) (.int .i64 (f1 + (p1 - f1)))).setCell (p := ⟨w.heap.size + 1 + 1 + 1, 0, none⟩) (by dsimp only; omega) (.int .i64 (f0 - (p1 - f1)))).setCell (p := ⟨w.heap.size + 1 + 1 + 1, 1, none⟩) (by dsimp only; omega) (.int .i64 (f1 + (p1 - f1)))).setCell (p := ⟨w.heap.size + 1 + 1 + 1, 2, none⟩) (by dsimp only; omega) (.int .i64 f2)).setCell (p := ⟨w.heap.size + 1 + 1 + 1, 3, none⟩) (by dsimp only; omega) (.int .i64 f3))
set_option maxRecDepth 100000 in
set_option maxHeartbeats 1000000 in
theorem after2_1_0l (n p0 p1 p2 p3 f0 f1 f2 f3 : Int) (hf : 0 ≤ f1 ∧ f1 ≤ 1000) (ht : 0 ≤ f0 ∧ f0 ≤ p0) (hp : p0 ≤ 1000) (hmin : f1 ≤ p0 - f0) (w : World) :
    Calls Try.prog 54 #[.agg #[.int .i64 n, .int .i64 p0, .int .i64 p1, .int .i64 p2, .int .i64 p3], .agg #[.int .i64 f0, .int .i64 f1, .int .i64 f2, .int .i64 f3], .agg #[.int .i64 1, .int .i64 0]] w fun e w' => e = .returned (aggI (afterF [p0, p1, p2, p3] [f0, f1, f2, f3] 1 0)) ∧ Below w.heap.size w w' := by
  obtain ⟨V, hV, rJ, rF, rS, rR, hb, hsz⟩ := after_start w [.int .i64 n, .int .i64 p0, .int .i64 p1, .int .i64 p2, .int .i64 p3] [.int .i64 f0, .int .i64 f1, .int .i64 f2, .int .i64 f3] [.int .i64 1, .int .i64 0] [.int .i64 0, .int .i64 0, .int .i64 0, .int .i64 0]
  have e1 : IntKind.i64.wrap (p0 - f0) = p0 - f0 := i64_of _ (by omega) (by omega)
  have e2 : IntKind.i64.wrap (f1 - f1) = f1 - f1 := i64_of _ (by omega) (by omega)
  have e3 : IntKind.i64.wrap (f0 + f1) = f0 + f1 := i64_of _ (by omega) (by omega)
  have hm : min f1 (p0 - f0) = f1 := by omega
  have FIN : Hid (aggI (afterF [p0, p1, p2, p3] [f0, f1, f2, f3] 1 0) = .agg #[.int .i64 (f0 + f1), .int .i64 0, .int .i64 f2, .int .i64 f3]) := Lib.hid (by simp [afterF, aggI, encI, hm])
  rw [FIN.out]
  have HV := Lib.hid hV
  have RJ := Lib.hid rJ
  have RF := Lib.hid rF
  have RR := Lib.hid rR
  have B0 := Lib.hid hb
  have s0 := rS.cell 0
  have s1 := rS.cell 1
  simp only [List.getElem?_cons_zero, List.getElem?_cons_succ] at s0 s1
  have u0 := Kl.cell rS.lt s0
  have u1 := Kl.cell rS.lt s1
  clear hV rJ rF rS rR hb hsz s0 s1
  go_enter Try.func54, Try.ntmps54
  go_wp2_with fail
  rw [← HV.out]
  refine wp_region_below (by kernel_rfl) (by kernel_rfl) ?_
  repeat (go_big_quiet_step (fail))
  refine wpQuiet_nil ?_
  rintro _ ⟨wq, rfl⟩
  have BQ := Lib.hid wq.h
  generalize wq.W = w2 at *
  clear u0 u1
  have q1 := (RF.out.below BQ.out RF.out.lt).cell 1
  have q2 := (RF.out.below BQ.out RF.out.lt).cell 0
  have q3 := (RJ.out.below BQ.out RJ.out.lt).cell 1
  simp only [List.getElem?_cons_zero, List.getElem?_cons_succ] at q1 q2 q3
  have u0 := Kl.cell (RF.out.below BQ.out RF.out.lt).lt q1
  have u1 := Kl.cell (RF.out.below BQ.out RF.out.lt).lt q2
  have u2 := Kl.cell (RJ.out.below BQ.out RJ.out.lt).lt q3
  clear q1 q2 q3
  go_wp2_with fail
  refine wp_region_below (by kernel_rfl) (by kernel_rfl) ?_
  repeat (go_big_quiet_step (fail))
  refine wpQuiet_nil ?_
  rintro _ ⟨wq, rfl⟩
  have BQ := Lib.hid (Below.andThen BQ.out wq.h (by have := BQ.out.size; have := RR.out.lt; omega))
  generalize wq.W = w2 at *
  clear u0 u1 u2
  have rJ := RJ.out.below BQ.out RJ.out.lt
  have rF := RF.out.below BQ.out RF.out.lt
  have rR := RR.out.below BQ.out RR.out.lt
  have RF2 := Lib.hid rF
  have RR2 := Lib.hid rR
  have j1 := rJ.cell 1
  have j2 := rJ.cell 2
  have j3 := rJ.cell 3
  have j4 := rJ.cell 4
  have c0 := rF.cell 0
  have c1 := rF.cell 1
  have c2 := rF.cell 2
  have c3 := rF.cell 3
  have z0 := rR.cell 0
  have z1 := rR.cell 1
  have z2 := rR.cell 2
  have z3 := rR.cell 3
  have k0 := frozen_of_row _ (w.heap.size + 1) 0 _ _ rF
  have k1 := frozen_of_row _ (w.heap.size + 1) 1 _ _ rF
  have k2 := frozen_of_row _ (w.heap.size + 1) 2 _ _ rF
  have k3 := frozen_of_row _ (w.heap.size + 1) 3 _ _ rF
  have l0 := frozen_of_row _ (w.heap.size + 1 + 1 + 1) 0 _ _ rR
  have l1 := frozen_of_row _ (w.heap.size + 1 + 1 + 1) 1 _ _ rR
  have l2 := frozen_of_row _ (w.heap.size + 1 + 1 + 1) 2 _ _ rR
  have l3 := frozen_of_row _ (w.heap.size + 1 + 1 + 1) 3 _ _ rR
  simp only [List.getElem?_cons_zero, List.getElem?_cons_succ] at j1 j2 j3 j4 c0 c1 c2 c3 z0 z1 z2 z3
  clear rJ rF rR
  go_wp2_with fail
  all_goals first | (exfalso; omega) | skip
  have hr : Row ((((((w2.setCell ⟨w.heap.size + 1, 1, none⟩ (.int .i64 0)).setCell ⟨w.heap.size + 1, 0, none⟩ (.int .i64 (f0 + f1))).setCell ⟨w.heap.size + 1 + 1 + 1, 0, none⟩ (.int .i64 (f0 + f1))).setCell ⟨w.heap.size + 1 + 1 + 1, 1, none⟩ (.int .i64 0)).setCell ⟨w.heap.size + 1 + 1 + 1, 2, none⟩ (.int .i64 f2)).setCell ⟨w.heap.size + 1 + 1 + 1, 3, none⟩ (.int .i64 f3)) (w.heap.size + 1 + 1 + 1) 77 [.int .i64 (f0 + f1), .int .i64 0, .int .i64 f2, .int .i64 f3] := by
    simpa using ((((((RR2.out.other (1) (.int .i64 0) (g' := w.heap.size + 1) (by omega)).other (0) (.int .i64 (f0 + f1)) (g' := w.heap.size + 1) (by omega)).set 0 (.int .i64 (f0 + f1))).set 1 (.int .i64 0)).set 2 (.int .i64 f2)).set 3 (.int .i64 f3))
  have v0 := hr.cell 0
  have v1 := hr.cell 1
  have v2 := hr.cell 2
  have v3 := hr.cell 3
  simp only [List.getElem?_cons_zero, List.getElem?_cons_succ] at v0 v1 v2 v3
  refine bodyPost_ret (v := .agg #[.int .i64 (f0 + f1), .int .i64 0, .int .i64 f2, .int .i64 f3]) (by simp [results, Try.results54, go_sem, v0, v1, v2, v3]) rfl ⟨rfl, ?_⟩
  exact (((((((Below.andThen B0.out BQ.out (Nat.le_refl _)).setCell (p := ⟨w.heap.size + 1, 1, none⟩) (by dsimp only; omega) (.int .i64 0)).setCell (p := ⟨w.heap.size + 1, 0, none⟩) (by dsimp only; omega) (.int .i64 (f0 + f1))).setCell (p := ⟨w.heap.size + 1 + 1 + 1, 0, none⟩) (by dsimp only; omega) (.int .i64 (f0 + f1))).setCell (p := ⟨w.heap.size + 1 + 1 + 1, 1, none⟩) (by dsimp only; omega) (.int .i64 0)).setCell (p := ⟨w.heap.size + 1 + 1 + 1, 2, none⟩) (by dsimp only; omega) (.int .i64 f2)).setCell (p := ⟨w.heap.size + 1 + 1 + 1, 3, none⟩) (by dsimp only; omega) (.int .i64 f3))
set_option maxRecDepth 100000 in
set_option maxHeartbeats 1000000 in
theorem after2_1_0h (n p0 p1 p2 p3 f0 f1 f2 f3 : Int) (hf : 0 ≤ f1 ∧ f1 ≤ 1000) (ht : 0 ≤ f0 ∧ f0 ≤ p0) (hp : p0 ≤ 1000) (hmin : p0 - f0 < f1) (w : World) :
    Calls Try.prog 54 #[.agg #[.int .i64 n, .int .i64 p0, .int .i64 p1, .int .i64 p2, .int .i64 p3], .agg #[.int .i64 f0, .int .i64 f1, .int .i64 f2, .int .i64 f3], .agg #[.int .i64 1, .int .i64 0]] w fun e w' => e = .returned (aggI (afterF [p0, p1, p2, p3] [f0, f1, f2, f3] 1 0)) ∧ Below w.heap.size w w' := by
  obtain ⟨V, hV, rJ, rF, rS, rR, hb, hsz⟩ := after_start w [.int .i64 n, .int .i64 p0, .int .i64 p1, .int .i64 p2, .int .i64 p3] [.int .i64 f0, .int .i64 f1, .int .i64 f2, .int .i64 f3] [.int .i64 1, .int .i64 0] [.int .i64 0, .int .i64 0, .int .i64 0, .int .i64 0]
  have e1 : IntKind.i64.wrap (p0 - f0) = p0 - f0 := i64_of _ (by omega) (by omega)
  have e2 : IntKind.i64.wrap (f1 - (p0 - f0)) = f1 - (p0 - f0) := i64_of _ (by omega) (by omega)
  have e3 : IntKind.i64.wrap (f0 + (p0 - f0)) = f0 + (p0 - f0) := i64_of _ (by omega) (by omega)
  have hm : min f1 (p0 - f0) = (p0 - f0) := by omega
  have FIN : Hid (aggI (afterF [p0, p1, p2, p3] [f0, f1, f2, f3] 1 0) = .agg #[.int .i64 (f0 + (p0 - f0)), .int .i64 (f1 - (p0 - f0)), .int .i64 f2, .int .i64 f3]) := Lib.hid (by simp [afterF, aggI, encI, hm])
  rw [FIN.out]
  have HV := Lib.hid hV
  have RJ := Lib.hid rJ
  have RF := Lib.hid rF
  have RR := Lib.hid rR
  have B0 := Lib.hid hb
  have s0 := rS.cell 0
  have s1 := rS.cell 1
  simp only [List.getElem?_cons_zero, List.getElem?_cons_succ] at s0 s1
  have u0 := Kl.cell rS.lt s0
  have u1 := Kl.cell rS.lt s1
  clear hV rJ rF rS rR hb hsz s0 s1
  go_enter Try.func54, Try.ntmps54
  go_wp2_with fail
  rw [← HV.out]
  refine wp_region_below (by kernel_rfl) (by kernel_rfl) ?_
  repeat (go_big_quiet_step (fail))
  refine wpQuiet_nil ?_
  rintro _ ⟨wq, rfl⟩
  have BQ := Lib.hid wq.h
  generalize wq.W = w2 at *
  clear u0 u1
  have q1 := (RF.out.below BQ.out RF.out.lt).cell 1
  have q2 := (RF.out.below BQ.out RF.out.lt).cell 0
  have q3 := (RJ.out.below BQ.out RJ.out.lt).cell 1
  simp only [List.getElem?_cons_zero, List.getElem?_cons_succ] at q1 q2 q3
  have u0 := Kl.cell (RF.out.below BQ.out RF.out.lt).lt q1
  have u1 := Kl.cell (RF.out.below BQ.out RF.out.lt).lt q2
  have u2 := Kl.cell (RJ.out.below BQ.out RJ.out.lt).lt q3
  clear q1 q2 q3
  go_wp2_with fail
  refine wp_region_below (by kernel_rfl) (by kernel_rfl) ?_
  repeat (go_big_quiet_step (fail))
  refine wpQuiet_nil ?_
  rintro _ ⟨wq, rfl⟩
  have BQ := Lib.hid (Below.andThen BQ.out wq.h (by have := BQ.out.size; have := RR.out.lt; omega))
  generalize wq.W = w2 at *
  clear u0 u1 u2
  have rJ := RJ.out.below BQ.out RJ.out.lt
  have rF := RF.out.below BQ.out RF.out.lt
  have rR := RR.out.below BQ.out RR.out.lt
  have RF2 := Lib.hid rF
  have RR2 := Lib.hid rR
  have j1 := rJ.cell 1
  have j2 := rJ.cell 2
  have j3 := rJ.cell 3
  have j4 := rJ.cell 4
  have c0 := rF.cell 0
  have c1 := rF.cell 1
  have c2 := rF.cell 2
  have c3 := rF.cell 3
  have z0 := rR.cell 0
  have z1 := rR.cell 1
  have z2 := rR.cell 2
  have z3 := rR.cell 3
  have k0 := frozen_of_row _ (w.heap.size + 1) 0 _ _ rF
  have k1 := frozen_of_row _ (w.heap.size + 1) 1 _ _ rF
  have k2 := frozen_of_row _ (w.heap.size + 1) 2 _ _ rF
  have k3 := frozen_of_row _ (w.heap.size + 1) 3 _ _ rF
  have l0 := frozen_of_row _ (w.heap.size + 1 + 1 + 1) 0 _ _ rR
  have l1 := frozen_of_row _ (w.heap.size + 1 + 1 + 1) 1 _ _ rR
  have l2 := frozen_of_row _ (w.heap.size + 1 + 1 + 1) 2 _ _ rR
  have l3 := frozen_of_row _ (w.heap.size + 1 + 1 + 1) 3 _ _ rR
  simp only [List.getElem?_cons_zero, List.getElem?_cons_succ] at j1 j2 j3 j4 c0 c1 c2 c3 z0 z1 z2 z3
  clear rJ rF rR
  go_wp2_with fail
  all_goals first | (exfalso; omega) | skip
  have hr : Row ((((((w2.setCell ⟨w.heap.size + 1, 1, none⟩ (.int .i64 (f1 - (p0 - f0)))).setCell ⟨w.heap.size + 1, 0, none⟩ (.int .i64 (f0 + (p0 - f0)))).setCell ⟨w.heap.size + 1 + 1 + 1, 0, none⟩ (.int .i64 (f0 + (p0 - f0)))).setCell ⟨w.heap.size + 1 + 1 + 1, 1, none⟩ (.int .i64 (f1 - (p0 - f0)))).setCell ⟨w.heap.size + 1 + 1 + 1, 2, none⟩ (.int .i64 f2)).setCell ⟨w.heap.size + 1 + 1 + 1, 3, none⟩ (.int .i64 f3)) (w.heap.size + 1 + 1 + 1) 77 [.int .i64 (f0 + (p0 - f0)), .int .i64 (f1 - (p0 - f0)), .int .i64 f2, .int .i64 f3] := by
    simpa using ((((((RR2.out.other (1) (.int .i64 (f1 - (p0 - f0))) (g' := w.heap.size + 1) (by omega)).other (0) (.int .i64 (f0 + (p0 - f0))) (g' := w.heap.size + 1) (by omega)).set 0 (.int .i64 (f0 + (p0 - f0)))).set 1 (.int .i64 (f1 - (p0 - f0)))).set 2 (.int .i64 f2)).set 3 (.int .i64 f3))
  have v0 := hr.cell 0
  have v1 := hr.cell 1
  have v2 := hr.cell 2
  have v3 := hr.cell 3
  simp only [List.getElem?_cons_zero, List.getElem?_cons_succ] at v0 v1 v2 v3
  refine bodyPost_ret (v := .agg #[.int .i64 (f0 + (p0 - f0)), .int .i64 (f1 - (p0 - f0)), .int .i64 f2, .int .i64 f3]) (by simp [results, Try.results54, go_sem, v0, v1, v2, v3]) rfl ⟨rfl, ?_⟩
  exact (((((((Below.andThen B0.out BQ.out (Nat.le_refl _)).setCell (p := ⟨w.heap.size + 1, 1, none⟩) (by dsimp only; omega) (.int .i64 (f1 - (p0 - f0)))).setCell (p := ⟨w.heap.size + 1, 0, none⟩) (by dsimp only; omega) (.int .i64 (f0 + (p0 - f0)))).setCell (p := ⟨w.heap.size + 1 + 1 + 1, 0, none⟩) (by dsimp only; omega) (.int .i64 (f0 + (p0 - f0)))).setCell (p := ⟨w.heap.size + 1 + 1 + 1, 1, none⟩) (by dsimp only; omega) (.int .i64 (f1 - (p0 - f0)))).setCell (p := ⟨w.heap.size + 1 + 1 + 1, 2, none⟩) (by dsimp only; omega) (.int .i64 f2)).setCell (p := ⟨w.heap.size + 1 + 1 + 1, 3, none⟩) (by dsimp only; omega) (.int .i64 f3))
/-- a step of two jugs of up to 1000 -/
theorem after_two (n p0 p1 f0 f1 : Int) (h0 : 0 ≤ f0 ∧ f0 ≤ p0 ∧ p0 ≤ 1000) (h1 : 0 ≤ f1 ∧ f1 ≤ p1 ∧ p1 ≤ 1000) (f t : Int) (hf : f = -1 ∨ f = 0 ∨ f = 1) (ht : t = -1 ∨ t = 0 ∨ t = 1) (hne : f ≠ t) (w : World) :
    Calls Try.prog 54 #[.agg #[.int .i64 n, .int .i64 p0, .int .i64 p1, .int .i64 0, .int .i64 0], .agg #[.int .i64 f0, .int .i64 f1, .int .i64 0, .int .i64 0], .agg #[.int .i64 f, .int .i64 t]] w fun e w' => e = .returned (aggI (afterF [p0, p1, 0, 0] [f0, f1, 0, 0] f t)) ∧ Below w.heap.size w w' := by
  rcases hf with rfl | rfl | rfl <;> rcases ht with rfl | rfl | rfl
  · exact absurd rfl hne
  · exact after_s_0 n p0 p1 0 0 f0 f1 0 0 w
  · exact after_s_1 n p0 p1 0 0 f0 f1 0 0 w
  · exact after_0_s n p0 p1 0 0 f0 f1 0 0 w
  · exact absurd rfl hne
  · rcases Int.lt_or_le (p1 - f1) f0 with h | h
    · exact after2_0_1h n p0 p1 0 0 f0 f1 0 0 ⟨h0.1, by omega⟩ ⟨h1.1, h1.2.1⟩ h1.2.2 h w
    · exact after2_0_1l n p0 p1 0 0 f0 f1 0 0 ⟨h0.1, by omega⟩ ⟨h1.1, h1.2.1⟩ h1.2.2 h w
  · exact after_1_s n p0 p1 0 0 f0 f1 0 0 w
  · rcases Int.lt_or_le (p0 - f0) f1 with h | h
    · exact after2_1_0h n p0 p1 0 0 f0 f1 0 0 ⟨h1.1, by omega⟩ ⟨h0.1, h0.2.1⟩ h0.2.2 h w
    · exact after2_1_0l n p0 p1 0 0 f0 f1 0 0 ⟨h1.1, by omega⟩ ⟨h0.1, h0.2.1⟩ h0.2.2 h w
  · exact absurd rfl hne
end Go.Proofs.Ytlamppplnojpbaa
namespace Go.Proofs.Ytlamppplnojpbaa
open Go.RowKit Go.Shelf
attribute [local go_sem] Oper.semAt_some
theorem len9 {vs : List Value} (h : vs.length = 9) : ∃ x0 x1 x2 x3 x4 x5 x6 x7 x8, vs = [x0, x1, x2, x3, x4, x5, x6, x7, x8] := by
  obtain ⟨x0, r0, rfl, h0⟩ := len_cons h
  obtain ⟨x1, r1, rfl, h1⟩ := len_cons h0
  obtain ⟨x2, r2, rfl, h2⟩ := len_cons h1
  obtain ⟨x3, r3, rfl, h3⟩ := len_cons h2
  obtain ⟨x4, r4, rfl, h4⟩ := len_cons h3
  obtain ⟨x5, r5, rfl, h5⟩ := len_cons h4
  obtain ⟨x6, r6, rfl, h6⟩ := len_cons h5
  obtain ⟨x7, r7, rfl, h7⟩ := len_cons h6
  obtain ⟨x8, r8, rfl, h8⟩ := len_cons h7
  obtain rfl := List.eq_nil_of_length_eq_zero h8
  exact ⟨_, _, _, _, _, _, _, _, _, rfl⟩
theorem own_ne3 {W : World} {base n g : Nat} {v : Value} {xs : List Value} {E : TypeId} {vs : List Value} (h : W.ownsRow base 48 2 v n xs) (hr : Row W g E vs) (hE : E ≠ 48) : some g ≠ v.ownBlock := by
  rcases h.2 with ⟨rfl, _⟩ | ⟨g', cap, cur, rfl, _, hh, _⟩
  · intro e; cases e
  · intro e
    have e2 := Option.some.inj e
    dsimp only at e2
    subst e2
    rw [show W.heap[g]? = _ from hr] at hh; cases hh; exact hE rfl
theorem own_ne {W : World} {base n g : Nat} {v : Value} {xs : List Value} (h : W.ownsRow base 48 2 v n xs) (hg : W.heap.size ≤ g) : v.ownBlock = none ∨ v.ownBlock ≠ some g := by
  cases hv : v.ownBlock with
  | none => exact .inl rfl
  | some k => exact .inr (fun e => by have := (h.lt k hv).2; have := Option.some.inj e; omega)
/-- the step of the rule with two jugs -/
def stpF (first : Bool) (a b x y : Int) : Int × Int :=
  if first = true then (if y = b then (1, -1) else if x = 0 then (-1, 0) else (0, 1)) else (if x = a then (0, -1) else if y = 0 then (-1, 1) else (1, 0))
def nxtF (first : Bool) (a b x y : Int) : Int × Int :=
  if first = true then (if y = b then (x, 0) else if x = 0 then (a, y) else (x - min x (b - y), y + min x (b - y))) else (if x = a then (0, y) else if y = 0 then (x, b) else (x + min y (a - x), y - min y (a - x)))
/-- the way round the ring -/
def ringL (first : Bool) (a b amt : Int) : Nat → Int → Int → List (Int × Int) → Option (List (Int × Int) × Bool)
  | 0, _, _, _ => none
  | k + 1, x, y, way => if x = amt ∨ y = amt then some (way, true) else if nxtF first a b x y = (0, 0) then some ([], false) else ringL first a b amt k (nxtF first a b x y).1 (nxtF first a b x y).2 (way ++ [stpF first a b x y])
theorem stp_after (first : Bool) (a b x y : Int) : afterF [a, b, 0, 0] [x, y, 0, 0] (stpF first a b x y).1 (stpF first a b x y).2 = [(nxtF first a b x y).1, (nxtF first a b x y).2, 0, 0] := by
  unfold stpF nxtF
  cases first with
  | true =>
    simp only [if_true]
    by_cases h1 : y = b
    · simp [h1, afterF]
    · by_cases h2 : x = 0
      · simp [h1, h2, afterF]
      · simp [h1, h2, afterF]
  | false =>
    simp only [Bool.false_eq_true, if_false]
    by_cases h1 : x = a
    · simp [h1, afterF]
    · by_cases h2 : y = 0
      · simp [h1, h2, afterF]
      · simp [h1, h2, afterF]
theorem stp_ok (first : Bool) (a b x y : Int) : ((stpF first a b x y).1 = -1 ∨ (stpF first a b x y).1 = 0 ∨ (stpF first a b x y).1 = 1) ∧ ((stpF first a b x y).2 = -1 ∨ (stpF first a b x y).2 = 0 ∨ (stpF first a b x y).2 = 1) ∧ (stpF first a b x y).1 ≠ (stpF first a b x y).2 := by
  unfold stpF
  cases first <;> simp only [if_true, Bool.false_eq_true, if_false] <;> split <;> first | decide | (split <;> decide)
theorem nxt_ok (first : Bool) {a b x y : Int} (ha : 1 ≤ a) (hb : 1 ≤ b) (hx : 0 ≤ x ∧ x ≤ a) (hy : 0 ≤ y ∧ y ≤ b) : (0 ≤ (nxtF first a b x y).1 ∧ (nxtF first a b x y).1 ≤ a) ∧ (0 ≤ (nxtF first a b x y).2 ∧ (nxtF first a b x y).2 ≤ b) := by
  unfold nxtF
  cases first <;> simp only [if_true, Bool.false_eq_true, if_false] <;> split <;> first | (dsimp only; omega) | (split <;> (dsimp only; omega))
theorem holds2 (x y amt : Int) : holdsB 2 [x, y, 0, 0] amt = decide (x = amt ∨ y = amt) := by
  unfold holdsB
  rw [decide_eq_decide]
  simp only [List.take_succ_cons, List.take_zero, List.mem_cons, List.not_mem_nil, or_false]
  constructor
  · rintro (h | h)
    · exact .inl h.symm
    · exact .inr h.symm
  · rintro (h | h)
    · exact .inl h.symm
    · exact .inr h.symm
theorem ringL_hold {first : Bool} {a b amt : Int} {k : Nat} {x y : Int} {way : List (Int × Int)} {res : List (Int × Int) × Bool} (h : ringL first a b amt k x y way = some res) (hh : x = amt ∨ y = amt) : res = (way, true) := by
  cases k with
  | zero => simp [ringL] at h
  | succ k => rw [ringL, if_pos hh] at h; exact (Option.some.inj h).symm
theorem ringL_zero {first : Bool} {a b amt : Int} {k : Nat} {x y : Int} {way : List (Int × Int)} {res : List (Int × Int) × Bool} (h : ringL first a b amt k x y way = some res) (hh : ¬ (x = amt ∨ y = amt)) (hz : nxtF first a b x y = (0, 0)) : res = ([], false) := by
  cases k with
  | zero => simp [ringL] at h
  | succ k => rw [ringL, if_neg hh, if_pos hz] at h; exact (Option.some.inj h).symm
theorem ringL_next {first : Bool} {a b amt : Int} {k : Nat} {x y : Int} {way : List (Int × Int)} {res : List (Int × Int) × Bool} (h : ringL first a b amt k x y way = some res) (hh : ¬ (x = amt ∨ y = amt)) (hz : nxtF first a b x y ≠ (0, 0)) :
    1 ≤ k ∧ ringL first a b amt (k - 1) (nxtF first a b x y).1 (nxtF first a b x y).2 (way ++ [stpF first a b x y]) = some res := by
  cases k with
  | zero => simp [ringL] at h
  | succ k => rw [ringL, if_neg hh, if_neg hz] at h; exact ⟨by omega, h⟩
theorem owns_row_ne {W : World} {base n g : Nat} {v : Value} {xs : List Value} {E : TypeId} {vs : List Value} (h : W.ownsRow base 48 2 v n xs) (hr : Row W g E vs) (hE : E ≠ 48) : v.ownBlock = none ∨ v.ownBlock ≠ some g := by
  rcases h.2 with ⟨rfl, _⟩ | ⟨g', cap, cur, rfl, _, hh, _⟩
  · exact .inl rfl
  · refine .inr (fun e => ?_)
    have e2 := Option.some.inj e
    dsimp only at e2
    subst e2
    rw [show W.heap[g']? = _ from hr] at hh; cases hh; exact hE rfl
theorem jugsOf_two (a b : Int) (w : World) : Calls Try.prog 51 #[.slice (some ⟨w.heap.size, 0, none⟩) 2 2] (w.alloc (.cells #[.int .i64 a, .int .i64 b] 3)) fun e w' => e = .returned (.agg #[.int .i64 2, .int .i64 a, .int .i64 b, .int .i64 0, .int .i64 0]) ∧ Below w.heap.size w w' := by
  have ba := (Below.refl w.heap.size w).alloc (Nat.le_refl _) (.cells #[.int .i64 a, .int .i64 b] 3)
  have r := Row.new w 3 [.int .i64 a, .int .i64 b]
  have hs : SlI (w.alloc (.cells #[.int .i64 a, .int .i64 b] 3)) (.slice (some ⟨w.heap.size, 0, none⟩) 2 2) [a, b] := ⟨_, 2, rfl, Nat.le_refl _, .inr ⟨_, 0, rfl, r.lt, .inr r.lt, fun i hi => by
    match i, hi with
    | 0, _ => exact r.cell 0
    | 1, _ => exact r.cell 1⟩⟩
  have h := jugsOf_any [a, b] _ _ hs (by simp)
  have e : jugV [a, b] = .agg #[.int .i64 2, .int .i64 a, .int .i64 b, .int .i64 0, .int .i64 0] := by simp [jugV, padF, encI, List.replicate]
  rw [e] at h
  exact h.mono fun e w' ⟨h1, h2⟩ => ⟨h1, Below.andThen ba h2 (Nat.le_refl _)⟩
set_option maxRecDepth 100000 in
set_option maxHeartbeats 2000000 in
theorem ring_true (a b amt : Int) (ha : 1 ≤ a ∧ a ≤ 1000) (hb : 1 ≤ b ∧ b ≤ 1000) (k0 : Nat) (hk0 : k0 ≤ 100000) (res : List (Int × Int) × Bool) (hres : ringL true a b amt k0 0 0 [] = some res) (w : World) :
    Calls Try.prog 64 #[.int .i64 a, .int .i64 b, .int .i64 amt, .bool true] w fun e w' => ∃ x, e = .returned x ∧ WayV w.heap.size res.1 res.2 x w' ∧ Below w.heap.size w w' := by
  obtain ⟨i0, hi, hz0, hz1, hz2⟩ := info_parts info48
  have HRES := Lib.hid hres
  have HJ := Lib.hid (jugsOf_two a b w)
  have HA := Lib.hid ha
  have HB := Lib.hid hb
  clear hres ha hb
  go_enter Try.func64, Try.ntmps64
  go_wp2_with fail
  refine HJ.out.mono ?_
  rintro e w1 ⟨rfl, hb⟩
  clear HJ
  have bj := (Below.refl w1.heap.size w1).alloc (Nat.le_refl _) (.cells #[.int .i64 2, .int .i64 a, .int .i64 b, .int .i64 0, .int .i64 0] 80)
  have zj := size_al w1 (.cells #[.int .i64 2, .int .i64 a, .int .i64 b, .int .i64 0, .int .i64 0] 80)
  have rj := Row.new w1 80 [.int .i64 2, .int .i64 a, .int .i64 b, .int .i64 0, .int .i64 0]
  obtain ⟨w2, hw2⟩ : ∃ w2, w1.alloc (.cells #[.int .i64 2, .int .i64 a, .int .i64 b, .int .i64 0, .int .i64 0] 80) = w2 := ⟨_, rfl⟩
  rw [hw2] at bj zj rj
  have bn := (Below.refl w2.heap.size w2).alloc (Nat.le_refl _) (.cells #[.int .i64 0, .int .i64 0, .int .i64 0, .int .i64 0] 77)
  have rn := Row.new w2 77 [.int .i64 0, .int .i64 0, .int .i64 0, .int .i64 0]
  rw [zj] at rn
  have RJ3 := Lib.hid (rj.below bn rj.lt)
  have RN3 := Lib.hid rn
  have B3 := Lib.hid (Below.andThen (Below.andThen hb bj (Nat.le_refl _)) bn (Nat.le_refl _))
  have BJ0 := Lib.hid hb.size
  rw [← hw2] at RJ3 RN3 B3
  clear hb bj zj rj bn rn hw2
  go_wp2_with fail
  go_loopg [14] k0 (fun g lv wr => ∃ (x y : Int) (way : List (Int × Int)), Hid ((0 ≤ x ∧ x ≤ a) ∧ (0 ≤ y ∧ y ≤ b) ∧ Row wr (w1.heap.size + 1) 77 [.int .i64 x, .int .i64 y, .int .i64 0, .int .i64 0] ∧ Row wr w1.heap.size 80 [.int .i64 2, .int .i64 a, .int .i64 b, .int .i64 0, .int .i64 0] ∧ wr.ownsRow w.heap.size 48 2 lv way.length (flatP way) ∧ Below w.heap.size w wr ∧ ringL true a b amt g x y way = some res ∧ way.length + g ≤ 100000))
  case atStart => exact ⟨0, 0, [], Lib.hid ⟨⟨Int.le_refl _, by have := HA.out; omega⟩, ⟨Int.le_refl _, by have := HB.out; omega⟩, RN3.out, RJ3.out, World.ownsRow_nil _ _ _ _, B3.out, HRES.out, by simpa using hk0⟩⟩
  case round =>
    clear RN3 RJ3 B3 HRES w2
    obtain ⟨x, y, way, HR⟩ := hrel
    have rn := HR.out.2.2.1
    have rj := HR.out.2.2.2.1
    have n0 : wr.cell? ⟨w1.heap.size + 1, 0, none⟩ = some (.int .i64 x) := rn.cell 0
    have n1 : wr.cell? ⟨w1.heap.size + 1, 1, none⟩ = some (.int .i64 y) := rn.cell 1
    have n2 : wr.cell? ⟨w1.heap.size + 1, 2, none⟩ = some (.int .i64 0) := rn.cell 2
    have n3 : wr.cell? ⟨w1.heap.size + 1, 3, none⟩ = some (.int .i64 0) := rn.cell 3
    have j0 : wr.cell? ⟨w1.heap.size, 0, none⟩ = some (.int .i64 2) := rj.cell 0
    have j1 : wr.cell? ⟨w1.heap.size, 1, none⟩ = some (.int .i64 a) := rj.cell 1
    have j2 : wr.cell? ⟨w1.heap.size, 2, none⟩ = some (.int .i64 b) := rj.cell 2
    have j3 : wr.cell? ⟨w1.heap.size, 3, none⟩ = some (.int .i64 0) := rj.cell 3
    have j4 : wr.cell? ⟨w1.heap.size, 4, none⟩ = some (.int .i64 0) := rj.cell 4
    have hh := holds_any 2 (by omega) a b 0 0 x y 0 0 amt wr
    rw [holds2] at hh
    have HH := Lib.hid hh
    clear rn rj hh
    go_wp2_with fail
    refine HH.out.mono ?_
    rintro e w3 ⟨rfl, hb3⟩
    clear HH n0 n1 n2 n3 j0 j1 j2 j3 j4
    by_cases hhold : x = amt ∨ y = amt
    · have hd : decide (x = amt ∨ y = amt) = true := decide_eq_true hhold
      have hr := ringL_hold HR.out.2.2.2.2.2.2.1 hhold
      rw [hd]
      subst hr
      have HO := Lib.hid (own_grow HR.out.2.2.2.2.1 hb3)
      have HW := Lib.hid (Below.andThen HR.out.2.2.2.2.2.1 hb3 (Nat.le_refl _))
      clear hhold hd hb3 HR
      go_wp2_with fail
      go_ret2
      refine ⟨_, rfl, ⟨u14, rfl, ?_⟩, HW.out⟩
      have h := HO.out
      rw [flatP_flat] at h
      exact h
    · have hd : decide (x = amt ∨ y = amt) = false := decide_eq_false hhold
      rw [hd]
      have HNH := Lib.hid hhold
      have rn := HR.out.2.2.1.below hb3 HR.out.2.2.1.lt
      have rj := HR.out.2.2.2.1.below hb3 HR.out.2.2.2.1.lt
      have HRN := Lib.hid rn
      have HRJ := Lib.hid rj
      have HO := Lib.hid (own_grow HR.out.2.2.2.2.1 hb3)
      have HW := Lib.hid (Below.andThen HR.out.2.2.2.2.2.1 hb3 (Nat.le_refl _))
      have bq := (Below.refl w3.heap.size w3).alloc (Nat.le_refl _) (.cells #[.int .i64 0, .int .i64 0] 48)
      have HQ0 := Lib.hid bq
      have rnq := rn.below bq rn.lt
      have rjq := rj.below bq rj.lt
      have n0 : (w3.alloc (.cells #[.int .i64 0, .int .i64 0] 48)).cell? ⟨w1.heap.size + 1, 0, none⟩ = some (.int .i64 x) := rnq.cell 0
      have n1 : (w3.alloc (.cells #[.int .i64 0, .int .i64 0] 48)).cell? ⟨w1.heap.size + 1, 1, none⟩ = some (.int .i64 y) := rnq.cell 1
      have j1 : (w3.alloc (.cells #[.int .i64 0, .int .i64 0] 48)).cell? ⟨w1.heap.size, 1, none⟩ = some (.int .i64 a) := rjq.cell 1
      have j2 : (w3.alloc (.cells #[.int .i64 0, .int .i64 0] 48)).cell? ⟨w1.heap.size, 2, none⟩ = some (.int .i64 b) := rjq.cell 2
      have HRNQ := Lib.hid rnq
      have HRQ := Lib.hid (Row.new w3 48 [.int .i64 0, .int .i64 0])
      have HRJQ := Lib.hid rjq
      clear hhold hd hb3 rn rj bq rnq rjq
      obtain ⟨nx, ny, hnx⟩ : ∃ nx ny, nxtF true a b x y = (nx, ny) := ⟨_, _, rfl⟩
      have hbx := nxt_ok true HA.out.1 HB.out.1 HR.out.1 HR.out.2.1
      rw [hnx] at hbx
      have HBX := Lib.hid hbx
      have hca : ∀ s : Int × Int, stpF true a b x y = s → ∀ W, Calls Try.prog 54 #[.agg #[.int .i64 2, .int .i64 a, .int .i64 b, .int .i64 0, .int .i64 0], .agg #[.int .i64 x, .int .i64 y, .int .i64 0, .int .i64 0], .agg #[.int .i64 s.1, .int .i64 s.2]] W fun e w' => e = .returned (.agg #[.int .i64 nx, .int .i64 ny, .int .i64 0, .int .i64 0]) ∧ Below W.heap.size W w' := fun s hs W => by
        have hok := stp_ok true a b x y
        have haf := stp_after true a b x y
        rw [hs] at hok haf
        have h := after_two 2 a b x y ⟨HR.out.1.1, HR.out.1.2, HA.out.2⟩ ⟨HR.out.2.1.1, HR.out.2.1.2, HB.out.2⟩ s.1 s.2 hok.1 hok.2.1 hok.2.2 W
        rw [haf, hnx] at h
        exact h
      have HNX := Lib.hid hnx
      have HCA := Lib.hid hca
      have HRL := Lib.hid HR.out.2.2.2.2.2.2
      clear hnx hbx hca HR
      by_cases hc1 : y = b
      · have hsp : stpF true a b x y = (1, -1) := by unfold stpF; simp [hc1]
        have HSP := Lib.hid hsp
        have hd1 : (y == b) = true := by simp [hc1]
        have hd2 : decide (y = b) = true := decide_eq_true hc1
        clear hc1 hsp
        go_wp2_with fail
        refine wp_region_rel (by kernel_rfl) (by kernel_rfl) [31, 32, 33, 34, 35, 36, 37, 38, 30] [LitR (.int .i64 1), LitR (.pointer (some ⟨w1.heap.size + 1, 1, none⟩)), LitR (.int .i64 y), LitR (.int .i64 1), LitR (.pointer (some ⟨w1.heap.size, 1, none⟩)), LitR (.pointer (some ⟨w1.heap.size, 2, none⟩)), LitR (.int .i64 b), LitR (.bool true), LitR (.bool true)] 9 rfl (List.forall_mem_cons.2 ⟨LitR.stab _, (List.forall_mem_cons.2 ⟨LitR.stab _, (List.forall_mem_cons.2 ⟨LitR.stab _, (List.forall_mem_cons.2 ⟨LitR.stab _, (List.forall_mem_cons.2 ⟨LitR.stab _, (List.forall_mem_cons.2 ⟨LitR.stab _, (List.forall_mem_cons.2 ⟨LitR.stab _, (List.forall_mem_cons.2 ⟨LitR.stab _, (List.forall_mem_cons.2 ⟨LitR.stab _, (fun _ h => nomatch h)⟩)⟩)⟩)⟩)⟩)⟩)⟩)⟩)⟩) ⟨[u31, u32, u33, u34, u35, u36, u37, u38, u30], by simp only [putAll, Act.put, List.setIfInBounds_toArray, List.set_cons_succ, List.set_cons_zero], rfl⟩ ?steps ?fin
        case steps =>
          simp only [relSteps]
          refine ⟨?_, ?_, ?_, ?_, ?_, ?_, ?_, ?_, ?_, trivial⟩
          · rintro vs W K hc hvl hw hK
            obtain ⟨x0, x1, x2, x3, x4, x5, x6, x7, x8, rfl⟩ := len9 hvl
            have HK := Lib.hid hK
            have HC := Lib.hid hc
            have HW := Lib.hid hw
            clear hK hc hw hvl
            simp only [putAll, Act.put, List.setIfInBounds_toArray, List.set_cons_succ, List.set_cons_zero]
            clear HW
            go_wp2_with fail
            have fin := HK.out (.int .i64 1) W (Below.refl _ _) rfl
            simp only [putAll, Act.put, List.setIfInBounds_toArray, List.set_cons_succ, List.set_cons_zero] at fin
            exact fin
          · rintro vs W K hc hvl hw hK
            obtain ⟨x0, x1, x2, x3, x4, x5, x6, x7, x8, rfl⟩ := len9 hvl
            have HK := Lib.hid hK
            have HC := Lib.hid hc
            have HW := Lib.hid hw
            clear hK hc hw hvl
            have hd0 := HW.out ⟨0, .data⟩ (by simp) rfl
            obtain rfl : x0 = .int .i64 1 := rel_get hd0 rfl
            simp only [putAll, Act.put, List.setIfInBounds_toArray, List.set_cons_succ, List.set_cons_zero]
            clear HW hd0
            go_wp2_with fail
            have fin := HK.out (.pointer (some ⟨w1.heap.size + 1, 1, none⟩)) W (Below.refl _ _) rfl
            simp only [putAll, Act.put, List.setIfInBounds_toArray, List.set_cons_succ, List.set_cons_zero] at fin
            exact fin
          · rintro vs W K hc hvl hw hK
            obtain ⟨x0, x1, x2, x3, x4, x5, x6, x7, x8, rfl⟩ := len9 hvl
            have HK := Lib.hid hK
            have HC := Lib.hid hc
            have HW := Lib.hid hw
            clear hK hc hw hvl
            have hd1 := HW.out ⟨1, .data⟩ (by simp) rfl
            obtain rfl : x1 = .pointer (some ⟨w1.heap.size + 1, 1, none⟩) := rel_get hd1 rfl
            simp only [putAll, Act.put, List.setIfInBounds_toArray, List.set_cons_succ, List.set_cons_zero]
            have rr := HRNQ.out.below HC.out HRNQ.out.lt
            have c : W.cell? ⟨w1.heap.size + 1, 1, none⟩ = some (.int .i64 y) := rr.cell 1
            clear rr
            clear HW hd1
            go_wp2_with fail
            have fin := HK.out (.int .i64 y) W (Below.refl _ _) rfl
            simp only [putAll, Act.put, List.setIfInBounds_toArray, List.set_cons_succ, List.set_cons_zero] at fin
            exact fin
          · rintro vs W K hc hvl hw hK
            obtain ⟨x0, x1, x2, x3, x4, x5, x6, x7, x8, rfl⟩ := len9 hvl
            have HK := Lib.hid hK
            have HC := Lib.hid hc
            have HW := Lib.hid hw
            clear hK hc hw hvl
            simp only [putAll, Act.put, List.setIfInBounds_toArray, List.set_cons_succ, List.set_cons_zero]
            clear HW
            go_wp2_with fail
            have fin := HK.out (.int .i64 1) W (Below.refl _ _) rfl
            simp only [putAll, Act.put, List.setIfInBounds_toArray, List.set_cons_succ, List.set_cons_zero] at fin
            exact fin
          · rintro vs W K hc hvl hw hK
            obtain ⟨x0, x1, x2, x3, x4, x5, x6, x7, x8, rfl⟩ := len9 hvl
            have HK := Lib.hid hK
            have HC := Lib.hid hc
            have HW := Lib.hid hw
            clear hK hc hw hvl
            simp only [putAll, Act.put, List.setIfInBounds_toArray, List.set_cons_succ, List.set_cons_zero]
            clear HW
            go_wp2_with fail
            have fin := HK.out (.pointer (some ⟨w1.heap.size, 1, none⟩)) W (Below.refl _ _) rfl
            simp only [putAll, Act.put, List.setIfInBounds_toArray, List.set_cons_succ, List.set_cons_zero] at fin
            exact fin
          · rintro vs W K hc hvl hw hK
            obtain ⟨x0, x1, x2, x3, x4, x5, x6, x7, x8, rfl⟩ := len9 hvl
            have HK := Lib.hid hK
            have HC := Lib.hid hc
            have HW := Lib.hid hw
            clear hK hc hw hvl
            have hd4 := HW.out ⟨4, .data⟩ (by simp) rfl
            obtain rfl : x4 = .pointer (some ⟨w1.heap.size, 1, none⟩) := rel_get hd4 rfl
            have hd3 := HW.out ⟨3, .data⟩ (by simp) rfl
            obtain rfl : x3 = .int .i64 1 := rel_get hd3 rfl
            simp only [putAll, Act.put, List.setIfInBounds_toArray, List.set_cons_succ, List.set_cons_zero]
            clear HW hd3 hd4
            go_wp2_with fail
            have fin := HK.out (.pointer (some ⟨w1.heap.size, 2, none⟩)) W (Below.refl _ _) rfl
            simp only [putAll, Act.put, List.setIfInBounds_toArray, List.set_cons_succ, List.set_cons_zero] at fin
            exact fin
          · rintro vs W K hc hvl hw hK
            obtain ⟨x0, x1, x2, x3, x4, x5, x6, x7, x8, rfl⟩ := len9 hvl
            have HK := Lib.hid hK
            have HC := Lib.hid hc
            have HW := Lib.hid hw
            clear hK hc hw hvl
            have hd5 := HW.out ⟨5, .data⟩ (by simp) rfl
            obtain rfl : x5 = .pointer (some ⟨w1.heap.size, 2, none⟩) := rel_get hd5 rfl
            simp only [putAll, Act.put, List.setIfInBounds_toArray, List.set_cons_succ, List.set_cons_zero]
            have rr := HRJQ.out.below HC.out HRJQ.out.lt
            have c : W.cell? ⟨w1.heap.size, 2, none⟩ = some (.int .i64 b) := rr.cell 2
            clear rr
            clear HW hd5
            go_wp2_with fail
            have fin := HK.out (.int .i64 b) W (Below.refl _ _) rfl
            simp only [putAll, Act.put, List.setIfInBounds_toArray, List.set_cons_succ, List.set_cons_zero] at fin
            exact fin
          · rintro vs W K hc hvl hw hK
            obtain ⟨x0, x1, x2, x3, x4, x5, x6, x7, x8, rfl⟩ := len9 hvl
            have HK := Lib.hid hK
            have HC := Lib.hid hc
            have HW := Lib.hid hw
            clear hK hc hw hvl
            have hd2 := HW.out ⟨2, .data⟩ (by simp) rfl
            obtain rfl : x2 = .int .i64 y := rel_get hd2 rfl
            have hd6 := HW.out ⟨6, .data⟩ (by simp) rfl
            obtain rfl : x6 = .int .i64 b := rel_get hd6 rfl
            simp only [putAll, Act.put, List.setIfInBounds_toArray, List.set_cons_succ, List.set_cons_zero]
            clear HW hd2 hd6
            go_wp2_with fail
            have fin := HK.out (.bool true) W (Below.refl _ _) rfl
            simp only [putAll, Act.put, List.setIfInBounds_toArray, List.set_cons_succ, List.set_cons_zero] at fin
            exact fin
          · rintro vs W K hc hvl hw hK
            obtain ⟨x0, x1, x2, x3, x4, x5, x6, x7, x8, rfl⟩ := len9 hvl
            have HK := Lib.hid hK
            have HC := Lib.hid hc
            have HW := Lib.hid hw
            clear hK hc hw hvl
            have hd7 := HW.out ⟨7, .data⟩ (by simp) rfl
            obtain rfl : x7 = .bool true := rel_get hd7 rfl
            simp only [putAll, Act.put, List.setIfInBounds_toArray, List.set_cons_succ, List.set_cons_zero]
            clear HW hd7
            go_wp2_with fail
            have fin := HK.out (.bool true) W (Below.refl _ _) rfl
            simp only [putAll, Act.put, List.setIfInBounds_toArray, List.set_cons_succ, List.set_cons_zero] at fin
            exact fin
        case fin =>
          intro vs W hc hvl hv
          obtain ⟨x0, x1, x2, x3, x4, x5, x6, x7, x8, rfl⟩ := len9 hvl
          have hd8 := hv 8 (by omega)
          obtain rfl : x8 = .bool true := rel_get hd8 rfl
          clear hd8
          simp only [putAll, Act.put, List.setIfInBounds_toArray, List.set_cons_succ, List.set_cons_zero]
          have HQ1 := Lib.hid hc
          clear hv hc hvl
          have rq := HRQ.out.below HQ1.out HRQ.out.lt
          have q0 : W.cell? ⟨w3.heap.size, 0, none⟩ = some (.int .i64 0) := rq.cell 0
          have q1 : W.cell? ⟨w3.heap.size, 1, none⟩ = some (.int .i64 0) := rq.cell 1
          have z0 := frozen_of_row W w3.heap.size 0 _ _ rq
          have z1 := frozen_of_row W w3.heap.size 1 _ _ rq
          have G1 := one_set W w3.heap.size 0 (.int .i64 (1))
          have G2 := one_set (W.setCell ⟨w3.heap.size, 0, none⟩ (.int .i64 (1))) w3.heap.size 1 (.int .i64 (-1))
          have hjl := HRJQ.out.lt
          have hnl := HRNQ.out.lt
          have hj3 := HRJ.out.lt
          have hn3 := HRN.out.lt
          have rj5 : Row ((W.setCell ⟨w3.heap.size, 0, none⟩ (.int .i64 1)).setCell ⟨w3.heap.size, 1, none⟩ (.int .i64 (-1))) w1.heap.size 80 [.int .i64 2, .int .i64 a, .int .i64 b, .int .i64 0, .int .i64 0] := ((HRJQ.out.below HQ1.out hjl).kept G1 (fun e => by have := Option.some.inj e; omega)).kept G2 (fun e => by have := Option.some.inj e; omega)
          have rn5 : Row ((W.setCell ⟨w3.heap.size, 0, none⟩ (.int .i64 1)).setCell ⟨w3.heap.size, 1, none⟩ (.int .i64 (-1))) (w1.heap.size + 1) 77 [.int .i64 x, .int .i64 y, .int .i64 0, .int .i64 0] := ((HRNQ.out.below HQ1.out hnl).kept G1 (fun e => by have := Option.some.inj e; omega)).kept G2 (fun e => by have := Option.some.inj e; omega)
          have rq5 : Row ((W.setCell ⟨w3.heap.size, 0, none⟩ (.int .i64 1)).setCell ⟨w3.heap.size, 1, none⟩ (.int .i64 (-1))) w3.heap.size 48 [.int .i64 1, .int .i64 (-1)] := (rq.set 0 (.int .i64 1)).set 1 (.int .i64 (-1))
          have ho5 : World.ownsRow ((W.setCell ⟨w3.heap.size, 0, none⟩ (.int .i64 1)).setCell ⟨w3.heap.size, 1, none⟩ (.int .i64 (-1))) w.heap.size 48 2 u14 way.length (flatP way) := ((own_grow (own_grow HO.out HQ0.out) HQ1.out).kept G1 (own_ne HO.out (by omega))).kept G2 (own_ne HO.out (by omega))
          have hb5 : Below w.heap.size w ((W.setCell ⟨w3.heap.size, 0, none⟩ (.int .i64 1)).setCell ⟨w3.heap.size, 1, none⟩ (.int .i64 (-1))) := ((Below.andThen (Below.andThen HW.out HQ0.out (Nat.le_refl _)) HQ1.out (Nat.le_refl _)).grown G1 (by have := HW.out.size; have := HQ0.out.size; have := HQ1.out.size; omega) (fun k e => by have := Option.some.inj e; have := HW.out.size; omega)).grown G2 (by have := HW.out.size; have := HQ0.out.size; have := HQ1.out.size; have := G1.size; omega) (fun k e => by have := Option.some.inj e; have := HW.out.size; omega)
          have nf : W.cell? ⟨w1.heap.size + 1, 0, none⟩ = some (.int .i64 x) := (HRNQ.out.below HQ1.out HRNQ.out.lt).cell 0
          clear G1 G2 hjl hnl hj3 hn3
          have j0 : ((W.setCell ⟨w3.heap.size, 0, none⟩ (.int .i64 1)).setCell ⟨w3.heap.size, 1, none⟩ (.int .i64 (-1))).cell? ⟨w1.heap.size, 0, none⟩ = some (.int .i64 2) := rj5.cell 0
          have j1 : ((W.setCell ⟨w3.heap.size, 0, none⟩ (.int .i64 1)).setCell ⟨w3.heap.size, 1, none⟩ (.int .i64 (-1))).cell? ⟨w1.heap.size, 1, none⟩ = some (.int .i64 a) := rj5.cell 1
          have j2 : ((W.setCell ⟨w3.heap.size, 0, none⟩ (.int .i64 1)).setCell ⟨w3.heap.size, 1, none⟩ (.int .i64 (-1))).cell? ⟨w1.heap.size, 2, none⟩ = some (.int .i64 b) := rj5.cell 2
          have j3 : ((W.setCell ⟨w3.heap.size, 0, none⟩ (.int .i64 1)).setCell ⟨w3.heap.size, 1, none⟩ (.int .i64 (-1))).cell? ⟨w1.heap.size, 3, none⟩ = some (.int .i64 0) := rj5.cell 3
          have j4 : ((W.setCell ⟨w3.heap.size, 0, none⟩ (.int .i64 1)).setCell ⟨w3.heap.size, 1, none⟩ (.int .i64 (-1))).cell? ⟨w1.heap.size, 4, none⟩ = some (.int .i64 0) := rj5.cell 4
          have n0 : ((W.setCell ⟨w3.heap.size, 0, none⟩ (.int .i64 1)).setCell ⟨w3.heap.size, 1, none⟩ (.int .i64 (-1))).cell? ⟨w1.heap.size + 1, 0, none⟩ = some (.int .i64 x) := rn5.cell 0
          have n1 : ((W.setCell ⟨w3.heap.size, 0, none⟩ (.int .i64 1)).setCell ⟨w3.heap.size, 1, none⟩ (.int .i64 (-1))).cell? ⟨w1.heap.size + 1, 1, none⟩ = some (.int .i64 y) := rn5.cell 1
          have n2 : ((W.setCell ⟨w3.heap.size, 0, none⟩ (.int .i64 1)).setCell ⟨w3.heap.size, 1, none⟩ (.int .i64 (-1))).cell? ⟨w1.heap.size + 1, 2, none⟩ = some (.int .i64 0) := rn5.cell 2
          have n3 : ((W.setCell ⟨w3.heap.size, 0, none⟩ (.int .i64 1)).setCell ⟨w3.heap.size, 1, none⟩ (.int .i64 (-1))).cell? ⟨w1.heap.size + 1, 3, none⟩ = some (.int .i64 0) := rn5.cell 3
          have p0 : ((W.setCell ⟨w3.heap.size, 0, none⟩ (.int .i64 1)).setCell ⟨w3.heap.size, 1, none⟩ (.int .i64 (-1))).cell? ⟨w3.heap.size, 0, none⟩ = some (.int .i64 1) := rq5.cell 0
          have p1 : ((W.setCell ⟨w3.heap.size, 0, none⟩ (.int .i64 1)).setCell ⟨w3.heap.size, 1, none⟩ (.int .i64 (-1))).cell? ⟨w3.heap.size, 1, none⟩ = some (.int .i64 (-1)) := rq5.cell 1
          have RJ5 := Lib.hid rj5
          have RN5 := Lib.hid rn5
          have RQ5 := Lib.hid rq5
          have HO5 := Lib.hid ho5
          have HB5 := Lib.hid hb5
          clear rq rj5 rn5 rq5 ho5 hb5
          go_wp2_with fail
          have hcall := HCA.out (1, -1) HSP.out
          dsimp only at hcall
          refine (hcall _).mono ?_
          rintro e w6 ⟨rfl, hb6⟩
          clear hcall j0 j1 j2 j3 j4 n0 n1 n2 n3 p0 p1 q0 q1 z0 z1 nf
          have rj6 := RJ5.out.below hb6 RJ5.out.lt
          have rn6 := RN5.out.below hb6 RN5.out.lt
          have rq6 := RQ5.out.below hb6 RQ5.out.lt
          have ho6 := own_grow HO5.out hb6
          have hb6' := Below.andThen HB5.out hb6 (Nat.le_refl _)
          have n0 : w6.cell? ⟨w1.heap.size + 1, 0, none⟩ = some (.int .i64 x) := rn6.cell 0
          have n1 : w6.cell? ⟨w1.heap.size + 1, 1, none⟩ = some (.int .i64 y) := rn6.cell 1
          have n2 : w6.cell? ⟨w1.heap.size + 1, 2, none⟩ = some (.int .i64 0) := rn6.cell 2
          have n3 : w6.cell? ⟨w1.heap.size + 1, 3, none⟩ = some (.int .i64 0) := rn6.cell 3
          have f0 := frozen_of_row w6 (w1.heap.size + 1) 0 _ _ rn6
          have f1 := frozen_of_row w6 (w1.heap.size + 1) 1 _ _ rn6
          have f2 := frozen_of_row w6 (w1.heap.size + 1) 2 _ _ rn6
          have f3 := frozen_of_row w6 (w1.heap.size + 1) 3 _ _ rn6
          have G7 : w6.grownBy ((((w6.setCell ⟨w1.heap.size + 1, 0, none⟩ (.int .i64 nx)).setCell ⟨w1.heap.size + 1, 1, none⟩ (.int .i64 ny)).setCell ⟨w1.heap.size + 1, 2, none⟩ (.int .i64 0)).setCell ⟨w1.heap.size + 1, 3, none⟩ (.int .i64 0)) (some (w1.heap.size + 1)) := (((one_set _ _ _ _).trans (one_set _ _ _ _)).trans (one_set _ _ _ _)).trans (one_set _ _ _ _)
          have rn7 : Row ((((w6.setCell ⟨w1.heap.size + 1, 0, none⟩ (.int .i64 nx)).setCell ⟨w1.heap.size + 1, 1, none⟩ (.int .i64 ny)).setCell ⟨w1.heap.size + 1, 2, none⟩ (.int .i64 0)).setCell ⟨w1.heap.size + 1, 3, none⟩ (.int .i64 0)) (w1.heap.size + 1) 77 [.int .i64 nx, .int .i64 ny, .int .i64 0, .int .i64 0] := (((rn6.set 0 (.int .i64 nx)).set 1 (.int .i64 ny)).set 2 (.int .i64 0)).set 3 (.int .i64 0)
          have rj7 : Row ((((w6.setCell ⟨w1.heap.size + 1, 0, none⟩ (.int .i64 nx)).setCell ⟨w1.heap.size + 1, 1, none⟩ (.int .i64 ny)).setCell ⟨w1.heap.size + 1, 2, none⟩ (.int .i64 0)).setCell ⟨w1.heap.size + 1, 3, none⟩ (.int .i64 0)) w1.heap.size 80 [.int .i64 2, .int .i64 a, .int .i64 b, .int .i64 0, .int .i64 0] := rj6.kept G7 (fun e => by have := Option.some.inj e; omega)
          have rq7 : Row ((((w6.setCell ⟨w1.heap.size + 1, 0, none⟩ (.int .i64 nx)).setCell ⟨w1.heap.size + 1, 1, none⟩ (.int .i64 ny)).setCell ⟨w1.heap.size + 1, 2, none⟩ (.int .i64 0)).setCell ⟨w1.heap.size + 1, 3, none⟩ (.int .i64 0)) w3.heap.size 48 [.int .i64 1, .int .i64 (-1)] := rq6.kept G7 (fun e => by have := Option.some.inj e; have := HRN.out.lt; omega)
          have ho7 : World.ownsRow ((((w6.setCell ⟨w1.heap.size + 1, 0, none⟩ (.int .i64 nx)).setCell ⟨w1.heap.size + 1, 1, none⟩ (.int .i64 ny)).setCell ⟨w1.heap.size + 1, 2, none⟩ (.int .i64 0)).setCell ⟨w1.heap.size + 1, 3, none⟩ (.int .i64 0)) w.heap.size 48 2 u14 way.length (flatP way) := ho6.kept G7 (owns_row_ne ho6 rn6 (by decide))
          have hb7 : Below w.heap.size w ((((w6.setCell ⟨w1.heap.size + 1, 0, none⟩ (.int .i64 nx)).setCell ⟨w1.heap.size + 1, 1, none⟩ (.int .i64 ny)).setCell ⟨w1.heap.size + 1, 2, none⟩ (.int .i64 0)).setCell ⟨w1.heap.size + 1, 3, none⟩ (.int .i64 0)) := hb6'.grown G7 hb6'.size (fun k e => by have := Option.some.inj e; have := BJ0.out; omega)
          have p0 : ((((w6.setCell ⟨w1.heap.size + 1, 0, none⟩ (.int .i64 nx)).setCell ⟨w1.heap.size + 1, 1, none⟩ (.int .i64 ny)).setCell ⟨w1.heap.size + 1, 2, none⟩ (.int .i64 0)).setCell ⟨w1.heap.size + 1, 3, none⟩ (.int .i64 0)).cell? ⟨w3.heap.size, 0, none⟩ = some (.int .i64 1) := rq7.cell 0
          have p1 : ((((w6.setCell ⟨w1.heap.size + 1, 0, none⟩ (.int .i64 nx)).setCell ⟨w1.heap.size + 1, 1, none⟩ (.int .i64 ny)).setCell ⟨w1.heap.size + 1, 2, none⟩ (.int .i64 0)).setCell ⟨w1.heap.size + 1, 3, none⟩ (.int .i64 0)).cell? ⟨w3.heap.size, 1, none⟩ = some (.int .i64 (-1)) := rq7.cell 1
          have ba7 := (Below.refl ((((w6.setCell ⟨w1.heap.size + 1, 0, none⟩ (.int .i64 nx)).setCell ⟨w1.heap.size + 1, 1, none⟩ (.int .i64 ny)).setCell ⟨w1.heap.size + 1, 2, none⟩ (.int .i64 0)).setCell ⟨w1.heap.size + 1, 3, none⟩ (.int .i64 0)).heap.size ((((w6.setCell ⟨w1.heap.size + 1, 0, none⟩ (.int .i64 nx)).setCell ⟨w1.heap.size + 1, 1, none⟩ (.int .i64 ny)).setCell ⟨w1.heap.size + 1, 2, none⟩ (.int .i64 0)).setCell ⟨w1.heap.size + 1, 3, none⟩ (.int .i64 0))).alloc (Nat.le_refl _) (.cells #[.int .i64 1, .int .i64 (-1)] 48)
          have rn7a := rn7.below ba7 rn7.lt
          have rj7a := rj7.below ba7 rj7.lt
          have ho7a := own_grow ho7 ba7
          have hb7a := Below.andThen hb7 ba7 (Nat.le_refl _)
          have hcl := Row.cell (Row.new ((((w6.setCell ⟨w1.heap.size + 1, 0, none⟩ (.int .i64 nx)).setCell ⟨w1.heap.size + 1, 1, none⟩ (.int .i64 ny)).setCell ⟨w1.heap.size + 1, 2, none⟩ (.int .i64 0)).setCell ⟨w1.heap.size + 1, 3, none⟩ (.int .i64 0)) 48 [.int .i64 1, .int .i64 (-1)])
          have hz7 : ((((w6.setCell ⟨w1.heap.size + 1, 0, none⟩ (.int .i64 nx)).setCell ⟨w1.heap.size + 1, 1, none⟩ (.int .i64 ny)).setCell ⟨w1.heap.size + 1, 2, none⟩ (.int .i64 0)).setCell ⟨w1.heap.size + 1, 3, none⟩ (.int .i64 0)).heap.size = w6.heap.size := by simp
          have HCL := Lib.hid (fun (j : Nat) (u : Value) (hj : ([.int .i64 1, .int .i64 (-1)] : List Value)[j]? = some u) => show (((((w6.setCell ⟨w1.heap.size + 1, 0, none⟩ (.int .i64 nx)).setCell ⟨w1.heap.size + 1, 1, none⟩ (.int .i64 ny)).setCell ⟨w1.heap.size + 1, 2, none⟩ (.int .i64 0)).setCell ⟨w1.heap.size + 1, 3, none⟩ (.int .i64 0)).alloc (.cells #[.int .i64 1, .int .i64 (-1)] 48)).cell? ((⟨w6.heap.size, 0, none⟩ : Addr).add j) = some u by rw [Go.WideShapes.add_plain]; simp only [Nat.zero_add]; rw [← hz7, hcl]; exact hj)
          have RN7 := Lib.hid rn7a
          have RJ7 := Lib.hid rj7a
          have HO7 := Lib.hid ho7a
          have HB7 := Lib.hid hb7a
          obtain ⟨zb, hzb⟩ : ∃ zb, decide ([nx, ny, 0, 0] = [0, 0, 0, 0]) = zb := ⟨_, rfl⟩
          have heq := fun W => eq77 nx ny 0 0 0 0 0 0 W
          rw [hzb] at heq
          have HEQ := Lib.hid heq
          have HZB := Lib.hid hzb
          have hwl : way.length ≤ 100000 := by have := HRL.out.2; omega
          clear hz7 rj6 rn6 rq6 ho6 hb6' hb6 G7 rn7 rj7 rq7 ho7 hb7 ba7 rn7a rj7a ho7a hb7a hcl heq hzb
          go_wp2_with (at_builtin; refine wpList_append_own_at _ rfl _ _ 27 rfl w.heap.size 48 i0 (.agg #[.int .i64 0, .int .i64 0]) 2 16 Try.underlying27 hi hz0 hz1 hz2 rfl (by decide) u14 way.length (flatP way) rfl HO7.out ⟨w6.heap.size, 0, none⟩ 1 1 [.int .i64 1, .int .i64 (-1)] rfl rfl HCL.out (by simp [Value.oneCell']) (by unfold maxLen; omega) (by omega) HB7.out.size ?_; intro v8 w8 hown8 hg8 hnil8 hat8; have rn8 := RN7.out.kept hg8 (own_ne3 HO7.out RN7.out (by decide)); have rj8 := RJ7.out.kept hg8 (own_ne3 HO7.out RJ7.out (by decide)); have hb8 := HB7.out.grown hg8 HB7.out.size (fun k e => (HO7.out.lt k e).1); have m0 : w8.cell? ⟨w1.heap.size + 1, 0, none⟩ = some (.int .i64 nx) := rn8.cell 0; have m1 : w8.cell? ⟨w1.heap.size + 1, 1, none⟩ = some (.int .i64 ny) := rn8.cell 1; have m2 : w8.cell? ⟨w1.heap.size + 1, 2, none⟩ = some (.int .i64 0) := rn8.cell 2; have m3 : w8.cell? ⟨w1.heap.size + 1, 3, none⟩ = some (.int .i64 0) := rn8.cell 3; have RN8 := Lib.hid rn8; have RJ8 := Lib.hid rj8; have HB8 := Lib.hid hb8; have HO8 := Lib.hid hown8; clear rn8 rj8 hb8 hown8 hg8 hnil8 hat8)
          rw [HEQ.out, Result.andThen_ok]
          clear m0 m1 m2 m3 n0 n1 n2 n3 f0 f1 f2 f3 p0 p1
          have hnz := HZB.out
          cases zb with
          | true =>
            have hz : nx = 0 ∧ ny = 0 := by have h := of_decide_eq_true hnz; simp at h; exact h
            have hr := ringL_zero HRL.out.1 HNH.out (by rw [HNX.out, hz.1, hz.2])
            subst hr
            clear hz hnz
            go_wp2_with fail
            go_ret2
            exact ⟨_, rfl, ⟨.slice none 0 0, rfl, World.ownsRow_nil _ _ _ _⟩, HB8.out⟩
          | false =>
            have hz : ¬ (nx = 0 ∧ ny = 0) := fun h => by have h2 := of_decide_eq_false hnz; exact h2 (by rw [h.1, h.2])
            have hr := ringL_next HRL.out.1 HNH.out (by rw [HNX.out]; intro h; have e1 := congrArg Prod.fst h; have e2 := congrArg Prod.snd h; exact hz ⟨e1, e2⟩)
            rw [HNX.out, HSP.out] at hr
            have HRR := Lib.hid hr
            clear hz hnz hr
            go_wp2_with fail
            go_roundg (gk - 1)
            case measure => have := HRR.out.1; omega
            case rel =>
              refine ⟨nx, ny, way ++ [(1, -1)], Lib.hid ⟨HBX.out.1, HBX.out.2, RN8.out, RJ8.out, ?_, HB8.out, HRR.out.2, ?_⟩⟩
              · rw [flatP_snoc, List.length_append, List.length_singleton]; exact HO8.out
              · rw [List.length_append, List.length_singleton]; have := HRL.out.2; have := HRR.out.1; omega
      · have hd1 : (y == b) = false := by simp [hc1]
        have hd2 : decide (y = b) = false := decide_eq_false hc1
        by_cases hc2 : x = 0
        · have hsp : stpF true a b x y = (-1, 0) := by unfold stpF; simp [hc1, hc2]
          have HSP := Lib.hid hsp
          have hd3 : (x == 0) = true := by simp [hc2]
          have hd4 : decide (x = 0) = true := decide_eq_true hc2
          clear hc1 hc2 hsp
          go_wp2_with fail
          refine wp_region_rel (by kernel_rfl) (by kernel_rfl) [31, 32, 33, 34, 35, 36, 37, 38, 30] [LitR (.int .i64 1), LitR (.pointer (some ⟨w1.heap.size + 1, 1, none⟩)), LitR (.int .i64 y), LitR (.int .i64 1), LitR (.pointer (some ⟨w1.heap.size, 1, none⟩)), LitR (.pointer (some ⟨w1.heap.size, 2, none⟩)), LitR (.int .i64 b), LitR (.bool false), LitR (.bool false)] 9 rfl (List.forall_mem_cons.2 ⟨LitR.stab _, (List.forall_mem_cons.2 ⟨LitR.stab _, (List.forall_mem_cons.2 ⟨LitR.stab _, (List.forall_mem_cons.2 ⟨LitR.stab _, (List.forall_mem_cons.2 ⟨LitR.stab _, (List.forall_mem_cons.2 ⟨LitR.stab _, (List.forall_mem_cons.2 ⟨LitR.stab _, (List.forall_mem_cons.2 ⟨LitR.stab _, (List.forall_mem_cons.2 ⟨LitR.stab _, (fun _ h => nomatch h)⟩)⟩)⟩)⟩)⟩)⟩)⟩)⟩)⟩) ⟨[u31, u32, u33, u34, u35, u36, u37, u38, u30], by simp only [putAll, Act.put, List.setIfInBounds_toArray, List.set_cons_succ, List.set_cons_zero], rfl⟩ ?steps ?fin
          case steps =>
            simp only [relSteps]
            refine ⟨?_, ?_, ?_, ?_, ?_, ?_, ?_, ?_, ?_, trivial⟩
            · rintro vs W K hc hvl hw hK
              obtain ⟨x0, x1, x2, x3, x4, x5, x6, x7, x8, rfl⟩ := len9 hvl
              have HK := Lib.hid hK
              have HC := Lib.hid hc
              have HW := Lib.hid hw
              clear hK hc hw hvl
              simp only [putAll, Act.put, List.setIfInBounds_toArray, List.set_cons_succ, List.set_cons_zero]
              clear HW
              go_wp2_with fail
              have fin := HK.out (.int .i64 1) W (Below.refl _ _) rfl
              simp only [putAll, Act.put, List.setIfInBounds_toArray, List.set_cons_succ, List.set_cons_zero] at fin
              exact fin
            · rintro vs W K hc hvl hw hK
              obtain ⟨x0, x1, x2, x3, x4, x5, x6, x7, x8, rfl⟩ := len9 hvl
              have HK := Lib.hid hK
              have HC := Lib.hid hc
              have HW := Lib.hid hw
              clear hK hc hw hvl
              have hd0 := HW.out ⟨0, .data⟩ (by simp) rfl
              obtain rfl : x0 = .int .i64 1 := rel_get hd0 rfl
              simp only [putAll, Act.put, List.setIfInBounds_toArray, List.set_cons_succ, List.set_cons_zero]
              clear HW hd0
              go_wp2_with fail
              have fin := HK.out (.pointer (some ⟨w1.heap.size + 1, 1, none⟩)) W (Below.refl _ _) rfl
              simp only [putAll, Act.put, List.setIfInBounds_toArray, List.set_cons_succ, List.set_cons_zero] at fin
              exact fin
            · rintro vs W K hc hvl hw hK
              obtain ⟨x0, x1, x2, x3, x4, x5, x6, x7, x8, rfl⟩ := len9 hvl
              have HK := Lib.hid hK
              have HC := Lib.hid hc
              have HW := Lib.hid hw
              clear hK hc hw hvl
              have hd1 := HW.out ⟨1, .data⟩ (by simp) rfl
              obtain rfl : x1 = .pointer (some ⟨w1.heap.size + 1, 1, none⟩) := rel_get hd1 rfl
              simp only [putAll, Act.put, List.setIfInBounds_toArray, List.set_cons_succ, List.set_cons_zero]
              have rr := HRNQ.out.below HC.out HRNQ.out.lt
              have c : W.cell? ⟨w1.heap.size + 1, 1, none⟩ = some (.int .i64 y) := rr.cell 1
              clear rr
              clear HW hd1
              go_wp2_with fail
              have fin := HK.out (.int .i64 y) W (Below.refl _ _) rfl
              simp only [putAll, Act.put, List.setIfInBounds_toArray, List.set_cons_succ, List.set_cons_zero] at fin
              exact fin
            · rintro vs W K hc hvl hw hK
              obtain ⟨x0, x1, x2, x3, x4, x5, x6, x7, x8, rfl⟩ := len9 hvl
              have HK := Lib.hid hK
              have HC := Lib.hid hc
              have HW := Lib.hid hw
              clear hK hc hw hvl
              simp only [putAll, Act.put, List.setIfInBounds_toArray, List.set_cons_succ, List.set_cons_zero]
              clear HW
              go_wp2_with fail
              have fin := HK.out (.int .i64 1) W (Below.refl _ _) rfl
              simp only [putAll, Act.put, List.setIfInBounds_toArray, List.set_cons_succ, List.set_cons_zero] at fin
              exact fin
            · rintro vs W K hc hvl hw hK
              obtain ⟨x0, x1, x2, x3, x4, x5, x6, x7, x8, rfl⟩ := len9 hvl
              have HK := Lib.hid hK
              have HC := Lib.hid hc
              have HW := Lib.hid hw
              clear hK hc hw hvl
              simp only [putAll, Act.put, List.setIfInBounds_toArray, List.set_cons_succ, List.set_cons_zero]
              clear HW
              go_wp2_with fail
              have fin := HK.out (.pointer (some ⟨w1.heap.size, 1, none⟩)) W (Below.refl _ _) rfl
              simp only [putAll, Act.put, List.setIfInBounds_toArray, List.set_cons_succ, List.set_cons_zero] at fin
              exact fin
            · rintro vs W K hc hvl hw hK
              obtain ⟨x0, x1, x2, x3, x4, x5, x6, x7, x8, rfl⟩ := len9 hvl
              have HK := Lib.hid hK
              have HC := Lib.hid hc
              have HW := Lib.hid hw
              clear hK hc hw hvl
              have hd4 := HW.out ⟨4, .data⟩ (by simp) rfl
              obtain rfl : x4 = .pointer (some ⟨w1.heap.size, 1, none⟩) := rel_get hd4 rfl
              have hd3 := HW.out ⟨3, .data⟩ (by simp) rfl
              obtain rfl : x3 = .int .i64 1 := rel_get hd3 rfl
              simp only [putAll, Act.put, List.setIfInBounds_toArray, List.set_cons_succ, List.set_cons_zero]
              clear HW hd3 hd4
              go_wp2_with fail
              have fin := HK.out (.pointer (some ⟨w1.heap.size, 2, none⟩)) W (Below.refl _ _) rfl
              simp only [putAll, Act.put, List.setIfInBounds_toArray, List.set_cons_succ, List.set_cons_zero] at fin
              exact fin
            · rintro vs W K hc hvl hw hK
              obtain ⟨x0, x1, x2, x3, x4, x5, x6, x7, x8, rfl⟩ := len9 hvl
              have HK := Lib.hid hK
              have HC := Lib.hid hc
              have HW := Lib.hid hw
              clear hK hc hw hvl
              have hd5 := HW.out ⟨5, .data⟩ (by simp) rfl
              obtain rfl : x5 = .pointer (some ⟨w1.heap.size, 2, none⟩) := rel_get hd5 rfl
              simp only [putAll, Act.put, List.setIfInBounds_toArray, List.set_cons_succ, List.set_cons_zero]
              have rr := HRJQ.out.below HC.out HRJQ.out.lt
              have c : W.cell? ⟨w1.heap.size, 2, none⟩ = some (.int .i64 b) := rr.cell 2
              clear rr
              clear HW hd5
              go_wp2_with fail
              have fin := HK.out (.int .i64 b) W (Below.refl _ _) rfl
              simp only [putAll, Act.put, List.setIfInBounds_toArray, List.set_cons_succ, List.set_cons_zero] at fin
              exact fin
            · rintro vs W K hc hvl hw hK
              obtain ⟨x0, x1, x2, x3, x4, x5, x6, x7, x8, rfl⟩ := len9 hvl
              have HK := Lib.hid hK
              have HC := Lib.hid hc
              have HW := Lib.hid hw
              clear hK hc hw hvl
              have hd2 := HW.out ⟨2, .data⟩ (by simp) rfl
              obtain rfl : x2 = .int .i64 y := rel_get hd2 rfl
              have hd6 := HW.out ⟨6, .data⟩ (by simp) rfl
              obtain rfl : x6 = .int .i64 b := rel_get hd6 rfl
              simp only [putAll, Act.put, List.setIfInBounds_toArray, List.set_cons_succ, List.set_cons_zero]
              clear HW hd2 hd6
              go_wp2_with fail
              have fin := HK.out (.bool false) W (Below.refl _ _) rfl
              simp only [putAll, Act.put, List.setIfInBounds_toArray, List.set_cons_succ, List.set_cons_zero] at fin
              exact fin
            · rintro vs W K hc hvl hw hK
              obtain ⟨x0, x1, x2, x3, x4, x5, x6, x7, x8, rfl⟩ := len9 hvl
              have HK := Lib.hid hK
              have HC := Lib.hid hc
              have HW := Lib.hid hw
              clear hK hc hw hvl
              have hd7 := HW.out ⟨7, .data⟩ (by simp) rfl
              obtain rfl : x7 = .bool false := rel_get hd7 rfl
              simp only [putAll, Act.put, List.setIfInBounds_toArray, List.set_cons_succ, List.set_cons_zero]
              clear HW hd7
              go_wp2_with fail
              have fin := HK.out (.bool false) W (Below.refl _ _) rfl
              simp only [putAll, Act.put, List.setIfInBounds_toArray, List.set_cons_succ, List.set_cons_zero] at fin
              exact fin
          case fin =>
            intro vs W hc hvl hv
            obtain ⟨x0, x1, x2, x3, x4, x5, x6, x7, x8, rfl⟩ := len9 hvl
            have hd8 := hv 8 (by omega)
            obtain rfl : x8 = .bool false := rel_get hd8 rfl
            clear hd8
            simp only [putAll, Act.put, List.setIfInBounds_toArray, List.set_cons_succ, List.set_cons_zero]
            have HQ1 := Lib.hid hc
            clear hv hc hvl
            have rq := HRQ.out.below HQ1.out HRQ.out.lt
            have q0 : W.cell? ⟨w3.heap.size, 0, none⟩ = some (.int .i64 0) := rq.cell 0
            have q1 : W.cell? ⟨w3.heap.size, 1, none⟩ = some (.int .i64 0) := rq.cell 1
            have z0 := frozen_of_row W w3.heap.size 0 _ _ rq
            have z1 := frozen_of_row W w3.heap.size 1 _ _ rq
            have G1 := one_set W w3.heap.size 0 (.int .i64 (-1))
            have G2 := one_set (W.setCell ⟨w3.heap.size, 0, none⟩ (.int .i64 (-1))) w3.heap.size 1 (.int .i64 (0))
            have hjl := HRJQ.out.lt
            have hnl := HRNQ.out.lt
            have hj3 := HRJ.out.lt
            have hn3 := HRN.out.lt
            have rj5 : Row ((W.setCell ⟨w3.heap.size, 0, none⟩ (.int .i64 (-1))).setCell ⟨w3.heap.size, 1, none⟩ (.int .i64 0)) w1.heap.size 80 [.int .i64 2, .int .i64 a, .int .i64 b, .int .i64 0, .int .i64 0] := ((HRJQ.out.below HQ1.out hjl).kept G1 (fun e => by have := Option.some.inj e; omega)).kept G2 (fun e => by have := Option.some.inj e; omega)
            have rn5 : Row ((W.setCell ⟨w3.heap.size, 0, none⟩ (.int .i64 (-1))).setCell ⟨w3.heap.size, 1, none⟩ (.int .i64 0)) (w1.heap.size + 1) 77 [.int .i64 x, .int .i64 y, .int .i64 0, .int .i64 0] := ((HRNQ.out.below HQ1.out hnl).kept G1 (fun e => by have := Option.some.inj e; omega)).kept G2 (fun e => by have := Option.some.inj e; omega)
            have rq5 : Row ((W.setCell ⟨w3.heap.size, 0, none⟩ (.int .i64 (-1))).setCell ⟨w3.heap.size, 1, none⟩ (.int .i64 0)) w3.heap.size 48 [.int .i64 (-1), .int .i64 0] := (rq.set 0 (.int .i64 (-1))).set 1 (.int .i64 0)
            have ho5 : World.ownsRow ((W.setCell ⟨w3.heap.size, 0, none⟩ (.int .i64 (-1))).setCell ⟨w3.heap.size, 1, none⟩ (.int .i64 0)) w.heap.size 48 2 u14 way.length (flatP way) := ((own_grow (own_grow HO.out HQ0.out) HQ1.out).kept G1 (own_ne HO.out (by omega))).kept G2 (own_ne HO.out (by omega))
            have hb5 : Below w.heap.size w ((W.setCell ⟨w3.heap.size, 0, none⟩ (.int .i64 (-1))).setCell ⟨w3.heap.size, 1, none⟩ (.int .i64 0)) := ((Below.andThen (Below.andThen HW.out HQ0.out (Nat.le_refl _)) HQ1.out (Nat.le_refl _)).grown G1 (by have := HW.out.size; have := HQ0.out.size; have := HQ1.out.size; omega) (fun k e => by have := Option.some.inj e; have := HW.out.size; omega)).grown G2 (by have := HW.out.size; have := HQ0.out.size; have := HQ1.out.size; have := G1.size; omega) (fun k e => by have := Option.some.inj e; have := HW.out.size; omega)
            have nf : W.cell? ⟨w1.heap.size + 1, 0, none⟩ = some (.int .i64 x) := (HRNQ.out.below HQ1.out HRNQ.out.lt).cell 0
            clear G1 G2 hjl hnl hj3 hn3
            have j0 : ((W.setCell ⟨w3.heap.size, 0, none⟩ (.int .i64 (-1))).setCell ⟨w3.heap.size, 1, none⟩ (.int .i64 0)).cell? ⟨w1.heap.size, 0, none⟩ = some (.int .i64 2) := rj5.cell 0
            have j1 : ((W.setCell ⟨w3.heap.size, 0, none⟩ (.int .i64 (-1))).setCell ⟨w3.heap.size, 1, none⟩ (.int .i64 0)).cell? ⟨w1.heap.size, 1, none⟩ = some (.int .i64 a) := rj5.cell 1
            have j2 : ((W.setCell ⟨w3.heap.size, 0, none⟩ (.int .i64 (-1))).setCell ⟨w3.heap.size, 1, none⟩ (.int .i64 0)).cell? ⟨w1.heap.size, 2, none⟩ = some (.int .i64 b) := rj5.cell 2
            have j3 : ((W.setCell ⟨w3.heap.size, 0, none⟩ (.int .i64 (-1))).setCell ⟨w3.heap.size, 1, none⟩ (.int .i64 0)).cell? ⟨w1.heap.size, 3, none⟩ = some (.int .i64 0) := rj5.cell 3
            have j4 : ((W.setCell ⟨w3.heap.size, 0, none⟩ (.int .i64 (-1))).setCell ⟨w3.heap.size, 1, none⟩ (.int .i64 0)).cell? ⟨w1.heap.size, 4, none⟩ = some (.int .i64 0) := rj5.cell 4
            have n0 : ((W.setCell ⟨w3.heap.size, 0, none⟩ (.int .i64 (-1))).setCell ⟨w3.heap.size, 1, none⟩ (.int .i64 0)).cell? ⟨w1.heap.size + 1, 0, none⟩ = some (.int .i64 x) := rn5.cell 0
            have n1 : ((W.setCell ⟨w3.heap.size, 0, none⟩ (.int .i64 (-1))).setCell ⟨w3.heap.size, 1, none⟩ (.int .i64 0)).cell? ⟨w1.heap.size + 1, 1, none⟩ = some (.int .i64 y) := rn5.cell 1
            have n2 : ((W.setCell ⟨w3.heap.size, 0, none⟩ (.int .i64 (-1))).setCell ⟨w3.heap.size, 1, none⟩ (.int .i64 0)).cell? ⟨w1.heap.size + 1, 2, none⟩ = some (.int .i64 0) := rn5.cell 2
            have n3 : ((W.setCell ⟨w3.heap.size, 0, none⟩ (.int .i64 (-1))).setCell ⟨w3.heap.size, 1, none⟩ (.int .i64 0)).cell? ⟨w1.heap.size + 1, 3, none⟩ = some (.int .i64 0) := rn5.cell 3
            have p0 : ((W.setCell ⟨w3.heap.size, 0, none⟩ (.int .i64 (-1))).setCell ⟨w3.heap.size, 1, none⟩ (.int .i64 0)).cell? ⟨w3.heap.size, 0, none⟩ = some (.int .i64 (-1)) := rq5.cell 0
            have p1 : ((W.setCell ⟨w3.heap.size, 0, none⟩ (.int .i64 (-1))).setCell ⟨w3.heap.size, 1, none⟩ (.int .i64 0)).cell? ⟨w3.heap.size, 1, none⟩ = some (.int .i64 0) := rq5.cell 1
            have RJ5 := Lib.hid rj5
            have RN5 := Lib.hid rn5
            have RQ5 := Lib.hid rq5
            have HO5 := Lib.hid ho5
            have HB5 := Lib.hid hb5
            clear rq rj5 rn5 rq5 ho5 hb5
            go_wp2_with fail
            have hcall := HCA.out (-1, 0) HSP.out
            dsimp only at hcall
            refine (hcall _).mono ?_
            rintro e w6 ⟨rfl, hb6⟩
            clear hcall j0 j1 j2 j3 j4 n0 n1 n2 n3 p0 p1 q0 q1 z0 z1 nf
            have rj6 := RJ5.out.below hb6 RJ5.out.lt
            have rn6 := RN5.out.below hb6 RN5.out.lt
            have rq6 := RQ5.out.below hb6 RQ5.out.lt
            have ho6 := own_grow HO5.out hb6
            have hb6' := Below.andThen HB5.out hb6 (Nat.le_refl _)
            have n0 : w6.cell? ⟨w1.heap.size + 1, 0, none⟩ = some (.int .i64 x) := rn6.cell 0
            have n1 : w6.cell? ⟨w1.heap.size + 1, 1, none⟩ = some (.int .i64 y) := rn6.cell 1
            have n2 : w6.cell? ⟨w1.heap.size + 1, 2, none⟩ = some (.int .i64 0) := rn6.cell 2
            have n3 : w6.cell? ⟨w1.heap.size + 1, 3, none⟩ = some (.int .i64 0) := rn6.cell 3
            have f0 := frozen_of_row w6 (w1.heap.size + 1) 0 _ _ rn6
            have f1 := frozen_of_row w6 (w1.heap.size + 1) 1 _ _ rn6
            have f2 := frozen_of_row w6 (w1.heap.size + 1) 2 _ _ rn6
            have f3 := frozen_of_row w6 (w1.heap.size + 1) 3 _ _ rn6
            have G7 : w6.grownBy ((((w6.setCell ⟨w1.heap.size + 1, 0, none⟩ (.int .i64 nx)).setCell ⟨w1.heap.size + 1, 1, none⟩ (.int .i64 ny)).setCell ⟨w1.heap.size + 1, 2, none⟩ (.int .i64 0)).setCell ⟨w1.heap.size + 1, 3, none⟩ (.int .i64 0)) (some (w1.heap.size + 1)) := (((one_set _ _ _ _).trans (one_set _ _ _ _)).trans (one_set _ _ _ _)).trans (one_set _ _ _ _)
            have rn7 : Row ((((w6.setCell ⟨w1.heap.size + 1, 0, none⟩ (.int .i64 nx)).setCell ⟨w1.heap.size + 1, 1, none⟩ (.int .i64 ny)).setCell ⟨w1.heap.size + 1, 2, none⟩ (.int .i64 0)).setCell ⟨w1.heap.size + 1, 3, none⟩ (.int .i64 0)) (w1.heap.size + 1) 77 [.int .i64 nx, .int .i64 ny, .int .i64 0, .int .i64 0] := (((rn6.set 0 (.int .i64 nx)).set 1 (.int .i64 ny)).set 2 (.int .i64 0)).set 3 (.int .i64 0)
            have rj7 : Row ((((w6.setCell ⟨w1.heap.size + 1, 0, none⟩ (.int .i64 nx)).setCell ⟨w1.heap.size + 1, 1, none⟩ (.int .i64 ny)).setCell ⟨w1.heap.size + 1, 2, none⟩ (.int .i64 0)).setCell ⟨w1.heap.size + 1, 3, none⟩ (.int .i64 0)) w1.heap.size 80 [.int .i64 2, .int .i64 a, .int .i64 b, .int .i64 0, .int .i64 0] := rj6.kept G7 (fun e => by have := Option.some.inj e; omega)
            have rq7 : Row ((((w6.setCell ⟨w1.heap.size + 1, 0, none⟩ (.int .i64 nx)).setCell ⟨w1.heap.size + 1, 1, none⟩ (.int .i64 ny)).setCell ⟨w1.heap.size + 1, 2, none⟩ (.int .i64 0)).setCell ⟨w1.heap.size + 1, 3, none⟩ (.int .i64 0)) w3.heap.size 48 [.int .i64 (-1), .int .i64 0] := rq6.kept G7 (fun e => by have := Option.some.inj e; have := HRN.out.lt; omega)
            have ho7 : World.ownsRow ((((w6.setCell ⟨w1.heap.size + 1, 0, none⟩ (.int .i64 nx)).setCell ⟨w1.heap.size + 1, 1, none⟩ (.int .i64 ny)).setCell ⟨w1.heap.size + 1, 2, none⟩ (.int .i64 0)).setCell ⟨w1.heap.size + 1, 3, none⟩ (.int .i64 0)) w.heap.size 48 2 u14 way.length (flatP way) := ho6.kept G7 (owns_row_ne ho6 rn6 (by decide))
            have hb7 : Below w.heap.size w ((((w6.setCell ⟨w1.heap.size + 1, 0, none⟩ (.int .i64 nx)).setCell ⟨w1.heap.size + 1, 1, none⟩ (.int .i64 ny)).setCell ⟨w1.heap.size + 1, 2, none⟩ (.int .i64 0)).setCell ⟨w1.heap.size + 1, 3, none⟩ (.int .i64 0)) := hb6'.grown G7 hb6'.size (fun k e => by have := Option.some.inj e; have := BJ0.out; omega)
            have p0 : ((((w6.setCell ⟨w1.heap.size + 1, 0, none⟩ (.int .i64 nx)).setCell ⟨w1.heap.size + 1, 1, none⟩ (.int .i64 ny)).setCell ⟨w1.heap.size + 1, 2, none⟩ (.int .i64 0)).setCell ⟨w1.heap.size + 1, 3, none⟩ (.int .i64 0)).cell? ⟨w3.heap.size, 0, none⟩ = some (.int .i64 (-1)) := rq7.cell 0
            have p1 : ((((w6.setCell ⟨w1.heap.size + 1, 0, none⟩ (.int .i64 nx)).setCell ⟨w1.heap.size + 1, 1, none⟩ (.int .i64 ny)).setCell ⟨w1.heap.size + 1, 2, none⟩ (.int .i64 0)).setCell ⟨w1.heap.size + 1, 3, none⟩ (.int .i64 0)).cell? ⟨w3.heap.size, 1, none⟩ = some (.int .i64 0) := rq7.cell 1
            have ba7 := (Below.refl ((((w6.setCell ⟨w1.heap.size + 1, 0, none⟩ (.int .i64 nx)).setCell ⟨w1.heap.size + 1, 1, none⟩ (.int .i64 ny)).setCell ⟨w1.heap.size + 1, 2, none⟩ (.int .i64 0)).setCell ⟨w1.heap.size + 1, 3, none⟩ (.int .i64 0)).heap.size ((((w6.setCell ⟨w1.heap.size + 1, 0, none⟩ (.int .i64 nx)).setCell ⟨w1.heap.size + 1, 1, none⟩ (.int .i64 ny)).setCell ⟨w1.heap.size + 1, 2, none⟩ (.int .i64 0)).setCell ⟨w1.heap.size + 1, 3, none⟩ (.int .i64 0))).alloc (Nat.le_refl _) (.cells #[.int .i64 (-1), .int .i64 0] 48)
            have rn7a := rn7.below ba7 rn7.lt
            have rj7a := rj7.below ba7 rj7.lt
            have ho7a := own_grow ho7 ba7
            have hb7a := Below.andThen hb7 ba7 (Nat.le_refl _)
            have hcl := Row.cell (Row.new ((((w6.setCell ⟨w1.heap.size + 1, 0, none⟩ (.int .i64 nx)).setCell ⟨w1.heap.size + 1, 1, none⟩ (.int .i64 ny)).setCell ⟨w1.heap.size + 1, 2, none⟩ (.int .i64 0)).setCell ⟨w1.heap.size + 1, 3, none⟩ (.int .i64 0)) 48 [.int .i64 (-1), .int .i64 0])
            have hz7 : ((((w6.setCell ⟨w1.heap.size + 1, 0, none⟩ (.int .i64 nx)).setCell ⟨w1.heap.size + 1, 1, none⟩ (.int .i64 ny)).setCell ⟨w1.heap.size + 1, 2, none⟩ (.int .i64 0)).setCell ⟨w1.heap.size + 1, 3, none⟩ (.int .i64 0)).heap.size = w6.heap.size := by simp
            have HCL := Lib.hid (fun (j : Nat) (u : Value) (hj : ([.int .i64 (-1), .int .i64 0] : List Value)[j]? = some u) => show (((((w6.setCell ⟨w1.heap.size + 1, 0, none⟩ (.int .i64 nx)).setCell ⟨w1.heap.size + 1, 1, none⟩ (.int .i64 ny)).setCell ⟨w1.heap.size + 1, 2, none⟩ (.int .i64 0)).setCell ⟨w1.heap.size + 1, 3, none⟩ (.int .i64 0)).alloc (.cells #[.int .i64 (-1), .int .i64 0] 48)).cell? ((⟨w6.heap.size, 0, none⟩ : Addr).add j) = some u by rw [Go.WideShapes.add_plain]; simp only [Nat.zero_add]; rw [← hz7, hcl]; exact hj)
            have RN7 := Lib.hid rn7a
            have RJ7 := Lib.hid rj7a
            have HO7 := Lib.hid ho7a
            have HB7 := Lib.hid hb7a
            obtain ⟨zb, hzb⟩ : ∃ zb, decide ([nx, ny, 0, 0] = [0, 0, 0, 0]) = zb := ⟨_, rfl⟩
            have heq := fun W => eq77 nx ny 0 0 0 0 0 0 W
            rw [hzb] at heq
            have HEQ := Lib.hid heq
            have HZB := Lib.hid hzb
            have hwl : way.length ≤ 100000 := by have := HRL.out.2; omega
            clear hz7 rj6 rn6 rq6 ho6 hb6' hb6 G7 rn7 rj7 rq7 ho7 hb7 ba7 rn7a rj7a ho7a hb7a hcl heq hzb
            go_wp2_with (at_builtin; refine wpList_append_own_at _ rfl _ _ 27 rfl w.heap.size 48 i0 (.agg #[.int .i64 0, .int .i64 0]) 2 16 Try.underlying27 hi hz0 hz1 hz2 rfl (by decide) u14 way.length (flatP way) rfl HO7.out ⟨w6.heap.size, 0, none⟩ 1 1 [.int .i64 (-1), .int .i64 0] rfl rfl HCL.out (by simp [Value.oneCell']) (by unfold maxLen; omega) (by omega) HB7.out.size ?_; intro v8 w8 hown8 hg8 hnil8 hat8; have rn8 := RN7.out.kept hg8 (own_ne3 HO7.out RN7.out (by decide)); have rj8 := RJ7.out.kept hg8 (own_ne3 HO7.out RJ7.out (by decide)); have hb8 := HB7.out.grown hg8 HB7.out.size (fun k e => (HO7.out.lt k e).1); have m0 : w8.cell? ⟨w1.heap.size + 1, 0, none⟩ = some (.int .i64 nx) := rn8.cell 0; have m1 : w8.cell? ⟨w1.heap.size + 1, 1, none⟩ = some (.int .i64 ny) := rn8.cell 1; have m2 : w8.cell? ⟨w1.heap.size + 1, 2, none⟩ = some (.int .i64 0) := rn8.cell 2; have m3 : w8.cell? ⟨w1.heap.size + 1, 3, none⟩ = some (.int .i64 0) := rn8.cell 3; have RN8 := Lib.hid rn8; have RJ8 := Lib.hid rj8; have HB8 := Lib.hid hb8; have HO8 := Lib.hid hown8; clear rn8 rj8 hb8 hown8 hg8 hnil8 hat8)
            rw [HEQ.out, Result.andThen_ok]
            clear m0 m1 m2 m3 n0 n1 n2 n3 f0 f1 f2 f3 p0 p1
            have hnz := HZB.out
            cases zb with
            | true =>
              have hz : nx = 0 ∧ ny = 0 := by have h := of_decide_eq_true hnz; simp at h; exact h
              have hr := ringL_zero HRL.out.1 HNH.out (by rw [HNX.out, hz.1, hz.2])
              subst hr
              clear hz hnz
              go_wp2_with fail
              go_ret2
              exact ⟨_, rfl, ⟨.slice none 0 0, rfl, World.ownsRow_nil _ _ _ _⟩, HB8.out⟩
            | false =>
              have hz : ¬ (nx = 0 ∧ ny = 0) := fun h => by have h2 := of_decide_eq_false hnz; exact h2 (by rw [h.1, h.2])
              have hr := ringL_next HRL.out.1 HNH.out (by rw [HNX.out]; intro h; have e1 := congrArg Prod.fst h; have e2 := congrArg Prod.snd h; exact hz ⟨e1, e2⟩)
              rw [HNX.out, HSP.out] at hr
              have HRR := Lib.hid hr
              clear hz hnz hr
              go_wp2_with fail
              go_roundg (gk - 1)
              case measure => have := HRR.out.1; omega
              case rel =>
                refine ⟨nx, ny, way ++ [(-1, 0)], Lib.hid ⟨HBX.out.1, HBX.out.2, RN8.out, RJ8.out, ?_, HB8.out, HRR.out.2, ?_⟩⟩
                · rw [flatP_snoc, List.length_append, List.length_singleton]; exact HO8.out
                · rw [List.length_append, List.length_singleton]; have := HRL.out.2; have := HRR.out.1; omega
        · have hsp : stpF true a b x y = (0, 1) := by unfold stpF; simp [hc1, hc2]
          have HSP := Lib.hid hsp
          have hd3 : (x == 0) = false := by simp [hc2]
          have hd4 : decide (x = 0) = false := decide_eq_false hc2
          clear hc1 hc2 hsp
          go_wp2_with fail
          refine wp_region_rel (by kernel_rfl) (by kernel_rfl) [31, 32, 33, 34, 35, 36, 37, 38, 30] [LitR (.int .i64 1), LitR (.pointer (some ⟨w1.heap.size + 1, 1, none⟩)), LitR (.int .i64 y), LitR (.int .i64 1), LitR (.pointer (some ⟨w1.heap.size, 1, none⟩)), LitR (.pointer (some ⟨w1.heap.size, 2, none⟩)), LitR (.int .i64 b), LitR (.bool false), LitR (.bool false)] 9 rfl (List.forall_mem_cons.2 ⟨LitR.stab _, (List.forall_mem_cons.2 ⟨LitR.stab _, (List.forall_mem_cons.2 ⟨LitR.stab _, (List.forall_mem_cons.2 ⟨LitR.stab _, (List.forall_mem_cons.2 ⟨LitR.stab _, (List.forall_mem_cons.2 ⟨LitR.stab _, (List.forall_mem_cons.2 ⟨LitR.stab _, (List.forall_mem_cons.2 ⟨LitR.stab _, (List.forall_mem_cons.2 ⟨LitR.stab _, (fun _ h => nomatch h)⟩)⟩)⟩)⟩)⟩)⟩)⟩)⟩)⟩) ⟨[u31, u32, u33, u34, u35, u36, u37, u38, u30], by simp only [putAll, Act.put, List.setIfInBounds_toArray, List.set_cons_succ, List.set_cons_zero], rfl⟩ ?steps ?fin
          case steps =>
            simp only [relSteps]
            refine ⟨?_, ?_, ?_, ?_, ?_, ?_, ?_, ?_, ?_, trivial⟩
            · rintro vs W K hc hvl hw hK
              obtain ⟨x0, x1, x2, x3, x4, x5, x6, x7, x8, rfl⟩ := len9 hvl
              have HK := Lib.hid hK
              have HC := Lib.hid hc
              have HW := Lib.hid hw
              clear hK hc hw hvl
              simp only [putAll, Act.put, List.setIfInBounds_toArray, List.set_cons_succ, List.set_cons_zero]
              clear HW
              go_wp2_with fail
              have fin := HK.out (.int .i64 1) W (Below.refl _ _) rfl
              simp only [putAll, Act.put, List.setIfInBounds_toArray, List.set_cons_succ, List.set_cons_zero] at fin
              exact fin
            · rintro vs W K hc hvl hw hK
              obtain ⟨x0, x1, x2, x3, x4, x5, x6, x7, x8, rfl⟩ := len9 hvl
              have HK := Lib.hid hK
              have HC := Lib.hid hc
              have HW := Lib.hid hw
              clear hK hc hw hvl
              have hd0 := HW.out ⟨0, .data⟩ (by simp) rfl
              obtain rfl : x0 = .int .i64 1 := rel_get hd0 rfl
              simp only [putAll, Act.put, List.setIfInBounds_toArray, List.set_cons_succ, List.set_cons_zero]
              clear HW hd0
              go_wp2_with fail
              have fin := HK.out (.pointer (some ⟨w1.heap.size + 1, 1, none⟩)) W (Below.refl _ _) rfl
              simp only [putAll, Act.put, List.setIfInBounds_toArray, List.set_cons_succ, List.set_cons_zero] at fin
              exact fin
            · rintro vs W K hc hvl hw hK
              obtain ⟨x0, x1, x2, x3, x4, x5, x6, x7, x8, rfl⟩ := len9 hvl
              have HK := Lib.hid hK
              have HC := Lib.hid hc
              have HW := Lib.hid hw
              clear hK hc hw hvl
              have hd1 := HW.out ⟨1, .data⟩ (by simp) rfl
              obtain rfl : x1 = .pointer (some ⟨w1.heap.size + 1, 1, none⟩) := rel_get hd1 rfl
              simp only [putAll, Act.put, List.setIfInBounds_toArray, List.set_cons_succ, List.set_cons_zero]
              have rr := HRNQ.out.below HC.out HRNQ.out.lt
              have c : W.cell? ⟨w1.heap.size + 1, 1, none⟩ = some (.int .i64 y) := rr.cell 1
              clear rr
              clear HW hd1
              go_wp2_with fail
              have fin := HK.out (.int .i64 y) W (Below.refl _ _) rfl
              simp only [putAll, Act.put, List.setIfInBounds_toArray, List.set_cons_succ, List.set_cons_zero] at fin
              exact fin
            · rintro vs W K hc hvl hw hK
              obtain ⟨x0, x1, x2, x3, x4, x5, x6, x7, x8, rfl⟩ := len9 hvl
              have HK := Lib.hid hK
              have HC := Lib.hid hc
              have HW := Lib.hid hw
              clear hK hc hw hvl
              simp only [putAll, Act.put, List.setIfInBounds_toArray, List.set_cons_succ, List.set_cons_zero]
              clear HW
              go_wp2_with fail
              have fin := HK.out (.int .i64 1) W (Below.refl _ _) rfl
              simp only [putAll, Act.put, List.setIfInBounds_toArray, List.set_cons_succ, List.set_cons_zero] at fin
              exact fin
            · rintro vs W K hc hvl hw hK
              obtain ⟨x0, x1, x2, x3, x4, x5, x6, x7, x8, rfl⟩ := len9 hvl
              have HK := Lib.hid hK
              have HC := Lib.hid hc
              have HW := Lib.hid hw
              clear hK hc hw hvl
              simp only [putAll, Act.put, List.setIfInBounds_toArray, List.set_cons_succ, List.set_cons_zero]
              clear HW
              go_wp2_with fail
              have fin := HK.out (.pointer (some ⟨w1.heap.size, 1, none⟩)) W (Below.refl _ _) rfl
              simp only [putAll, Act.put, List.setIfInBounds_toArray, List.set_cons_succ, List.set_cons_zero] at fin
              exact fin
            · rintro vs W K hc hvl hw hK
              obtain ⟨x0, x1, x2, x3, x4, x5, x6, x7, x8, rfl⟩ := len9 hvl
              have HK := Lib.hid hK
              have HC := Lib.hid hc
              have HW := Lib.hid hw
              clear hK hc hw hvl
              have hd4 := HW.out ⟨4, .data⟩ (by simp) rfl
              obtain rfl : x4 = .pointer (some ⟨w1.heap.size, 1, none⟩) := rel_get hd4 rfl
              have hd3 := HW.out ⟨3, .data⟩ (by simp) rfl
              obtain rfl : x3 = .int .i64 1 := rel_get hd3 rfl
              simp only [putAll, Act.put, List.setIfInBounds_toArray, List.set_cons_succ, List.set_cons_zero]
              clear HW hd3 hd4
              go_wp2_with fail
              have fin := HK.out (.pointer (some ⟨w1.heap.size, 2, none⟩)) W (Below.refl _ _) rfl
              simp only [putAll, Act.put, List.setIfInBounds_toArray, List.set_cons_succ, List.set_cons_zero] at fin
              exact fin
            · rintro vs W K hc hvl hw hK
              obtain ⟨x0, x1, x2, x3, x4, x5, x6, x7, x8, rfl⟩ := len9 hvl
              have HK := Lib.hid hK
              have HC := Lib.hid hc
              have HW := Lib.hid hw
              clear hK hc hw hvl
              have hd5 := HW.out ⟨5, .data⟩ (by simp) rfl
              obtain rfl : x5 = .pointer (some ⟨w1.heap.size, 2, none⟩) := rel_get hd5 rfl
              simp only [putAll, Act.put, List.setIfInBounds_toArray, List.set_cons_succ, List.set_cons_zero]
              have rr := HRJQ.out.below HC.out HRJQ.out.lt
              have c : W.cell? ⟨w1.heap.size, 2, none⟩ = some (.int .i64 b) := rr.cell 2
              clear rr
              clear HW hd5
              go_wp2_with fail
              have fin := HK.out (.int .i64 b) W (Below.refl _ _) rfl
              simp only [putAll, Act.put, List.setIfInBounds_toArray, List.set_cons_succ, List.set_cons_zero] at fin
              exact fin
            · rintro vs W K hc hvl hw hK
              obtain ⟨x0, x1, x2, x3, x4, x5, x6, x7, x8, rfl⟩ := len9 hvl
              have HK := Lib.hid hK
              have HC := Lib.hid hc
              have HW := Lib.hid hw
              clear hK hc hw hvl
              have hd2 := HW.out ⟨2, .data⟩ (by simp) rfl
              obtain rfl : x2 = .int .i64 y := rel_get hd2 rfl
              have hd6 := HW.out ⟨6, .data⟩ (by simp) rfl
              obtain rfl : x6 = .int .i64 b := rel_get hd6 rfl
              simp only [putAll, Act.put, List.setIfInBounds_toArray, List.set_cons_succ, List.set_cons_zero]
              clear HW hd2 hd6
              go_wp2_with fail
              have fin := HK.out (.bool false) W (Below.refl _ _) rfl
              simp only [putAll, Act.put, List.setIfInBounds_toArray, List.set_cons_succ, List.set_cons_zero] at fin
              exact fin
            · rintro vs W K hc hvl hw hK
              obtain ⟨x0, x1, x2, x3, x4, x5, x6, x7, x8, rfl⟩ := len9 hvl
              have HK := Lib.hid hK
              have HC := Lib.hid hc
              have HW := Lib.hid hw
              clear hK hc hw hvl
              have hd7 := HW.out ⟨7, .data⟩ (by simp) rfl
              obtain rfl : x7 = .bool false := rel_get hd7 rfl
              simp only [putAll, Act.put, List.setIfInBounds_toArray, List.set_cons_succ, List.set_cons_zero]
              clear HW hd7
              go_wp2_with fail
              have fin := HK.out (.bool false) W (Below.refl _ _) rfl
              simp only [putAll, Act.put, List.setIfInBounds_toArray, List.set_cons_succ, List.set_cons_zero] at fin
              exact fin
          case fin =>
            intro vs W hc hvl hv
            obtain ⟨x0, x1, x2, x3, x4, x5, x6, x7, x8, rfl⟩ := len9 hvl
            have hd8 := hv 8 (by omega)
            obtain rfl : x8 = .bool false := rel_get hd8 rfl
            clear hd8
            simp only [putAll, Act.put, List.setIfInBounds_toArray, List.set_cons_succ, List.set_cons_zero]
            have HQ1 := Lib.hid hc
            clear hv hc hvl
            have rq := HRQ.out.below HQ1.out HRQ.out.lt
            have q0 : W.cell? ⟨w3.heap.size, 0, none⟩ = some (.int .i64 0) := rq.cell 0
            have q1 : W.cell? ⟨w3.heap.size, 1, none⟩ = some (.int .i64 0) := rq.cell 1
            have z0 := frozen_of_row W w3.heap.size 0 _ _ rq
            have z1 := frozen_of_row W w3.heap.size 1 _ _ rq
            have G1 := one_set W w3.heap.size 0 (.int .i64 (0))
            have G2 := one_set (W.setCell ⟨w3.heap.size, 0, none⟩ (.int .i64 (0))) w3.heap.size 1 (.int .i64 (1))
            have hjl := HRJQ.out.lt
            have hnl := HRNQ.out.lt
            have hj3 := HRJ.out.lt
            have hn3 := HRN.out.lt
            have rj5 : Row ((W.setCell ⟨w3.heap.size, 0, none⟩ (.int .i64 0)).setCell ⟨w3.heap.size, 1, none⟩ (.int .i64 1)) w1.heap.size 80 [.int .i64 2, .int .i64 a, .int .i64 b, .int .i64 0, .int .i64 0] := ((HRJQ.out.below HQ1.out hjl).kept G1 (fun e => by have := Option.some.inj e; omega)).kept G2 (fun e => by have := Option.some.inj e; omega)
            have rn5 : Row ((W.setCell ⟨w3.heap.size, 0, none⟩ (.int .i64 0)).setCell ⟨w3.heap.size, 1, none⟩ (.int .i64 1)) (w1.heap.size + 1) 77 [.int .i64 x, .int .i64 y, .int .i64 0, .int .i64 0] := ((HRNQ.out.below HQ1.out hnl).kept G1 (fun e => by have := Option.some.inj e; omega)).kept G2 (fun e => by have := Option.some.inj e; omega)
            have rq5 : Row ((W.setCell ⟨w3.heap.size, 0, none⟩ (.int .i64 0)).setCell ⟨w3.heap.size, 1, none⟩ (.int .i64 1)) w3.heap.size 48 [.int .i64 0, .int .i64 1] := (rq.set 0 (.int .i64 0)).set 1 (.int .i64 1)
            have ho5 : World.ownsRow ((W.setCell ⟨w3.heap.size, 0, none⟩ (.int .i64 0)).setCell ⟨w3.heap.size, 1, none⟩ (.int .i64 1)) w.heap.size 48 2 u14 way.length (flatP way) := ((own_grow (own_grow HO.out HQ0.out) HQ1.out).kept G1 (own_ne HO.out (by omega))).kept G2 (own_ne HO.out (by omega))
            have hb5 : Below w.heap.size w ((W.setCell ⟨w3.heap.size, 0, none⟩ (.int .i64 0)).setCell ⟨w3.heap.size, 1, none⟩ (.int .i64 1)) := ((Below.andThen (Below.andThen HW.out HQ0.out (Nat.le_refl _)) HQ1.out (Nat.le_refl _)).grown G1 (by have := HW.out.size; have := HQ0.out.size; have := HQ1.out.size; omega) (fun k e => by have := Option.some.inj e; have := HW.out.size; omega)).grown G2 (by have := HW.out.size; have := HQ0.out.size; have := HQ1.out.size; have := G1.size; omega) (fun k e => by have := Option.some.inj e; have := HW.out.size; omega)
            have nf : W.cell? ⟨w1.heap.size + 1, 0, none⟩ = some (.int .i64 x) := (HRNQ.out.below HQ1.out HRNQ.out.lt).cell 0
            clear G1 G2 hjl hnl hj3 hn3
            have j0 : ((W.setCell ⟨w3.heap.size, 0, none⟩ (.int .i64 0)).setCell ⟨w3.heap.size, 1, none⟩ (.int .i64 1)).cell? ⟨w1.heap.size, 0, none⟩ = some (.int .i64 2) := rj5.cell 0
            have j1 : ((W.setCell ⟨w3.heap.size, 0, none⟩ (.int .i64 0)).setCell ⟨w3.heap.size, 1, none⟩ (.int .i64 1)).cell? ⟨w1.heap.size, 1, none⟩ = some (.int .i64 a) := rj5.cell 1
            have j2 : ((W.setCell ⟨w3.heap.size, 0, none⟩ (.int .i64 0)).setCell ⟨w3.heap.size, 1, none⟩ (.int .i64 1)).cell? ⟨w1.heap.size, 2, none⟩ = some (.int .i64 b) := rj5.cell 2
            have j3 : ((W.setCell ⟨w3.heap.size, 0, none⟩ (.int .i64 0)).setCell ⟨w3.heap.size, 1, none⟩ (.int .i64 1)).cell? ⟨w1.heap.size, 3, none⟩ = some (.int .i64 0) := rj5.cell 3
            have j4 : ((W.setCell ⟨w3.heap.size, 0, none⟩ (.int .i64 0)).setCell ⟨w3.heap.size, 1, none⟩ (.int .i64 1)).cell? ⟨w1.heap.size, 4, none⟩ = some (.int .i64 0) := rj5.cell 4
            have n0 : ((W.setCell ⟨w3.heap.size, 0, none⟩ (.int .i64 0)).setCell ⟨w3.heap.size, 1, none⟩ (.int .i64 1)).cell? ⟨w1.heap.size + 1, 0, none⟩ = some (.int .i64 x) := rn5.cell 0
            have n1 : ((W.setCell ⟨w3.heap.size, 0, none⟩ (.int .i64 0)).setCell ⟨w3.heap.size, 1, none⟩ (.int .i64 1)).cell? ⟨w1.heap.size + 1, 1, none⟩ = some (.int .i64 y) := rn5.cell 1
            have n2 : ((W.setCell ⟨w3.heap.size, 0, none⟩ (.int .i64 0)).setCell ⟨w3.heap.size, 1, none⟩ (.int .i64 1)).cell? ⟨w1.heap.size + 1, 2, none⟩ = some (.int .i64 0) := rn5.cell 2
            have n3 : ((W.setCell ⟨w3.heap.size, 0, none⟩ (.int .i64 0)).setCell ⟨w3.heap.size, 1, none⟩ (.int .i64 1)).cell? ⟨w1.heap.size + 1, 3, none⟩ = some (.int .i64 0) := rn5.cell 3
            have p0 : ((W.setCell ⟨w3.heap.size, 0, none⟩ (.int .i64 0)).setCell ⟨w3.heap.size, 1, none⟩ (.int .i64 1)).cell? ⟨w3.heap.size, 0, none⟩ = some (.int .i64 0) := rq5.cell 0
            have p1 : ((W.setCell ⟨w3.heap.size, 0, none⟩ (.int .i64 0)).setCell ⟨w3.heap.size, 1, none⟩ (.int .i64 1)).cell? ⟨w3.heap.size, 1, none⟩ = some (.int .i64 1) := rq5.cell 1
            have RJ5 := Lib.hid rj5
            have RN5 := Lib.hid rn5
            have RQ5 := Lib.hid rq5
            have HO5 := Lib.hid ho5
            have HB5 := Lib.hid hb5
            clear rq rj5 rn5 rq5 ho5 hb5
            go_wp2_with fail
            have hcall := HCA.out (0, 1) HSP.out
            dsimp only at hcall
            refine (hcall _).mono ?_
            rintro e w6 ⟨rfl, hb6⟩
            clear hcall j0 j1 j2 j3 j4 n0 n1 n2 n3 p0 p1 q0 q1 z0 z1 nf
            have rj6 := RJ5.out.below hb6 RJ5.out.lt
            have rn6 := RN5.out.below hb6 RN5.out.lt
            have rq6 := RQ5.out.below hb6 RQ5.out.lt
            have ho6 := own_grow HO5.out hb6
            have hb6' := Below.andThen HB5.out hb6 (Nat.le_refl _)
            have n0 : w6.cell? ⟨w1.heap.size + 1, 0, none⟩ = some (.int .i64 x) := rn6.cell 0
            have n1 : w6.cell? ⟨w1.heap.size + 1, 1, none⟩ = some (.int .i64 y) := rn6.cell 1
            have n2 : w6.cell? ⟨w1.heap.size + 1, 2, none⟩ = some (.int .i64 0) := rn6.cell 2
            have n3 : w6.cell? ⟨w1.heap.size + 1, 3, none⟩ = some (.int .i64 0) := rn6.cell 3
            have f0 := frozen_of_row w6 (w1.heap.size + 1) 0 _ _ rn6
            have f1 := frozen_of_row w6 (w1.heap.size + 1) 1 _ _ rn6
            have f2 := frozen_of_row w6 (w1.heap.size + 1) 2 _ _ rn6
            have f3 := frozen_of_row w6 (w1.heap.size + 1) 3 _ _ rn6
            have G7 : w6.grownBy ((((w6.setCell ⟨w1.heap.size + 1, 0, none⟩ (.int .i64 nx)).setCell ⟨w1.heap.size + 1, 1, none⟩ (.int .i64 ny)).setCell ⟨w1.heap.size + 1, 2, none⟩ (.int .i64 0)).setCell ⟨w1.heap.size + 1, 3, none⟩ (.int .i64 0)) (some (w1.heap.size + 1)) := (((one_set _ _ _ _).trans (one_set _ _ _ _)).trans (one_set _ _ _ _)).trans (one_set _ _ _ _)
            have rn7 : Row ((((w6.setCell ⟨w1.heap.size + 1, 0, none⟩ (.int .i64 nx)).setCell ⟨w1.heap.size + 1, 1, none⟩ (.int .i64 ny)).setCell ⟨w1.heap.size + 1, 2, none⟩ (.int .i64 0)).setCell ⟨w1.heap.size + 1, 3, none⟩ (.int .i64 0)) (w1.heap.size + 1) 77 [.int .i64 nx, .int .i64 ny, .int .i64 0, .int .i64 0] := (((rn6.set 0 (.int .i64 nx)).set 1 (.int .i64 ny)).set 2 (.int .i64 0)).set 3 (.int .i64 0)
            have rj7 : Row ((((w6.setCell ⟨w1.heap.size + 1, 0, none⟩ (.int .i64 nx)).setCell ⟨w1.heap.size + 1, 1, none⟩ (.int .i64 ny)).setCell ⟨w1.heap.size + 1, 2, none⟩ (.int .i64 0)).setCell ⟨w1.heap.size + 1, 3, none⟩ (.int .i64 0)) w1.heap.size 80 [.int .i64 2, .int .i64 a, .int .i64 b, .int .i64 0, .int .i64 0] := rj6.kept G7 (fun e => by have := Option.some.inj e; omega)
            have rq7 : Row ((((w6.setCell ⟨w1.heap.size + 1, 0, none⟩ (.int .i64 nx)).setCell ⟨w1.heap.size + 1, 1, none⟩ (.int .i64 ny)).setCell ⟨w1.heap.size + 1, 2, none⟩ (.int .i64 0)).setCell ⟨w1.heap.size + 1, 3, none⟩ (.int .i64 0)) w3.heap.size 48 [.int .i64 0, .int .i64 1] := rq6.kept G7 (fun e => by have := Option.some.inj e; have := HRN.out.lt; omega)
            have ho7 : World.ownsRow ((((w6.setCell ⟨w1.heap.size + 1, 0, none⟩ (.int .i64 nx)).setCell ⟨w1.heap.size + 1, 1, none⟩ (.int .i64 ny)).setCell ⟨w1.heap.size + 1, 2, none⟩ (.int .i64 0)).setCell ⟨w1.heap.size + 1, 3, none⟩ (.int .i64 0)) w.heap.size 48 2 u14 way.length (flatP way) := ho6.kept G7 (owns_row_ne ho6 rn6 (by decide))
            have hb7 : Below w.heap.size w ((((w6.setCell ⟨w1.heap.size + 1, 0, none⟩ (.int .i64 nx)).setCell ⟨w1.heap.size + 1, 1, none⟩ (.int .i64 ny)).setCell ⟨w1.heap.size + 1, 2, none⟩ (.int .i64 0)).setCell ⟨w1.heap.size + 1, 3, none⟩ (.int .i64 0)) := hb6'.grown G7 hb6'.size (fun k e => by have := Option.some.inj e; have := BJ0.out; omega)
            have p0 : ((((w6.setCell ⟨w1.heap.size + 1, 0, none⟩ (.int .i64 nx)).setCell ⟨w1.heap.size + 1, 1, none⟩ (.int .i64 ny)).setCell ⟨w1.heap.size + 1, 2, none⟩ (.int .i64 0)).setCell ⟨w1.heap.size + 1, 3, none⟩ (.int .i64 0)).cell? ⟨w3.heap.size, 0, none⟩ = some (.int .i64 0) := rq7.cell 0
            have p1 : ((((w6.setCell ⟨w1.heap.size + 1, 0, none⟩ (.int .i64 nx)).setCell ⟨w1.heap.size + 1, 1, none⟩ (.int .i64 ny)).setCell ⟨w1.heap.size + 1, 2, none⟩ (.int .i64 0)).setCell ⟨w1.heap.size + 1, 3, none⟩ (.int .i64 0)).cell? ⟨w3.heap.size, 1, none⟩ = some (.int .i64 1) := rq7.cell 1
            have ba7 := (Below.refl ((((w6.setCell ⟨w1.heap.size + 1, 0, none⟩ (.int .i64 nx)).setCell ⟨w1.heap.size + 1, 1, none⟩ (.int .i64 ny)).setCell ⟨w1.heap.size + 1, 2, none⟩ (.int .i64 0)).setCell ⟨w1.heap.size + 1, 3, none⟩ (.int .i64 0)).heap.size ((((w6.setCell ⟨w1.heap.size + 1, 0, none⟩ (.int .i64 nx)).setCell ⟨w1.heap.size + 1, 1, none⟩ (.int .i64 ny)).setCell ⟨w1.heap.size + 1, 2, none⟩ (.int .i64 0)).setCell ⟨w1.heap.size + 1, 3, none⟩ (.int .i64 0))).alloc (Nat.le_refl _) (.cells #[.int .i64 0, .int .i64 1] 48)
            have rn7a := rn7.below ba7 rn7.lt
            have rj7a := rj7.below ba7 rj7.lt
            have ho7a := own_grow ho7 ba7
            have hb7a := Below.andThen hb7 ba7 (Nat.le_refl _)
            have hcl := Row.cell (Row.new ((((w6.setCell ⟨w1.heap.size + 1, 0, none⟩ (.int .i64 nx)).setCell ⟨w1.heap.size + 1, 1, none⟩ (.int .i64 ny)).setCell ⟨w1.heap.size + 1, 2, none⟩ (.int .i64 0)).setCell ⟨w1.heap.size + 1, 3, none⟩ (.int .i64 0)) 48 [.int .i64 0, .int .i64 1])
            have hz7 : ((((w6.setCell ⟨w1.heap.size + 1, 0, none⟩ (.int .i64 nx)).setCell ⟨w1.heap.size + 1, 1, none⟩ (.int .i64 ny)).setCell ⟨w1.heap.size + 1, 2, none⟩ (.int .i64 0)).setCell ⟨w1.heap.size + 1, 3, none⟩ (.int .i64 0)).heap.size = w6.heap.size := by simp
            have HCL := Lib.hid (fun (j : Nat) (u : Value) (hj : ([.int .i64 0, .int .i64 1] : List Value)[j]? = some u) => show (((((w6.setCell ⟨w1.heap.size + 1, 0, none⟩ (.int .i64 nx)).setCell ⟨w1.heap.size + 1, 1, none⟩ (.int .i64 ny)).setCell ⟨w1.heap.size + 1, 2, none⟩ (.int .i64 0)).setCell ⟨w1.heap.size + 1, 3, none⟩ (.int .i64 0)).alloc (.cells #[.int .i64 0, .int .i64 1] 48)).cell? ((⟨w6.heap.size, 0, none⟩ : Addr).add j) = some u by rw [Go.WideShapes.add_plain]; simp only [Nat.zero_add]; rw [← hz7, hcl]; exact hj)
            have RN7 := Lib.hid rn7a
            have RJ7 := Lib.hid rj7a
            have HO7 := Lib.hid ho7a
            have HB7 := Lib.hid hb7a
            obtain ⟨zb, hzb⟩ : ∃ zb, decide ([nx, ny, 0, 0] = [0, 0, 0, 0]) = zb := ⟨_, rfl⟩
            have heq := fun W => eq77 nx ny 0 0 0 0 0 0 W
            rw [hzb] at heq
            have HEQ := Lib.hid heq
            have HZB := Lib.hid hzb
            have hwl : way.length ≤ 100000 := by have := HRL.out.2; omega
            clear hz7 rj6 rn6 rq6 ho6 hb6' hb6 G7 rn7 rj7 rq7 ho7 hb7 ba7 rn7a rj7a ho7a hb7a hcl heq hzb
            go_wp2_with (at_builtin; refine wpList_append_own_at _ rfl _ _ 27 rfl w.heap.size 48 i0 (.agg #[.int .i64 0, .int .i64 0]) 2 16 Try.underlying27 hi hz0 hz1 hz2 rfl (by decide) u14 way.length (flatP way) rfl HO7.out ⟨w6.heap.size, 0, none⟩ 1 1 [.int .i64 0, .int .i64 1] rfl rfl HCL.out (by simp [Value.oneCell']) (by unfold maxLen; omega) (by omega) HB7.out.size ?_; intro v8 w8 hown8 hg8 hnil8 hat8; have rn8 := RN7.out.kept hg8 (own_ne3 HO7.out RN7.out (by decide)); have rj8 := RJ7.out.kept hg8 (own_ne3 HO7.out RJ7.out (by decide)); have hb8 := HB7.out.grown hg8 HB7.out.size (fun k e => (HO7.out.lt k e).1); have m0 : w8.cell? ⟨w1.heap.size + 1, 0, none⟩ = some (.int .i64 nx) := rn8.cell 0; have m1 : w8.cell? ⟨w1.heap.size + 1, 1, none⟩ = some (.int .i64 ny) := rn8.cell 1; have m2 : w8.cell? ⟨w1.heap.size + 1, 2, none⟩ = some (.int .i64 0) := rn8.cell 2; have m3 : w8.cell? ⟨w1.heap.size + 1, 3, none⟩ = some (.int .i64 0) := rn8.cell 3; have RN8 := Lib.hid rn8; have RJ8 := Lib.hid rj8; have HB8 := Lib.hid hb8; have HO8 := Lib.hid hown8; clear rn8 rj8 hb8 hown8 hg8 hnil8 hat8)
            rw [HEQ.out, Result.andThen_ok]
            clear m0 m1 m2 m3 n0 n1 n2 n3 f0 f1 f2 f3 p0 p1
            have hnz := HZB.out
            cases zb with
            | true =>
              have hz : nx = 0 ∧ ny = 0 := by have h := of_decide_eq_true hnz; simp at h; exact h
              have hr := ringL_zero HRL.out.1 HNH.out (by rw [HNX.out, hz.1, hz.2])
              subst hr
              clear hz hnz
              go_wp2_with fail
              go_ret2
              exact ⟨_, rfl, ⟨.slice none 0 0, rfl, World.ownsRow_nil _ _ _ _⟩, HB8.out⟩
            | false =>
              have hz : ¬ (nx = 0 ∧ ny = 0) := fun h => by have h2 := of_decide_eq_false hnz; exact h2 (by rw [h.1, h.2])
              have hr := ringL_next HRL.out.1 HNH.out (by rw [HNX.out]; intro h; have e1 := congrArg Prod.fst h; have e2 := congrArg Prod.snd h; exact hz ⟨e1, e2⟩)
              rw [HNX.out, HSP.out] at hr
              have HRR := Lib.hid hr
              clear hz hnz hr
              go_wp2_with fail
              go_roundg (gk - 1)
              case measure => have := HRR.out.1; omega
              case rel =>
                refine ⟨nx, ny, way ++ [(0, 1)], Lib.hid ⟨HBX.out.1, HBX.out.2, RN8.out, RJ8.out, ?_, HB8.out, HRR.out.2, ?_⟩⟩
                · rw [flatP_snoc, List.length_append, List.length_singleton]; exact HO8.out
                · rw [List.length_append, List.length_singleton]; have := HRL.out.2; have := HRR.out.1; omega
end Go.Proofs.Ytlamppplnojpbaa
namespace Go.Proofs.Ytlamppplnojpbaa
open Go.RowKit Go.Shelf
attribute [local go_sem] Oper.semAt_some
set_option maxRecDepth 100000 in
set_option maxHeartbeats 2000000 in
theorem ring_false (a b amt : Int) (ha : 1 ≤ a ∧ a ≤ 1000) (hb : 1 ≤ b ∧ b ≤ 1000) (k0 : Nat) (hk0 : k0 ≤ 100000) (res : List (Int × Int) × Bool) (hres : ringL false a b amt k0 0 0 [] = some res) (w : World) :
    Calls Try.prog 64 #[.int .i64 a, .int .i64 b, .int .i64 amt, .bool false] w fun e w' => ∃ x, e = .returned x ∧ WayV w.heap.size res.1 res.2 x w' ∧ Below w.heap.size w w' := by
  obtain ⟨i0, hi, hz0, hz1, hz2⟩ := info_parts info48
  have HRES := Lib.hid hres
  have HJ := Lib.hid (jugsOf_two a b w)
  have HA := Lib.hid ha
  have HB := Lib.hid hb
  clear hres ha hb
  go_enter Try.func64, Try.ntmps64
  go_wp2_with fail
  refine HJ.out.mono ?_
  rintro e w1 ⟨rfl, hb⟩
  clear HJ
  have bj := (Below.refl w1.heap.size w1).alloc (Nat.le_refl _) (.cells #[.int .i64 2, .int .i64 a, .int .i64 b, .int .i64 0, .int .i64 0] 80)
  have zj := size_al w1 (.cells #[.int .i64 2, .int .i64 a, .int .i64 b, .int .i64 0, .int .i64 0] 80)
  have rj := Row.new w1 80 [.int .i64 2, .int .i64 a, .int .i64 b, .int .i64 0, .int .i64 0]
  obtain ⟨w2, hw2⟩ : ∃ w2, w1.alloc (.cells #[.int .i64 2, .int .i64 a, .int .i64 b, .int .i64 0, .int .i64 0] 80) = w2 := ⟨_, rfl⟩
  rw [hw2] at bj zj rj
  have bn := (Below.refl w2.heap.size w2).alloc (Nat.le_refl _) (.cells #[.int .i64 0, .int .i64 0, .int .i64 0, .int .i64 0] 77)
  have rn := Row.new w2 77 [.int .i64 0, .int .i64 0, .int .i64 0, .int .i64 0]
  rw [zj] at rn
  have RJ3 := Lib.hid (rj.below bn rj.lt)
  have RN3 := Lib.hid rn
  have B3 := Lib.hid (Below.andThen (Below.andThen hb bj (Nat.le_refl _)) bn (Nat.le_refl _))
  have BJ0 := Lib.hid hb.size
  rw [← hw2] at RJ3 RN3 B3
  clear hb bj zj rj bn rn hw2
  go_wp2_with fail
  go_loopg [14] k0 (fun g lv wr => ∃ (x y : Int) (way : List (Int × Int)), Hid ((0 ≤ x ∧ x ≤ a) ∧ (0 ≤ y ∧ y ≤ b) ∧ Row wr (w1.heap.size + 1) 77 [.int .i64 x, .int .i64 y, .int .i64 0, .int .i64 0] ∧ Row wr w1.heap.size 80 [.int .i64 2, .int .i64 a, .int .i64 b, .int .i64 0, .int .i64 0] ∧ wr.ownsRow w.heap.size 48 2 lv way.length (flatP way) ∧ Below w.heap.size w wr ∧ ringL false a b amt g x y way = some res ∧ way.length + g ≤ 100000))
  case atStart => exact ⟨0, 0, [], Lib.hid ⟨⟨Int.le_refl _, by have := HA.out; omega⟩, ⟨Int.le_refl _, by have := HB.out; omega⟩, RN3.out, RJ3.out, World.ownsRow_nil _ _ _ _, B3.out, HRES.out, by simpa using hk0⟩⟩
  case round =>
    clear RN3 RJ3 B3 HRES w2
    obtain ⟨x, y, way, HR⟩ := hrel
    have rn := HR.out.2.2.1
    have rj := HR.out.2.2.2.1
    have n0 : wr.cell? ⟨w1.heap.size + 1, 0, none⟩ = some (.int .i64 x) := rn.cell 0
    have n1 : wr.cell? ⟨w1.heap.size + 1, 1, none⟩ = some (.int .i64 y) := rn.cell 1
    have n2 : wr.cell? ⟨w1.heap.size + 1, 2, none⟩ = some (.int .i64 0) := rn.cell 2
    have n3 : wr.cell? ⟨w1.heap.size + 1, 3, none⟩ = some (.int .i64 0) := rn.cell 3
    have j0 : wr.cell? ⟨w1.heap.size, 0, none⟩ = some (.int .i64 2) := rj.cell 0
    have j1 : wr.cell? ⟨w1.heap.size, 1, none⟩ = some (.int .i64 a) := rj.cell 1
    have j2 : wr.cell? ⟨w1.heap.size, 2, none⟩ = some (.int .i64 b) := rj.cell 2
    have j3 : wr.cell? ⟨w1.heap.size, 3, none⟩ = some (.int .i64 0) := rj.cell 3
    have j4 : wr.cell? ⟨w1.heap.size, 4, none⟩ = some (.int .i64 0) := rj.cell 4
    have hh := holds_any 2 (by omega) a b 0 0 x y 0 0 amt wr
    rw [holds2] at hh
    have HH := Lib.hid hh
    clear rn rj hh
    go_wp2_with fail
    refine HH.out.mono ?_
    rintro e w3 ⟨rfl, hb3⟩
    clear HH n0 n1 n2 n3 j0 j1 j2 j3 j4
    by_cases hhold : x = amt ∨ y = amt
    · have hd : decide (x = amt ∨ y = amt) = true := decide_eq_true hhold
      have hr := ringL_hold HR.out.2.2.2.2.2.2.1 hhold
      rw [hd]
      subst hr
      have HO := Lib.hid (own_grow HR.out.2.2.2.2.1 hb3)
      have HW := Lib.hid (Below.andThen HR.out.2.2.2.2.2.1 hb3 (Nat.le_refl _))
      clear hhold hd hb3 HR
      go_wp2_with fail
      go_ret2
      refine ⟨_, rfl, ⟨u14, rfl, ?_⟩, HW.out⟩
      have h := HO.out
      rw [flatP_flat] at h
      exact h
    · have hd : decide (x = amt ∨ y = amt) = false := decide_eq_false hhold
      rw [hd]
      have HNH := Lib.hid hhold
      have rn := HR.out.2.2.1.below hb3 HR.out.2.2.1.lt
      have rj := HR.out.2.2.2.1.below hb3 HR.out.2.2.2.1.lt
      have HRN := Lib.hid rn
      have HRJ := Lib.hid rj
      have HO := Lib.hid (own_grow HR.out.2.2.2.2.1 hb3)
      have HW := Lib.hid (Below.andThen HR.out.2.2.2.2.2.1 hb3 (Nat.le_refl _))
      have bq := (Below.refl w3.heap.size w3).alloc (Nat.le_refl _) (.cells #[.int .i64 0, .int .i64 0] 48)
      have HQ0 := Lib.hid bq
      have rnq := rn.below bq rn.lt
      have rjq := rj.below bq rj.lt
      have n0 : (w3.alloc (.cells #[.int .i64 0, .int .i64 0] 48)).cell? ⟨w1.heap.size + 1, 0, none⟩ = some (.int .i64 x) := rnq.cell 0
      have n1 : (w3.alloc (.cells #[.int .i64 0, .int .i64 0] 48)).cell? ⟨w1.heap.size + 1, 1, none⟩ = some (.int .i64 y) := rnq.cell 1
      have j1 : (w3.alloc (.cells #[.int .i64 0, .int .i64 0] 48)).cell? ⟨w1.heap.size, 1, none⟩ = some (.int .i64 a) := rjq.cell 1
      have j2 : (w3.alloc (.cells #[.int .i64 0, .int .i64 0] 48)).cell? ⟨w1.heap.size, 2, none⟩ = some (.int .i64 b) := rjq.cell 2
      have HRNQ := Lib.hid rnq
      have HRQ := Lib.hid (Row.new w3 48 [.int .i64 0, .int .i64 0])
      have HRJQ := Lib.hid rjq
      clear hhold hd hb3 rn rj bq rnq rjq
      obtain ⟨nx, ny, hnx⟩ : ∃ nx ny, nxtF false a b x y = (nx, ny) := ⟨_, _, rfl⟩
      have hbx := nxt_ok false HA.out.1 HB.out.1 HR.out.1 HR.out.2.1
      rw [hnx] at hbx
      have HBX := Lib.hid hbx
      have hca : ∀ s : Int × Int, stpF false a b x y = s → ∀ W, Calls Try.prog 54 #[.agg #[.int .i64 2, .int .i64 a, .int .i64 b, .int .i64 0, .int .i64 0], .agg #[.int .i64 x, .int .i64 y, .int .i64 0, .int .i64 0], .agg #[.int .i64 s.1, .int .i64 s.2]] W fun e w' => e = .returned (.agg #[.int .i64 nx, .int .i64 ny, .int .i64 0, .int .i64 0]) ∧ Below W.heap.size W w' := fun s hs W => by
        have hok := stp_ok false a b x y
        have haf := stp_after false a b x y
        rw [hs] at hok haf
        have h := after_two 2 a b x y ⟨HR.out.1.1, HR.out.1.2, HA.out.2⟩ ⟨HR.out.2.1.1, HR.out.2.1.2, HB.out.2⟩ s.1 s.2 hok.1 hok.2.1 hok.2.2 W
        rw [haf, hnx] at h
        exact h
      have HNX := Lib.hid hnx
      have HCA := Lib.hid hca
      have HRL := Lib.hid HR.out.2.2.2.2.2.2
      clear hnx hbx hca HR
      by_cases hc1 : x = a
      · have hsp : stpF false a b x y = (0, -1) := by unfold stpF; simp [hc1]
        have HSP := Lib.hid hsp
        have hd1 : (x == a) = true := by simp [hc1]
        have hd2 : decide (x = a) = true := decide_eq_true hc1
        clear hc1 hsp
        go_wp2_with fail
        refine wp_region_rel (by kernel_rfl) (by kernel_rfl) [31, 32, 33, 34, 35, 36, 37, 38, 30] [LitR (.int .i64 0), LitR (.pointer (some ⟨w1.heap.size + 1, 0, none⟩)), LitR (.int .i64 x), LitR (.int .i64 0), LitR (.pointer (some ⟨w1.heap.size, 1, none⟩)), LitR (.pointer (some ⟨w1.heap.size, 1, none⟩)), LitR (.int .i64 a), LitR (.bool true), LitR (.bool true)] 9 rfl (List.forall_mem_cons.2 ⟨LitR.stab _, (List.forall_mem_cons.2 ⟨LitR.stab _, (List.forall_mem_cons.2 ⟨LitR.stab _, (List.forall_mem_cons.2 ⟨LitR.stab _, (List.forall_mem_cons.2 ⟨LitR.stab _, (List.forall_mem_cons.2 ⟨LitR.stab _, (List.forall_mem_cons.2 ⟨LitR.stab _, (List.forall_mem_cons.2 ⟨LitR.stab _, (List.forall_mem_cons.2 ⟨LitR.stab _, (fun _ h => nomatch h)⟩)⟩)⟩)⟩)⟩)⟩)⟩)⟩)⟩) ⟨[u31, u32, u33, u34, u35, u36, u37, u38, u30], by simp only [putAll, Act.put, List.setIfInBounds_toArray, List.set_cons_succ, List.set_cons_zero], rfl⟩ ?steps ?fin
        case steps =>
          simp only [relSteps]
          refine ⟨?_, ?_, ?_, ?_, ?_, ?_, ?_, ?_, ?_, trivial⟩
          · rintro vs W K hc hvl hw hK
            obtain ⟨x0, x1, x2, x3, x4, x5, x6, x7, x8, rfl⟩ := len9 hvl
            have HK := Lib.hid hK
            have HC := Lib.hid hc
            have HW := Lib.hid hw
            clear hK hc hw hvl
            simp only [putAll, Act.put, List.setIfInBounds_toArray, List.set_cons_succ, List.set_cons_zero]
            clear HW
            go_wp2_with fail
            have fin := HK.out (.int .i64 0) W (Below.refl _ _) rfl
            simp only [putAll, Act.put, List.setIfInBounds_toArray, List.set_cons_succ, List.set_cons_zero] at fin
            exact fin
          · rintro vs W K hc hvl hw hK
            obtain ⟨x0, x1, x2, x3, x4, x5, x6, x7, x8, rfl⟩ := len9 hvl
            have HK := Lib.hid hK
            have HC := Lib.hid hc
            have HW := Lib.hid hw
            clear hK hc hw hvl
            have hd0 := HW.out ⟨0, .data⟩ (by simp) rfl
            obtain rfl : x0 = .int .i64 0 := rel_get hd0 rfl
            simp only [putAll, Act.put, List.setIfInBounds_toArray, List.set_cons_succ, List.set_cons_zero]
            clear HW hd0
            go_wp2_with fail
            have fin := HK.out (.pointer (some ⟨w1.heap.size + 1, 0, none⟩)) W (Below.refl _ _) rfl
            simp only [putAll, Act.put, List.setIfInBounds_toArray, List.set_cons_succ, List.set_cons_zero] at fin
            exact fin
          · rintro vs W K hc hvl hw hK
            obtain ⟨x0, x1, x2, x3, x4, x5, x6, x7, x8, rfl⟩ := len9 hvl
            have HK := Lib.hid hK
            have HC := Lib.hid hc
            have HW := Lib.hid hw
            clear hK hc hw hvl
            have hd1 := HW.out ⟨1, .data⟩ (by simp) rfl
            obtain rfl : x1 = .pointer (some ⟨w1.heap.size + 1, 0, none⟩) := rel_get hd1 rfl
            simp only [putAll, Act.put, List.setIfInBounds_toArray, List.set_cons_succ, List.set_cons_zero]
            have rr := HRNQ.out.below HC.out HRNQ.out.lt
            have c : W.cell? ⟨w1.heap.size + 1, 0, none⟩ = some (.int .i64 x) := rr.cell 0
            clear rr
            clear HW hd1
            go_wp2_with fail
            have fin := HK.out (.int .i64 x) W (Below.refl _ _) rfl
            simp only [putAll, Act.put, List.setIfInBounds_toArray, List.set_cons_succ, List.set_cons_zero] at fin
            exact fin
          · rintro vs W K hc hvl hw hK
            obtain ⟨x0, x1, x2, x3, x4, x5, x6, x7, x8, rfl⟩ := len9 hvl
            have HK := Lib.hid hK
            have HC := Lib.hid hc
            have HW := Lib.hid hw
            clear hK hc hw hvl
            simp only [putAll, Act.put, List.setIfInBounds_toArray, List.set_cons_succ, List.set_cons_zero]
            clear HW
            go_wp2_with fail
            have fin := HK.out (.int .i64 0) W (Below.refl _ _) rfl
            simp only [putAll, Act.put, List.setIfInBounds_toArray, List.set_cons_succ, List.set_cons_zero] at fin
            exact fin
          · rintro vs W K hc hvl hw hK
            obtain ⟨x0, x1, x2, x3, x4, x5, x6, x7, x8, rfl⟩ := len9 hvl
            have HK := Lib.hid hK
            have HC := Lib.hid hc
            have HW := Lib.hid hw
            clear hK hc hw hvl
            simp only [putAll, Act.put, List.setIfInBounds_toArray, List.set_cons_succ, List.set_cons_zero]
            clear HW
            go_wp2_with fail
            have fin := HK.out (.pointer (some ⟨w1.heap.size, 1, none⟩)) W (Below.refl _ _) rfl
            simp only [putAll, Act.put, List.setIfInBounds_toArray, List.set_cons_succ, List.set_cons_zero] at fin
            exact fin
          · rintro vs W K hc hvl hw hK
            obtain ⟨x0, x1, x2, x3, x4, x5, x6, x7, x8, rfl⟩ := len9 hvl
            have HK := Lib.hid hK
            have HC := Lib.hid hc
            have HW := Lib.hid hw
            clear hK hc hw hvl
            have hd4 := HW.out ⟨4, .data⟩ (by simp) rfl
            obtain rfl : x4 = .pointer (some ⟨w1.heap.size, 1, none⟩) := rel_get hd4 rfl
            have hd3 := HW.out ⟨3, .data⟩ (by simp) rfl
            obtain rfl : x3 = .int .i64 0 := rel_get hd3 rfl
            simp only [putAll, Act.put, List.setIfInBounds_toArray, List.set_cons_succ, List.set_cons_zero]
            clear HW hd3 hd4
            go_wp2_with fail
            have fin := HK.out (.pointer (some ⟨w1.heap.size, 1, none⟩)) W (Below.refl _ _) rfl
            simp only [putAll, Act.put, List.setIfInBounds_toArray, List.set_cons_succ, List.set_cons_zero] at fin
            exact fin
          · rintro vs W K hc hvl hw hK
            obtain ⟨x0, x1, x2, x3, x4, x5, x6, x7, x8, rfl⟩ := len9 hvl
            have HK := Lib.hid hK
            have HC := Lib.hid hc
            have HW := Lib.hid hw
            clear hK hc hw hvl
            have hd5 := HW.out ⟨5, .data⟩ (by simp) rfl
            obtain rfl : x5 = .pointer (some ⟨w1.heap.size, 1, none⟩) := rel_get hd5 rfl
            simp only [putAll, Act.put, List.setIfInBounds_toArray, List.set_cons_succ, List.set_cons_zero]
            have rr := HRJQ.out.below HC.out HRJQ.out.lt
            have c : W.cell? ⟨w1.heap.size, 1, none⟩ = some (.int .i64 a) := rr.cell 1
            clear rr
            clear HW hd5
            go_wp2_with fail
            have fin := HK.out (.int .i64 a) W (Below.refl _ _) rfl
            simp only [putAll, Act.put, List.setIfInBounds_toArray, List.set_cons_succ, List.set_cons_zero] at fin
            exact fin
          · rintro vs W K hc hvl hw hK
            obtain ⟨x0, x1, x2, x3, x4, x5, x6, x7, x8, rfl⟩ := len9 hvl
            have HK := Lib.hid hK
            have HC := Lib.hid hc
            have HW := Lib.hid hw
            clear hK hc hw hvl
            have hd2 := HW.out ⟨2, .data⟩ (by simp) rfl
            obtain rfl : x2 = .int .i64 x := rel_get hd2 rfl
            have hd6 := HW.out ⟨6, .data⟩ (by simp) rfl
            obtain rfl : x6 = .int .i64 a := rel_get hd6 rfl
            simp only [putAll, Act.put, List.setIfInBounds_toArray, List.set_cons_succ, List.set_cons_zero]
            clear HW hd2 hd6
            go_wp2_with fail
            have fin := HK.out (.bool true) W (Below.refl _ _) rfl
            simp only [putAll, Act.put, List.setIfInBounds_toArray, List.set_cons_succ, List.set_cons_zero] at fin
            exact fin
          · rintro vs W K hc hvl hw hK
            obtain ⟨x0, x1, x2, x3, x4, x5, x6, x7, x8, rfl⟩ := len9 hvl
            have HK := Lib.hid hK
            have HC := Lib.hid hc
            have HW := Lib.hid hw
            clear hK hc hw hvl
            have hd7 := HW.out ⟨7, .data⟩ (by simp) rfl
            obtain rfl : x7 = .bool true := rel_get hd7 rfl
            simp only [putAll, Act.put, List.setIfInBounds_toArray, List.set_cons_succ, List.set_cons_zero]
            clear HW hd7
            go_wp2_with fail
            have fin := HK.out (.bool true) W (Below.refl _ _) rfl
            simp only [putAll, Act.put, List.setIfInBounds_toArray, List.set_cons_succ, List.set_cons_zero] at fin
            exact fin
        case fin =>
          intro vs W hc hvl hv
          obtain ⟨x0, x1, x2, x3, x4, x5, x6, x7, x8, rfl⟩ := len9 hvl
          have hd8 := hv 8 (by omega)
          obtain rfl : x8 = .bool true := rel_get hd8 rfl
          clear hd8
          simp only [putAll, Act.put, List.setIfInBounds_toArray, List.set_cons_succ, List.set_cons_zero]
          have HQ1 := Lib.hid hc
          clear hv hc hvl
          have rq := HRQ.out.below HQ1.out HRQ.out.lt
          have q0 : W.cell? ⟨w3.heap.size, 0, none⟩ = some (.int .i64 0) := rq.cell 0
          have q1 : W.cell? ⟨w3.heap.size, 1, none⟩ = some (.int .i64 0) := rq.cell 1
          have z0 := frozen_of_row W w3.heap.size 0 _ _ rq
          have z1 := frozen_of_row W w3.heap.size 1 _ _ rq
          have G1 := one_set W w3.heap.size 0 (.int .i64 (0))
          have G2 := one_set (W.setCell ⟨w3.heap.size, 0, none⟩ (.int .i64 (0))) w3.heap.size 1 (.int .i64 (-1))
          have hjl := HRJQ.out.lt
          have hnl := HRNQ.out.lt
          have hj3 := HRJ.out.lt
          have hn3 := HRN.out.lt
          have rj5 : Row ((W.setCell ⟨w3.heap.size, 0, none⟩ (.int .i64 0)).setCell ⟨w3.heap.size, 1, none⟩ (.int .i64 (-1))) w1.heap.size 80 [.int .i64 2, .int .i64 a, .int .i64 b, .int .i64 0, .int .i64 0] := ((HRJQ.out.below HQ1.out hjl).kept G1 (fun e => by have := Option.some.inj e; omega)).kept G2 (fun e => by have := Option.some.inj e; omega)
          have rn5 : Row ((W.setCell ⟨w3.heap.size, 0, none⟩ (.int .i64 0)).setCell ⟨w3.heap.size, 1, none⟩ (.int .i64 (-1))) (w1.heap.size + 1) 77 [.int .i64 x, .int .i64 y, .int .i64 0, .int .i64 0] := ((HRNQ.out.below HQ1.out hnl).kept G1 (fun e => by have := Option.some.inj e; omega)).kept G2 (fun e => by have := Option.some.inj e; omega)
          have rq5 : Row ((W.setCell ⟨w3.heap.size, 0, none⟩ (.int .i64 0)).setCell ⟨w3.heap.size, 1, none⟩ (.int .i64 (-1))) w3.heap.size 48 [.int .i64 0, .int .i64 (-1)] := (rq.set 0 (.int .i64 0)).set 1 (.int .i64 (-1))
          have ho5 : World.ownsRow ((W.setCell ⟨w3.heap.size, 0, none⟩ (.int .i64 0)).setCell ⟨w3.heap.size, 1, none⟩ (.int .i64 (-1))) w.heap.size 48 2 u14 way.length (flatP way) := ((own_grow (own_grow HO.out HQ0.out) HQ1.out).kept G1 (own_ne HO.out (by omega))).kept G2 (own_ne HO.out (by omega))
          have hb5 : Below w.heap.size w ((W.setCell ⟨w3.heap.size, 0, none⟩ (.int .i64 0)).setCell ⟨w3.heap.size, 1, none⟩ (.int .i64 (-1))) := ((Below.andThen (Below.andThen HW.out HQ0.out (Nat.le_refl _)) HQ1.out (Nat.le_refl _)).grown G1 (by have := HW.out.size; have := HQ0.out.size; have := HQ1.out.size; omega) (fun k e => by have := Option.some.inj e; have := HW.out.size; omega)).grown G2 (by have := HW.out.size; have := HQ0.out.size; have := HQ1.out.size; have := G1.size; omega) (fun k e => by have := Option.some.inj e; have := HW.out.size; omega)
          have nf : W.cell? ⟨w1.heap.size + 1, 1, none⟩ = some (.int .i64 y) := (HRNQ.out.below HQ1.out HRNQ.out.lt).cell 1
          clear G1 G2 hjl hnl hj3 hn3
          have j0 : ((W.setCell ⟨w3.heap.size, 0, none⟩ (.int .i64 0)).setCell ⟨w3.heap.size, 1, none⟩ (.int .i64 (-1))).cell? ⟨w1.heap.size, 0, none⟩ = some (.int .i64 2) := rj5.cell 0
          have j1 : ((W.setCell ⟨w3.heap.size, 0, none⟩ (.int .i64 0)).setCell ⟨w3.heap.size, 1, none⟩ (.int .i64 (-1))).cell? ⟨w1.heap.size, 1, none⟩ = some (.int .i64 a) := rj5.cell 1
          have j2 : ((W.setCell ⟨w3.heap.size, 0, none⟩ (.int .i64 0)).setCell ⟨w3.heap.size, 1, none⟩ (.int .i64 (-1))).cell? ⟨w1.heap.size, 2, none⟩ = some (.int .i64 b) := rj5.cell 2
          have j3 : ((W.setCell ⟨w3.heap.size, 0, none⟩ (.int .i64 0)).setCell ⟨w3.heap.size, 1, none⟩ (.int .i64 (-1))).cell? ⟨w1.heap.size, 3, none⟩ = some (.int .i64 0) := rj5.cell 3
          have j4 : ((W.setCell ⟨w3.heap.size, 0, none⟩ (.int .i64 0)).setCell ⟨w3.heap.size, 1, none⟩ (.int .i64 (-1))).cell? ⟨w1.heap.size, 4, none⟩ = some (.int .i64 0) := rj5.cell 4
          have n0 : ((W.setCell ⟨w3.heap.size, 0, none⟩ (.int .i64 0)).setCell ⟨w3.heap.size, 1, none⟩ (.int .i64 (-1))).cell? ⟨w1.heap.size + 1, 0, none⟩ = some (.int .i64 x) := rn5.cell 0
          have n1 : ((W.setCell ⟨w3.heap.size, 0, none⟩ (.int .i64 0)).setCell ⟨w3.heap.size, 1, none⟩ (.int .i64 (-1))).cell? ⟨w1.heap.size + 1, 1, none⟩ = some (.int .i64 y) := rn5.cell 1
          have n2 : ((W.setCell ⟨w3.heap.size, 0, none⟩ (.int .i64 0)).setCell ⟨w3.heap.size, 1, none⟩ (.int .i64 (-1))).cell? ⟨w1.heap.size + 1, 2, none⟩ = some (.int .i64 0) := rn5.cell 2
          have n3 : ((W.setCell ⟨w3.heap.size, 0, none⟩ (.int .i64 0)).setCell ⟨w3.heap.size, 1, none⟩ (.int .i64 (-1))).cell? ⟨w1.heap.size + 1, 3, none⟩ = some (.int .i64 0) := rn5.cell 3
          have p0 : ((W.setCell ⟨w3.heap.size, 0, none⟩ (.int .i64 0)).setCell ⟨w3.heap.size, 1, none⟩ (.int .i64 (-1))).cell? ⟨w3.heap.size, 0, none⟩ = some (.int .i64 0) := rq5.cell 0
          have p1 : ((W.setCell ⟨w3.heap.size, 0, none⟩ (.int .i64 0)).setCell ⟨w3.heap.size, 1, none⟩ (.int .i64 (-1))).cell? ⟨w3.heap.size, 1, none⟩ = some (.int .i64 (-1)) := rq5.cell 1
          have RJ5 := Lib.hid rj5
          have RN5 := Lib.hid rn5
          have RQ5 := Lib.hid rq5
          have HO5 := Lib.hid ho5
          have HB5 := Lib.hid hb5
          clear rq rj5 rn5 rq5 ho5 hb5
          go_wp2_with fail
          have hcall := HCA.out (0, -1) HSP.out
          dsimp only at hcall
          refine (hcall _).mono ?_
          rintro e w6 ⟨rfl, hb6⟩
          clear hcall j0 j1 j2 j3 j4 n0 n1 n2 n3 p0 p1 q0 q1 z0 z1 nf
          have rj6 := RJ5.out.below hb6 RJ5.out.lt
          have rn6 := RN5.out.below hb6 RN5.out.lt
          have rq6 := RQ5.out.below hb6 RQ5.out.lt
          have ho6 := own_grow HO5.out hb6
          have hb6' := Below.andThen HB5.out hb6 (Nat.le_refl _)
          have n0 : w6.cell? ⟨w1.heap.size + 1, 0, none⟩ = some (.int .i64 x) := rn6.cell 0
          have n1 : w6.cell? ⟨w1.heap.size + 1, 1, none⟩ = some (.int .i64 y) := rn6.cell 1
          have n2 : w6.cell? ⟨w1.heap.size + 1, 2, none⟩ = some (.int .i64 0) := rn6.cell 2
          have n3 : w6.cell? ⟨w1.heap.size + 1, 3, none⟩ = some (.int .i64 0) := rn6.cell 3
          have f0 := frozen_of_row w6 (w1.heap.size + 1) 0 _ _ rn6
          have f1 := frozen_of_row w6 (w1.heap.size + 1) 1 _ _ rn6
          have f2 := frozen_of_row w6 (w1.heap.size + 1) 2 _ _ rn6
          have f3 := frozen_of_row w6 (w1.heap.size + 1) 3 _ _ rn6
          have G7 : w6.grownBy ((((w6.setCell ⟨w1.heap.size + 1, 0, none⟩ (.int .i64 nx)).setCell ⟨w1.heap.size + 1, 1, none⟩ (.int .i64 ny)).setCell ⟨w1.heap.size + 1, 2, none⟩ (.int .i64 0)).setCell ⟨w1.heap.size + 1, 3, none⟩ (.int .i64 0)) (some (w1.heap.size + 1)) := (((one_set _ _ _ _).trans (one_set _ _ _ _)).trans (one_set _ _ _ _)).trans (one_set _ _ _ _)
          have rn7 : Row ((((w6.setCell ⟨w1.heap.size + 1, 0, none⟩ (.int .i64 nx)).setCell ⟨w1.heap.size + 1, 1, none⟩ (.int .i64 ny)).setCell ⟨w1.heap.size + 1, 2, none⟩ (.int .i64 0)).setCell ⟨w1.heap.size + 1, 3, none⟩ (.int .i64 0)) (w1.heap.size + 1) 77 [.int .i64 nx, .int .i64 ny, .int .i64 0, .int .i64 0] := (((rn6.set 0 (.int .i64 nx)).set 1 (.int .i64 ny)).set 2 (.int .i64 0)).set 3 (.int .i64 0)
          have rj7 : Row ((((w6.setCell ⟨w1.heap.size + 1, 0, none⟩ (.int .i64 nx)).setCell ⟨w1.heap.size + 1, 1, none⟩ (.int .i64 ny)).setCell ⟨w1.heap.size + 1, 2, none⟩ (.int .i64 0)).setCell ⟨w1.heap.size + 1, 3, none⟩ (.int .i64 0)) w1.heap.size 80 [.int .i64 2, .int .i64 a, .int .i64 b, .int .i64 0, .int .i64 0] := rj6.kept G7 (fun e => by have := Option.some.inj e; omega)
          have rq7 : Row ((((w6.setCell ⟨w1.heap.size + 1, 0, none⟩ (.int .i64 nx)).setCell ⟨w1.heap.size + 1, 1, none⟩ (.int .i64 ny)).setCell ⟨w1.heap.size + 1, 2, none⟩ (.int .i64 0)).setCell ⟨w1.heap.size + 1, 3, none⟩ (.int .i64 0)) w3.heap.size 48 [.int .i64 0, .int .i64 (-1)] := rq6.kept G7 (fun e => by have := Option.some.inj e; have := HRN.out.lt; omega)
          have ho7 : World.ownsRow ((((w6.setCell ⟨w1.heap.size + 1, 0, none⟩ (.int .i64 nx)).setCell ⟨w1.heap.size + 1, 1, none⟩ (.int .i64 ny)).setCell ⟨w1.heap.size + 1, 2, none⟩ (.int .i64 0)).setCell ⟨w1.heap.size + 1, 3, none⟩ (.int .i64 0)) w.heap.size 48 2 u14 way.length (flatP way) := ho6.kept G7 (owns_row_ne ho6 rn6 (by decide))
          have hb7 : Below w.heap.size w ((((w6.setCell ⟨w1.heap.size + 1, 0, none⟩ (.int .i64 nx)).setCell ⟨w1.heap.size + 1, 1, none⟩ (.int .i64 ny)).setCell ⟨w1.heap.size + 1, 2, none⟩ (.int .i64 0)).setCell ⟨w1.heap.size + 1, 3, none⟩ (.int .i64 0)) := hb6'.grown G7 hb6'.size (fun k e => by have := Option.some.inj e; have := BJ0.out; omega)
          have p0 : ((((w6.setCell ⟨w1.heap.size + 1, 0, none⟩ (.int .i64 nx)).setCell ⟨w1.heap.size + 1, 1, none⟩ (.int .i64 ny)).setCell ⟨w1.heap.size + 1, 2, none⟩ (.int .i64 0)).setCell ⟨w1.heap.size + 1, 3, none⟩ (.int .i64 0)).cell? ⟨w3.heap.size, 0, none⟩ = some (.int .i64 0) := rq7.cell 0
          have p1 : ((((w6.setCell ⟨w1.heap.size + 1, 0, none⟩ (.int .i64 nx)).setCell ⟨w1.heap.size + 1, 1, none⟩ (.int .i64 ny)).setCell ⟨w1.heap.size + 1, 2, none⟩ (.int .i64 0)).setCell ⟨w1.heap.size + 1, 3, none⟩ (.int .i64 0)).cell? ⟨w3.heap.size, 1, none⟩ = some (.int .i64 (-1)) := rq7.cell 1
          have ba7 := (Below.refl ((((w6.setCell ⟨w1.heap.size + 1, 0, none⟩ (.int .i64 nx)).setCell ⟨w1.heap.size + 1, 1, none⟩ (.int .i64 ny)).setCell ⟨w1.heap.size + 1, 2, none⟩ (.int .i64 0)).setCell ⟨w1.heap.size + 1, 3, none⟩ (.int .i64 0)).heap.size ((((w6.setCell ⟨w1.heap.size + 1, 0, none⟩ (.int .i64 nx)).setCell ⟨w1.heap.size + 1, 1, none⟩ (.int .i64 ny)).setCell ⟨w1.heap.size + 1, 2, none⟩ (.int .i64 0)).setCell ⟨w1.heap.size + 1, 3, none⟩ (.int .i64 0))).alloc (Nat.le_refl _) (.cells #[.int .i64 0, .int .i64 (-1)] 48)
          have rn7a := rn7.below ba7 rn7.lt
          have rj7a := rj7.below ba7 rj7.lt
          have ho7a := own_grow ho7 ba7
          have hb7a := Below.andThen hb7 ba7 (Nat.le_refl _)
          have hcl := Row.cell (Row.new ((((w6.setCell ⟨w1.heap.size + 1, 0, none⟩ (.int .i64 nx)).setCell ⟨w1.heap.size + 1, 1, none⟩ (.int .i64 ny)).setCell ⟨w1.heap.size + 1, 2, none⟩ (.int .i64 0)).setCell ⟨w1.heap.size + 1, 3, none⟩ (.int .i64 0)) 48 [.int .i64 0, .int .i64 (-1)])
          have hz7 : ((((w6.setCell ⟨w1.heap.size + 1, 0, none⟩ (.int .i64 nx)).setCell ⟨w1.heap.size + 1, 1, none⟩ (.int .i64 ny)).setCell ⟨w1.heap.size + 1, 2, none⟩ (.int .i64 0)).setCell ⟨w1.heap.size + 1, 3, none⟩ (.int .i64 0)).heap.size = w6.heap.size := by simp
          have HCL := Lib.hid (fun (j : Nat) (u : Value) (hj : ([.int .i64 0, .int .i64 (-1)] : List Value)[j]? = some u) => show (((((w6.setCell ⟨w1.heap.size + 1, 0, none⟩ (.int .i64 nx)).setCell ⟨w1.heap.size + 1, 1, none⟩ (.int .i64 ny)).setCell ⟨w1.heap.size + 1, 2, none⟩ (.int .i64 0)).setCell ⟨w1.heap.size + 1, 3, none⟩ (.int .i64 0)).alloc (.cells #[.int .i64 0, .int .i64 (-1)] 48)).cell? ((⟨w6.heap.size, 0, none⟩ : Addr).add j) = some u by rw [Go.WideShapes.add_plain]; simp only [Nat.zero_add]; rw [← hz7, hcl]; exact hj)
          have RN7 := Lib.hid rn7a
          have RJ7 := Lib.hid rj7a
          have HO7 := Lib.hid ho7a
          have HB7 := Lib.hid hb7a
          obtain ⟨zb, hzb⟩ : ∃ zb, decide ([nx, ny, 0, 0] = [0, 0, 0, 0]) = zb := ⟨_, rfl⟩
          have heq := fun W => eq77 nx ny 0 0 0 0 0 0 W
          rw [hzb] at heq
          have HEQ := Lib.hid heq
          have HZB := Lib.hid hzb
          have hwl : way.length ≤ 100000 := by have := HRL.out.2; omega
          clear hz7 rj6 rn6 rq6 ho6 hb6' hb6 G7 rn7 rj7 rq7 ho7 hb7 ba7 rn7a rj7a ho7a hb7a hcl heq hzb
          go_wp2_with (at_builtin; refine wpList_append_own_at _ rfl _ _ 27 rfl w.heap.size 48 i0 (.agg #[.int .i64 0, .int .i64 0]) 2 16 Try.underlying27 hi hz0 hz1 hz2 rfl (by decide) u14 way.length (flatP way) rfl HO7.out ⟨w6.heap.size, 0, none⟩ 1 1 [.int .i64 0, .int .i64 (-1)] rfl rfl HCL.out (by simp [Value.oneCell']) (by unfold maxLen; omega) (by omega) HB7.out.size ?_; intro v8 w8 hown8 hg8 hnil8 hat8; have rn8 := RN7.out.kept hg8 (own_ne3 HO7.out RN7.out (by decide)); have rj8 := RJ7.out.kept hg8 (own_ne3 HO7.out RJ7.out (by decide)); have hb8 := HB7.out.grown hg8 HB7.out.size (fun k e => (HO7.out.lt k e).1); have m0 : w8.cell? ⟨w1.heap.size + 1, 0, none⟩ = some (.int .i64 nx) := rn8.cell 0; have m1 : w8.cell? ⟨w1.heap.size + 1, 1, none⟩ = some (.int .i64 ny) := rn8.cell 1; have m2 : w8.cell? ⟨w1.heap.size + 1, 2, none⟩ = some (.int .i64 0) := rn8.cell 2; have m3 : w8.cell? ⟨w1.heap.size + 1, 3, none⟩ = some (.int .i64 0) := rn8.cell 3; have RN8 := Lib.hid rn8; have RJ8 := Lib.hid rj8; have HB8 := Lib.hid hb8; have HO8 := Lib.hid hown8; clear rn8 rj8 hb8 hown8 hg8 hnil8 hat8)
          rw [HEQ.out, Result.andThen_ok]
          clear m0 m1 m2 m3 n0 n1 n2 n3 f0 f1 f2 f3 p0 p1
          have hnz := HZB.out
          cases zb with
          | true =>
            have hz : nx = 0 ∧ ny = 0 := by have h := of_decide_eq_true hnz; simp at h; exact h
            have hr := ringL_zero HRL.out.1 HNH.out (by rw [HNX.out, hz.1, hz.2])
            subst hr
            clear hz hnz
            go_wp2_with fail
            go_ret2
            exact ⟨_, rfl, ⟨.slice none 0 0, rfl, World.ownsRow_nil _ _ _ _⟩, HB8.out⟩
          | false =>
            have hz : ¬ (nx = 0 ∧ ny = 0) := fun h => by have h2 := of_decide_eq_false hnz; exact h2 (by rw [h.1, h.2])
            have hr := ringL_next HRL.out.1 HNH.out (by rw [HNX.out]; intro h; have e1 := congrArg Prod.fst h; have e2 := congrArg Prod.snd h; exact hz ⟨e1, e2⟩)
            rw [HNX.out, HSP.out] at hr
            have HRR := Lib.hid hr
            clear hz hnz hr
            go_wp2_with fail
            go_roundg (gk - 1)
            case measure => have := HRR.out.1; omega
            case rel =>
              refine ⟨nx, ny, way ++ [(0, -1)], Lib.hid ⟨HBX.out.1, HBX.out.2, RN8.out, RJ8.out, ?_, HB8.out, HRR.out.2, ?_⟩⟩
              · rw [flatP_snoc, List.length_append, List.length_singleton]; exact HO8.out
              · rw [List.length_append, List.length_singleton]; have := HRL.out.2; have := HRR.out.1; omega
      · have hd1 : (x == a) = false := by simp [hc1]
        have hd2 : decide (x = a) = false := decide_eq_false hc1
        by_cases hc2 : y = 0
        · have hsp : stpF false a b x y = (-1, 1) := by unfold stpF; simp [hc1, hc2]
          have HSP := Lib.hid hsp
          have hd3 : (y == 0) = true := by simp [hc2]
          have hd4 : decide (y = 0) = true := decide_eq_true hc2
          clear hc1 hc2 hsp
          go_wp2_with fail
          refine wp_region_rel (by kernel_rfl) (by kernel_rfl) [31, 32, 33, 34, 35, 36, 37, 38, 30] [LitR (.int .i64 0), LitR (.pointer (some ⟨w1.heap.size + 1, 0, none⟩)), LitR (.int .i64 x), LitR (.int .i64 0), LitR (.pointer (some ⟨w1.heap.size, 1, none⟩)), LitR (.pointer (some ⟨w1.heap.size, 1, none⟩)), LitR (.int .i64 a), LitR (.bool false), LitR (.bool false)] 9 rfl (List.forall_mem_cons.2 ⟨LitR.stab _, (List.forall_mem_cons.2 ⟨LitR.stab _, (List.forall_mem_cons.2 ⟨LitR.stab _, (List.forall_mem_cons.2 ⟨LitR.stab _, (List.forall_mem_cons.2 ⟨LitR.stab _, (List.forall_mem_cons.2 ⟨LitR.stab _, (List.forall_mem_cons.2 ⟨LitR.stab _, (List.forall_mem_cons.2 ⟨LitR.stab _, (List.forall_mem_cons.2 ⟨LitR.stab _, (fun _ h => nomatch h)⟩)⟩)⟩)⟩)⟩)⟩)⟩)⟩)⟩) ⟨[u31, u32, u33, u34, u35, u36, u37, u38, u30], by simp only [putAll, Act.put, List.setIfInBounds_toArray, List.set_cons_succ, List.set_cons_zero], rfl⟩ ?steps ?fin
          case steps =>
            simp only [relSteps]
            refine ⟨?_, ?_, ?_, ?_, ?_, ?_, ?_, ?_, ?_, trivial⟩
            · rintro vs W K hc hvl hw hK
              obtain ⟨x0, x1, x2, x3, x4, x5, x6, x7, x8, rfl⟩ := len9 hvl
              have HK := Lib.hid hK
              have HC := Lib.hid hc
              have HW := Lib.hid hw
              clear hK hc hw hvl
              simp only [putAll, Act.put, List.setIfInBounds_toArray, List.set_cons_succ, List.set_cons_zero]
              clear HW
              go_wp2_with fail
              have fin := HK.out (.int .i64 0) W (Below.refl _ _) rfl
              simp only [putAll, Act.put, List.setIfInBounds_toArray, List.set_cons_succ, List.set_cons_zero] at fin
              exact fin
            · rintro vs W K hc hvl hw hK
              obtain ⟨x0, x1, x2, x3, x4, x5, x6, x7, x8, rfl⟩ := len9 hvl
              have HK := Lib.hid hK
              have HC := Lib.hid hc
              have HW := Lib.hid hw
              clear hK hc hw hvl
              have hd0 := HW.out ⟨0, .data⟩ (by simp) rfl
              obtain rfl : x0 = .int .i64 0 := rel_get hd0 rfl
              simp only [putAll, Act.put, List.setIfInBounds_toArray, List.set_cons_succ, List.set_cons_zero]
              clear HW hd0
              go_wp2_with fail
              have fin := HK.out (.pointer (some ⟨w1.heap.size + 1, 0, none⟩)) W (Below.refl _ _) rfl
              simp only [putAll, Act.put, List.setIfInBounds_toArray, List.set_cons_succ, List.set_cons_zero] at fin
              exact fin
            · rintro vs W K hc hvl hw hK
              obtain ⟨x0, x1, x2, x3, x4, x5, x6, x7, x8, rfl⟩ := len9 hvl
              have HK := Lib.hid hK
              have HC := Lib.hid hc
              have HW := Lib.hid hw
              clear hK hc hw hvl
              have hd1 := HW.out ⟨1, .data⟩ (by simp) rfl
              obtain rfl : x1 = .pointer (some ⟨w1.heap.size + 1, 0, none⟩) := rel_get hd1 rfl
              simp only [putAll, Act.put, List.setIfInBounds_toArray, List.set_cons_succ, List.set_cons_zero]
              have rr := HRNQ.out.below HC.out HRNQ.out.lt
              have c : W.cell? ⟨w1.heap.size + 1, 0, none⟩ = some (.int .i64 x) := rr.cell 0
              clear rr
              clear HW hd1
              go_wp2_with fail
              have fin := HK.out (.int .i64 x) W (Below.refl _ _) rfl
              simp only [putAll, Act.put, List.setIfInBounds_toArray, List.set_cons_succ, List.set_cons_zero] at fin
              exact fin
            · rintro vs W K hc hvl hw hK
              obtain ⟨x0, x1, x2, x3, x4, x5, x6, x7, x8, rfl⟩ := len9 hvl
              have HK := Lib.hid hK
              have HC := Lib.hid hc
              have HW := Lib.hid hw
              clear hK hc hw hvl
              simp only [putAll, Act.put, List.setIfInBounds_toArray, List.set_cons_succ, List.set_cons_zero]
              clear HW
              go_wp2_with fail
              have fin := HK.out (.int .i64 0) W (Below.refl _ _) rfl
              simp only [putAll, Act.put, List.setIfInBounds_toArray, List.set_cons_succ, List.set_cons_zero] at fin
              exact fin
            · rintro vs W K hc hvl hw hK
              obtain ⟨x0, x1, x2, x3, x4, x5, x6, x7, x8, rfl⟩ := len9 hvl
              have HK := Lib.hid hK
              have HC := Lib.hid hc
              have HW := Lib.hid hw
              clear hK hc hw hvl
              simp only [putAll, Act.put, List.setIfInBounds_toArray, List.set_cons_succ, List.set_cons_zero]
              clear HW
              go_wp2_with fail
              have fin := HK.out (.pointer (some ⟨w1.heap.size, 1, none⟩)) W (Below.refl _ _) rfl
              simp only [putAll, Act.put, List.setIfInBounds_toArray, List.set_cons_succ, List.set_cons_zero] at fin
              exact fin
            · rintro vs W K hc hvl hw hK
              obtain ⟨x0, x1, x2, x3, x4, x5, x6, x7, x8, rfl⟩ := len9 hvl
              have HK := Lib.hid hK
              have HC := Lib.hid hc
              have HW := Lib.hid hw
              clear hK hc hw hvl
              have hd4 := HW.out ⟨4, .data⟩ (by simp) rfl
              obtain rfl : x4 = .pointer (some ⟨w1.heap.size, 1, none⟩) := rel_get hd4 rfl
              have hd3 := HW.out ⟨3, .data⟩ (by simp) rfl
              obtain rfl : x3 = .int .i64 0 := rel_get hd3 rfl
              simp only [putAll, Act.put, List.setIfInBounds_toArray, List.set_cons_succ, List.set_cons_zero]
              clear HW hd3 hd4
              go_wp2_with fail
              have fin := HK.out (.pointer (some ⟨w1.heap.size, 1, none⟩)) W (Below.refl _ _) rfl
              simp only [putAll, Act.put, List.setIfInBounds_toArray, List.set_cons_succ, List.set_cons_zero] at fin
              exact fin
            · rintro vs W K hc hvl hw hK
              obtain ⟨x0, x1, x2, x3, x4, x5, x6, x7, x8, rfl⟩ := len9 hvl
              have HK := Lib.hid hK
              have HC := Lib.hid hc
              have HW := Lib.hid hw
              clear hK hc hw hvl
              have hd5 := HW.out ⟨5, .data⟩ (by simp) rfl
              obtain rfl : x5 = .pointer (some ⟨w1.heap.size, 1, none⟩) := rel_get hd5 rfl
              simp only [putAll, Act.put, List.setIfInBounds_toArray, List.set_cons_succ, List.set_cons_zero]
              have rr := HRJQ.out.below HC.out HRJQ.out.lt
              have c : W.cell? ⟨w1.heap.size, 1, none⟩ = some (.int .i64 a) := rr.cell 1
              clear rr
              clear HW hd5
              go_wp2_with fail
              have fin := HK.out (.int .i64 a) W (Below.refl _ _) rfl
              simp only [putAll, Act.put, List.setIfInBounds_toArray, List.set_cons_succ, List.set_cons_zero] at fin
              exact fin
            · rintro vs W K hc hvl hw hK
              obtain ⟨x0, x1, x2, x3, x4, x5, x6, x7, x8, rfl⟩ := len9 hvl
              have HK := Lib.hid hK
              have HC := Lib.hid hc
              have HW := Lib.hid hw
              clear hK hc hw hvl
              have hd2 := HW.out ⟨2, .data⟩ (by simp) rfl
              obtain rfl : x2 = .int .i64 x := rel_get hd2 rfl
              have hd6 := HW.out ⟨6, .data⟩ (by simp) rfl
              obtain rfl : x6 = .int .i64 a := rel_get hd6 rfl
              simp only [putAll, Act.put, List.setIfInBounds_toArray, List.set_cons_succ, List.set_cons_zero]
              clear HW hd2 hd6
              go_wp2_with fail
              have fin := HK.out (.bool false) W (Below.refl _ _) rfl
              simp only [putAll, Act.put, List.setIfInBounds_toArray, List.set_cons_succ, List.set_cons_zero] at fin
              exact fin
            · rintro vs W K hc hvl hw hK
              obtain ⟨x0, x1, x2, x3, x4, x5, x6, x7, x8, rfl⟩ := len9 hvl
              have HK := Lib.hid hK
              have HC := Lib.hid hc
              have HW := Lib.hid hw
              clear hK hc hw hvl
              have hd7 := HW.out ⟨7, .data⟩ (by simp) rfl
              obtain rfl : x7 = .bool false := rel_get hd7 rfl
              simp only [putAll, Act.put, List.setIfInBounds_toArray, List.set_cons_succ, List.set_cons_zero]
              clear HW hd7
              go_wp2_with fail
              have fin := HK.out (.bool false) W (Below.refl _ _) rfl
              simp only [putAll, Act.put, List.setIfInBounds_toArray, List.set_cons_succ, List.set_cons_zero] at fin
              exact fin
          case fin =>
            intro vs W hc hvl hv
            obtain ⟨x0, x1, x2, x3, x4, x5, x6, x7, x8, rfl⟩ := len9 hvl
            have hd8 := hv 8 (by omega)
            obtain rfl : x8 = .bool false := rel_get hd8 rfl
            clear hd8
            simp only [putAll, Act.put, List.setIfInBounds_toArray, List.set_cons_succ, List.set_cons_zero]
            have HQ1 := Lib.hid hc
            clear hv hc hvl
            have rq := HRQ.out.below HQ1.out HRQ.out.lt
            have q0 : W.cell? ⟨w3.heap.size, 0, none⟩ = some (.int .i64 0) := rq.cell 0
            have q1 : W.cell? ⟨w3.heap.size, 1, none⟩ = some (.int .i64 0) := rq.cell 1
            have z0 := frozen_of_row W w3.heap.size 0 _ _ rq
            have z1 := frozen_of_row W w3.heap.size 1 _ _ rq
            have G1 := one_set W w3.heap.size 0 (.int .i64 (-1))
            have G2 := one_set (W.setCell ⟨w3.heap.size, 0, none⟩ (.int .i64 (-1))) w3.heap.size 1 (.int .i64 (1))
            have hjl := HRJQ.out.lt
            have hnl := HRNQ.out.lt
            have hj3 := HRJ.out.lt
            have hn3 := HRN.out.lt
            have rj5 : Row ((W.setCell ⟨w3.heap.size, 0, none⟩ (.int .i64 (-1))).setCell ⟨w3.heap.size, 1, none⟩ (.int .i64 1)) w1.heap.size 80 [.int .i64 2, .int .i64 a, .int .i64 b, .int .i64 0, .int .i64 0] := ((HRJQ.out.below HQ1.out hjl).kept G1 (fun e => by have := Option.some.inj e; omega)).kept G2 (fun e => by have := Option.some.inj e; omega)
            have rn5 : Row ((W.setCell ⟨w3.heap.size, 0, none⟩ (.int .i64 (-1))).setCell ⟨w3.heap.size, 1, none⟩ (.int .i64 1)) (w1.heap.size + 1) 77 [.int .i64 x, .int .i64 y, .int .i64 0, .int .i64 0] := ((HRNQ.out.below HQ1.out hnl).kept G1 (fun e => by have := Option.some.inj e; omega)).kept G2 (fun e => by have := Option.some.inj e; omega)
            have rq5 : Row ((W.setCell ⟨w3.heap.size, 0, none⟩ (.int .i64 (-1))).setCell ⟨w3.heap.size, 1, none⟩ (.int .i64 1)) w3.heap.size 48 [.int .i64 (-1), .int .i64 1] := (rq.set 0 (.int .i64 (-1))).set 1 (.int .i64 1)
            have ho5 : World.ownsRow ((W.setCell ⟨w3.heap.size, 0, none⟩ (.int .i64 (-1))).setCell ⟨w3.heap.size, 1, none⟩ (.int .i64 1)) w.heap.size 48 2 u14 way.length (flatP way) := ((own_grow (own_grow HO.out HQ0.out) HQ1.out).kept G1 (own_ne HO.out (by omega))).kept G2 (own_ne HO.out (by omega))
            have hb5 : Below w.heap.size w ((W.setCell ⟨w3.heap.size, 0, none⟩ (.int .i64 (-1))).setCell ⟨w3.heap.size, 1, none⟩ (.int .i64 1)) := ((Below.andThen (Below.andThen HW.out HQ0.out (Nat.le_refl _)) HQ1.out (Nat.le_refl _)).grown G1 (by have := HW.out.size; have := HQ0.out.size; have := HQ1.out.size; omega) (fun k e => by have := Option.some.inj e; have := HW.out.size; omega)).grown G2 (by have := HW.out.size; have := HQ0.out.size; have := HQ1.out.size; have := G1.size; omega) (fun k e => by have := Option.some.inj e; have := HW.out.size; omega)
            have nf : W.cell? ⟨w1.heap.size + 1, 1, none⟩ = some (.int .i64 y) := (HRNQ.out.below HQ1.out HRNQ.out.lt).cell 1
            clear G1 G2 hjl hnl hj3 hn3
            have j0 : ((W.setCell ⟨w3.heap.size, 0, none⟩ (.int .i64 (-1))).setCell ⟨w3.heap.size, 1, none⟩ (.int .i64 1)).cell? ⟨w1.heap.size, 0, none⟩ = some (.int .i64 2) := rj5.cell 0
            have j1 : ((W.setCell ⟨w3.heap.size, 0, none⟩ (.int .i64 (-1))).setCell ⟨w3.heap.size, 1, none⟩ (.int .i64 1)).cell? ⟨w1.heap.size, 1, none⟩ = some (.int .i64 a) := rj5.cell 1
            have j2 : ((W.setCell ⟨w3.heap.size, 0, none⟩ (.int .i64 (-1))).setCell ⟨w3.heap.size, 1, none⟩ (.int .i64 1)).cell? ⟨w1.heap.size, 2, none⟩ = some (.int .i64 b) := rj5.cell 2
            have j3 : ((W.setCell ⟨w3.heap.size, 0, none⟩ (.int .i64 (-1))).setCell ⟨w3.heap.size, 1, none⟩ (.int .i64 1)).cell? ⟨w1.heap.size, 3, none⟩ = some (.int .i64 0) := rj5.cell 3
            have j4 : ((W.setCell ⟨w3.heap.size, 0, none⟩ (.int .i64 (-1))).setCell ⟨w3.heap.size, 1, none⟩ (.int .i64 1)).cell? ⟨w1.heap.size, 4, none⟩ = some (.int .i64 0) := rj5.cell 4
            have n0 : ((W.setCell ⟨w3.heap.size, 0, none⟩ (.int .i64 (-1))).setCell ⟨w3.heap.size, 1, none⟩ (.int .i64 1)).cell? ⟨w1.heap.size + 1, 0, none⟩ = some (.int .i64 x) := rn5.cell 0
            have n1 : ((W.setCell ⟨w3.heap.size, 0, none⟩ (.int .i64 (-1))).setCell ⟨w3.heap.size, 1, none⟩ (.int .i64 1)).cell? ⟨w1.heap.size + 1, 1, none⟩ = some (.int .i64 y) := rn5.cell 1
            have n2 : ((W.setCell ⟨w3.heap.size, 0, none⟩ (.int .i64 (-1))).setCell ⟨w3.heap.size, 1, none⟩ (.int .i64 1)).cell? ⟨w1.heap.size + 1, 2, none⟩ = some (.int .i64 0) := rn5.cell 2
            have n3 : ((W.setCell ⟨w3.heap.size, 0, none⟩ (.int .i64 (-1))).setCell ⟨w3.heap.size, 1, none⟩ (.int .i64 1)).cell? ⟨w1.heap.size + 1, 3, none⟩ = some (.int .i64 0) := rn5.cell 3
            have p0 : ((W.setCell ⟨w3.heap.size, 0, none⟩ (.int .i64 (-1))).setCell ⟨w3.heap.size, 1, none⟩ (.int .i64 1)).cell? ⟨w3.heap.size, 0, none⟩ = some (.int .i64 (-1)) := rq5.cell 0
            have p1 : ((W.setCell ⟨w3.heap.size, 0, none⟩ (.int .i64 (-1))).setCell ⟨w3.heap.size, 1, none⟩ (.int .i64 1)).cell? ⟨w3.heap.size, 1, none⟩ = some (.int .i64 1) := rq5.cell 1
            have RJ5 := Lib.hid rj5
            have RN5 := Lib.hid rn5
            have RQ5 := Lib.hid rq5
            have HO5 := Lib.hid ho5
            have HB5 := Lib.hid hb5
            clear rq rj5 rn5 rq5 ho5 hb5
            go_wp2_with fail
            have hcall := HCA.out (-1, 1) HSP.out
            dsimp only at hcall
            refine (hcall _).mono ?_
            rintro e w6 ⟨rfl, hb6⟩
            clear hcall j0 j1 j2 j3 j4 n0 n1 n2 n3 p0 p1 q0 q1 z0 z1 nf
            have rj6 := RJ5.out.below hb6 RJ5.out.lt
            have rn6 := RN5.out.below hb6 RN5.out.lt
            have rq6 := RQ5.out.below hb6 RQ5.out.lt
            have ho6 := own_grow HO5.out hb6
            have hb6' := Below.andThen HB5.out hb6 (Nat.le_refl _)
            have n0 : w6.cell? ⟨w1.heap.size + 1, 0, none⟩ = some (.int .i64 x) := rn6.cell 0
            have n1 : w6.cell? ⟨w1.heap.size + 1, 1, none⟩ = some (.int .i64 y) := rn6.cell 1
            have n2 : w6.cell? ⟨w1.heap.size + 1, 2, none⟩ = some (.int .i64 0) := rn6.cell 2
            have n3 : w6.cell? ⟨w1.heap.size + 1, 3, none⟩ = some (.int .i64 0) := rn6.cell 3
            have f0 := frozen_of_row w6 (w1.heap.size + 1) 0 _ _ rn6
            have f1 := frozen_of_row w6 (w1.heap.size + 1) 1 _ _ rn6
            have f2 := frozen_of_row w6 (w1.heap.size + 1) 2 _ _ rn6
            have f3 := frozen_of_row w6 (w1.heap.size + 1) 3 _ _ rn6
            have G7 : w6.grownBy ((((w6.setCell ⟨w1.heap.size + 1, 0, none⟩ (.int .i64 nx)).setCell ⟨w1.heap.size + 1, 1, none⟩ (.int .i64 ny)).setCell ⟨w1.heap.size + 1, 2, none⟩ (.int .i64 0)).setCell ⟨w1.heap.size + 1, 3, none⟩ (.int .i64 0)) (some (w1.heap.size + 1)) := (((one_set _ _ _ _).trans (one_set _ _ _ _)).trans (one_set _ _ _ _)).trans (one_set _ _ _ _)
            have rn7 : Row ((((w6.setCell ⟨w1.heap.size + 1, 0, none⟩ (.int .i64 nx)).setCell ⟨w1.heap.size + 1, 1, none⟩ (.int .i64 ny)).setCell ⟨w1.heap.size + 1, 2, none⟩ (.int .i64 0)).setCell ⟨w1.heap.size + 1, 3, none⟩ (.int .i64 0)) (w1.heap.size + 1) 77 [.int .i64 nx, .int .i64 ny, .int .i64 0, .int .i64 0] := (((rn6.set 0 (.int .i64 nx)).set 1 (.int .i64 ny)).set 2 (.int .i64 0)).set 3 (.int .i64 0)
            have rj7 : Row ((((w6.setCell ⟨w1.heap.size + 1, 0, none⟩ (.int .i64 nx)).setCell ⟨w1.heap.size + 1, 1, none⟩ (.int .i64 ny)).setCell ⟨w1.heap.size + 1, 2, none⟩ (.int .i64 0)).setCell ⟨w1.heap.size + 1, 3, none⟩ (.int .i64 0)) w1.heap.size 80 [.int .i64 2, .int .i64 a, .int .i64 b, .int .i64 0, .int .i64 0] := rj6.kept G7 (fun e => by have := Option.some.inj e; omega)
            have rq7 : Row ((((w6.setCell ⟨w1.heap.size + 1, 0, none⟩ (.int .i64 nx)).setCell ⟨w1.heap.size + 1, 1, none⟩ (.int .i64 ny)).setCell ⟨w1.heap.size + 1, 2, none⟩ (.int .i64 0)).setCell ⟨w1.heap.size + 1, 3, none⟩ (.int .i64 0)) w3.heap.size 48 [.int .i64 (-1), .int .i64 1] := rq6.kept G7 (fun e => by have := Option.some.inj e; have := HRN.out.lt; omega)
            have ho7 : World.ownsRow ((((w6.setCell ⟨w1.heap.size + 1, 0, none⟩ (.int .i64 nx)).setCell ⟨w1.heap.size + 1, 1, none⟩ (.int .i64 ny)).setCell ⟨w1.heap.size + 1, 2, none⟩ (.int .i64 0)).setCell ⟨w1.heap.size + 1, 3, none⟩ (.int .i64 0)) w.heap.size 48 2 u14 way.length (flatP way) := ho6.kept G7 (owns_row_ne ho6 rn6 (by decide))
            have hb7 : Below w.heap.size w ((((w6.setCell ⟨w1.heap.size + 1, 0, none⟩ (.int .i64 nx)).setCell ⟨w1.heap.size + 1, 1, none⟩ (.int .i64 ny)).setCell ⟨w1.heap.size + 1, 2, none⟩ (.int .i64 0)).setCell ⟨w1.heap.size + 1, 3, none⟩ (.int .i64 0)) := hb6'.grown G7 hb6'.size (fun k e => by have := Option.some.inj e; have := BJ0.out; omega)
            have p0 : ((((w6.setCell ⟨w1.heap.size + 1, 0, none⟩ (.int .i64 nx)).setCell ⟨w1.heap.size + 1, 1, none⟩ (.int .i64 ny)).setCell ⟨w1.heap.size + 1, 2, none⟩ (.int .i64 0)).setCell ⟨w1.heap.size + 1, 3, none⟩ (.int .i64 0)).cell? ⟨w3.heap.size, 0, none⟩ = some (.int .i64 (-1)) := rq7.cell 0
            have p1 : ((((w6.setCell ⟨w1.heap.size + 1, 0, none⟩ (.int .i64 nx)).setCell ⟨w1.heap.size + 1, 1, none⟩ (.int .i64 ny)).setCell ⟨w1.heap.size + 1, 2, none⟩ (.int .i64 0)).setCell ⟨w1.heap.size + 1, 3, none⟩ (.int .i64 0)).cell? ⟨w3.heap.size, 1, none⟩ = some (.int .i64 1) := rq7.cell 1
            have ba7 := (Below.refl ((((w6.setCell ⟨w1.heap.size + 1, 0, none⟩ (.int .i64 nx)).setCell ⟨w1.heap.size + 1, 1, none⟩ (.int .i64 ny)).setCell ⟨w1.heap.size + 1, 2, none⟩ (.int .i64 0)).setCell ⟨w1.heap.size + 1, 3, none⟩ (.int .i64 0)).heap.size ((((w6.setCell ⟨w1.heap.size + 1, 0, none⟩ (.int .i64 nx)).setCell ⟨w1.heap.size + 1, 1, none⟩ (.int .i64 ny)).setCell ⟨w1.heap.size + 1, 2, none⟩ (.int .i64 0)).setCell ⟨w1.heap.size + 1, 3, none⟩ (.int .i64 0))).alloc (Nat.le_refl _) (.cells #[.int .i64 (-1), .int .i64 1] 48)
            have rn7a := rn7.below ba7 rn7.lt
            have rj7a := rj7.below ba7 rj7.lt
            have ho7a := own_grow ho7 ba7
            have hb7a := Below.andThen hb7 ba7 (Nat.le_refl _)
            have hcl := Row.cell (Row.new ((((w6.setCell ⟨w1.heap.size + 1, 0, none⟩ (.int .i64 nx)).setCell ⟨w1.heap.size + 1, 1, none⟩ (.int .i64 ny)).setCell ⟨w1.heap.size + 1, 2, none⟩ (.int .i64 0)).setCell ⟨w1.heap.size + 1, 3, none⟩ (.int .i64 0)) 48 [.int .i64 (-1), .int .i64 1])
            have hz7 : ((((w6.setCell ⟨w1.heap.size + 1, 0, none⟩ (.int .i64 nx)).setCell ⟨w1.heap.size + 1, 1, none⟩ (.int .i64 ny)).setCell ⟨w1.heap.size + 1, 2, none⟩ (.int .i64 0)).setCell ⟨w1.heap.size + 1, 3, none⟩ (.int .i64 0)).heap.size = w6.heap.size := by simp
            have HCL := Lib.hid (fun (j : Nat) (u : Value) (hj : ([.int .i64 (-1), .int .i64 1] : List Value)[j]? = some u) => show (((((w6.setCell ⟨w1.heap.size + 1, 0, none⟩ (.int .i64 nx)).setCell ⟨w1.heap.size + 1, 1, none⟩ (.int .i64 ny)).setCell ⟨w1.heap.size + 1, 2, none⟩ (.int .i64 0)).setCell ⟨w1.heap.size + 1, 3, none⟩ (.int .i64 0)).alloc (.cells #[.int .i64 (-1), .int .i64 1] 48)).cell? ((⟨w6.heap.size, 0, none⟩ : Addr).add j) = some u by rw [Go.WideShapes.add_plain]; simp only [Nat.zero_add]; rw [← hz7, hcl]; exact hj)
            have RN7 := Lib.hid rn7a
            have RJ7 := Lib.hid rj7a
            have HO7 := Lib.hid ho7a
            have HB7 := Lib.hid hb7a
            obtain ⟨zb, hzb⟩ : ∃ zb, decide ([nx, ny, 0, 0] = [0, 0, 0, 0]) = zb := ⟨_, rfl⟩
            have heq := fun W => eq77 nx ny 0 0 0 0 0 0 W
            rw [hzb] at heq
            have HEQ := Lib.hid heq
            have HZB := Lib.hid hzb
            have hwl : way.length ≤ 100000 := by have := HRL.out.2; omega
            clear hz7 rj6 rn6 rq6 ho6 hb6' hb6 G7 rn7 rj7 rq7 ho7 hb7 ba7 rn7a rj7a ho7a hb7a hcl heq hzb
            go_wp2_with (at_builtin; refine wpList_append_own_at _ rfl _ _ 27 rfl w.heap.size 48 i0 (.agg #[.int .i64 0, .int .i64 0]) 2 16 Try.underlying27 hi hz0 hz1 hz2 rfl (by decide) u14 way.length (flatP way) rfl HO7.out ⟨w6.heap.size, 0, none⟩ 1 1 [.int .i64 (-1), .int .i64 1] rfl rfl HCL.out (by simp [Value.oneCell']) (by unfold maxLen; omega) (by omega) HB7.out.size ?_; intro v8 w8 hown8 hg8 hnil8 hat8; have rn8 := RN7.out.kept hg8 (own_ne3 HO7.out RN7.out (by decide)); have rj8 := RJ7.out.kept hg8 (own_ne3 HO7.out RJ7.out (by decide)); have hb8 := HB7.out.grown hg8 HB7.out.size (fun k e => (HO7.out.lt k e).1); have m0 : w8.cell? ⟨w1.heap.size + 1, 0, none⟩ = some (.int .i64 nx) := rn8.cell 0; have m1 : w8.cell? ⟨w1.heap.size + 1, 1, none⟩ = some (.int .i64 ny) := rn8.cell 1; have m2 : w8.cell? ⟨w1.heap.size + 1, 2, none⟩ = some (.int .i64 0) := rn8.cell 2; have m3 : w8.cell? ⟨w1.heap.size + 1, 3, none⟩ = some (.int .i64 0) := rn8.cell 3; have RN8 := Lib.hid rn8; have RJ8 := Lib.hid rj8; have HB8 := Lib.hid hb8; have HO8 := Lib.hid hown8; clear rn8 rj8 hb8 hown8 hg8 hnil8 hat8)
            rw [HEQ.out, Result.andThen_ok]
            clear m0 m1 m2 m3 n0 n1 n2 n3 f0 f1 f2 f3 p0 p1
            have hnz := HZB.out
            cases zb with
            | true =>
              have hz : nx = 0 ∧ ny = 0 := by have h := of_decide_eq_true hnz; simp at h; exact h
              have hr := ringL_zero HRL.out.1 HNH.out (by rw [HNX.out, hz.1, hz.2])
              subst hr
              clear hz hnz
              go_wp2_with fail
              go_ret2
              exact ⟨_, rfl, ⟨.slice none 0 0, rfl, World.ownsRow_nil _ _ _ _⟩, HB8.out⟩
            | false =>
              have hz : ¬ (nx = 0 ∧ ny = 0) := fun h => by have h2 := of_decide_eq_false hnz; exact h2 (by rw [h.1, h.2])
              have hr := ringL_next HRL.out.1 HNH.out (by rw [HNX.out]; intro h; have e1 := congrArg Prod.fst h; have e2 := congrArg Prod.snd h; exact hz ⟨e1, e2⟩)
              rw [HNX.out, HSP.out] at hr
              have HRR := Lib.hid hr
              clear hz hnz hr
              go_wp2_with fail
              go_roundg (gk - 1)
              case measure => have := HRR.out.1; omega
              case rel =>
                refine ⟨nx, ny, way ++ [(-1, 1)], Lib.hid ⟨HBX.out.1, HBX.out.2, RN8.out, RJ8.out, ?_, HB8.out, HRR.out.2, ?_⟩⟩
                · rw [flatP_snoc, List.length_append, List.length_singleton]; exact HO8.out
                · rw [List.length_append, List.length_singleton]; have := HRL.out.2; have := HRR.out.1; omega
        · have hsp : stpF false a b x y = (1, 0) := by unfold stpF; simp [hc1, hc2]
          have HSP := Lib.hid hsp
          have hd3 : (y == 0) = false := by simp [hc2]
          have hd4 : decide (y = 0) = false := decide_eq_false hc2
          clear hc1 hc2 hsp
          go_wp2_with fail
          refine wp_region_rel (by kernel_rfl) (by kernel_rfl) [31, 32, 33, 34, 35, 36, 37, 38, 30] [LitR (.int .i64 0), LitR (.pointer (some ⟨w1.heap.size + 1, 0, none⟩)), LitR (.int .i64 x), LitR (.int .i64 0), LitR (.pointer (some ⟨w1.heap.size, 1, none⟩)), LitR (.pointer (some ⟨w1.heap.size, 1, none⟩)), LitR (.int .i64 a), LitR (.bool false), LitR (.bool false)] 9 rfl (List.forall_mem_cons.2 ⟨LitR.stab _, (List.forall_mem_cons.2 ⟨LitR.stab _, (List.forall_mem_cons.2 ⟨LitR.stab _, (List.forall_mem_cons.2 ⟨LitR.stab _, (List.forall_mem_cons.2 ⟨LitR.stab _, (List.forall_mem_cons.2 ⟨LitR.stab _, (List.forall_mem_cons.2 ⟨LitR.stab _, (List.forall_mem_cons.2 ⟨LitR.stab _, (List.forall_mem_cons.2 ⟨LitR.stab _, (fun _ h => nomatch h)⟩)⟩)⟩)⟩)⟩)⟩)⟩)⟩)⟩) ⟨[u31, u32, u33, u34, u35, u36, u37, u38, u30], by simp only [putAll, Act.put, List.setIfInBounds_toArray, List.set_cons_succ, List.set_cons_zero], rfl⟩ ?steps ?fin
          case steps =>
            simp only [relSteps]
            refine ⟨?_, ?_, ?_, ?_, ?_, ?_, ?_, ?_, ?_, trivial⟩
            · rintro vs W K hc hvl hw hK
              obtain ⟨x0, x1, x2, x3, x4, x5, x6, x7, x8, rfl⟩ := len9 hvl
              have HK := Lib.hid hK
              have HC := Lib.hid hc
              have HW := Lib.hid hw
              clear hK hc hw hvl
              simp only [putAll, Act.put, List.setIfInBounds_toArray, List.set_cons_succ, List.set_cons_zero]
              clear HW
              go_wp2_with fail
              have fin := HK.out (.int .i64 0) W (Below.refl _ _) rfl
              simp only [putAll, Act.put, List.setIfInBounds_toArray, List.set_cons_succ, List.set_cons_zero] at fin
              exact fin
            · rintro vs W K hc hvl hw hK
              obtain ⟨x0, x1, x2, x3, x4, x5, x6, x7, x8, rfl⟩ := len9 hvl
              have HK := Lib.hid hK
              have HC := Lib.hid hc
              have HW := Lib.hid hw
              clear hK hc hw hvl
              have hd0 := HW.out ⟨0, .data⟩ (by simp) rfl
              obtain rfl : x0 = .int .i64 0 := rel_get hd0 rfl
              simp only [putAll, Act.put, List.setIfInBounds_toArray, List.set_cons_succ, List.set_cons_zero]
              clear HW hd0
              go_wp2_with fail
              have fin := HK.out (.pointer (some ⟨w1.heap.size + 1, 0, none⟩)) W (Below.refl _ _) rfl
              simp only [putAll, Act.put, List.setIfInBounds_toArray, List.set_cons_succ, List.set_cons_zero] at fin
              exact fin
            · rintro vs W K hc hvl hw hK
              obtain ⟨x0, x1, x2, x3, x4, x5, x6, x7, x8, rfl⟩ := len9 hvl
              have HK := Lib.hid hK
              have HC := Lib.hid hc
              have HW := Lib.hid hw
              clear hK hc hw hvl
              have hd1 := HW.out ⟨1, .data⟩ (by simp) rfl
              obtain rfl : x1 = .pointer (some ⟨w1.heap.size + 1, 0, none⟩) := rel_get hd1 rfl
              simp only [putAll, Act.put, List.setIfInBounds_toArray, List.set_cons_succ, List.set_cons_zero]
              have rr := HRNQ.out.below HC.out HRNQ.out.lt
              have c : W.cell? ⟨w1.heap.size + 1, 0, none⟩ = some (.int .i64 x) := rr.cell 0
              clear rr
              clear HW hd1
              go_wp2_with fail
              have fin := HK.out (.int .i64 x) W (Below.refl _ _) rfl
              simp only [putAll, Act.put, List.setIfInBounds_toArray, List.set_cons_succ, List.set_cons_zero] at fin
              exact fin
            · rintro vs W K hc hvl hw hK
              obtain ⟨x0, x1, x2, x3, x4, x5, x6, x7, x8, rfl⟩ := len9 hvl
              have HK := Lib.hid hK
              have HC := Lib.hid hc
              have HW := Lib.hid hw
              clear hK hc hw hvl
              simp only [putAll, Act.put, List.setIfInBounds_toArray, List.set_cons_succ, List.set_cons_zero]
              clear HW
              go_wp2_with fail
              have fin := HK.out (.int .i64 0) W (Below.refl _ _) rfl
              simp only [putAll, Act.put, List.setIfInBounds_toArray, List.set_cons_succ, List.set_cons_zero] at fin
              exact fin
            · rintro vs W K hc hvl hw hK
              obtain ⟨x0, x1, x2, x3, x4, x5, x6, x7, x8, rfl⟩ := len9 hvl
              have HK := Lib.hid hK
              have HC := Lib.hid hc
              have HW := Lib.hid hw
              clear hK hc hw hvl
              simp only [putAll, Act.put, List.setIfInBounds_toArray, List.set_cons_succ, List.set_cons_zero]
              clear HW
              go_wp2_with fail
              have fin := HK.out (.pointer (some ⟨w1.heap.size, 1, none⟩)) W (Below.refl _ _) rfl
              simp only [putAll, Act.put, List.setIfInBounds_toArray, List.set_cons_succ, List.set_cons_zero] at fin
              exact fin
            · rintro vs W K hc hvl hw hK
              obtain ⟨x0, x1, x2, x3, x4, x5, x6, x7, x8, rfl⟩ := len9 hvl
              have HK := Lib.hid hK
              have HC := Lib.hid hc
              have HW := Lib.hid hw
              clear hK hc hw hvl
              have hd4 := HW.out ⟨4, .data⟩ (by simp) rfl
              obtain rfl : x4 = .pointer (some ⟨w1.heap.size, 1, none⟩) := rel_get hd4 rfl
              have hd3 := HW.out ⟨3, .data⟩ (by simp) rfl
              obtain rfl : x3 = .int .i64 0 := rel_get hd3 rfl
              simp only [putAll, Act.put, List.setIfInBounds_toArray, List.set_cons_succ, List.set_cons_zero]
              clear HW hd3 hd4
              go_wp2_with fail
              have fin := HK.out (.pointer (some ⟨w1.heap.size, 1, none⟩)) W (Below.refl _ _) rfl
              simp only [putAll, Act.put, List.setIfInBounds_toArray, List.set_cons_succ, List.set_cons_zero] at fin
              exact fin
            · rintro vs W K hc hvl hw hK
              obtain ⟨x0, x1, x2, x3, x4, x5, x6, x7, x8, rfl⟩ := len9 hvl
              have HK := Lib.hid hK
              have HC := Lib.hid hc
              have HW := Lib.hid hw
              clear hK hc hw hvl
              have hd5 := HW.out ⟨5, .data⟩ (by simp) rfl
              obtain rfl : x5 = .pointer (some ⟨w1.heap.size, 1, none⟩) := rel_get hd5 rfl
              simp only [putAll, Act.put, List.setIfInBounds_toArray, List.set_cons_succ, List.set_cons_zero]
              have rr := HRJQ.out.below HC.out HRJQ.out.lt
              have c : W.cell? ⟨w1.heap.size, 1, none⟩ = some (.int .i64 a) := rr.cell 1
              clear rr
              clear HW hd5
              go_wp2_with fail
              have fin := HK.out (.int .i64 a) W (Below.refl _ _) rfl
              simp only [putAll, Act.put, List.setIfInBounds_toArray, List.set_cons_succ, List.set_cons_zero] at fin
              exact fin
            · rintro vs W K hc hvl hw hK
              obtain ⟨x0, x1, x2, x3, x4, x5, x6, x7, x8, rfl⟩ := len9 hvl
              have HK := Lib.hid hK
              have HC := Lib.hid hc
              have HW := Lib.hid hw
              clear hK hc hw hvl
              have hd2 := HW.out ⟨2, .data⟩ (by simp) rfl
              obtain rfl : x2 = .int .i64 x := rel_get hd2 rfl
              have hd6 := HW.out ⟨6, .data⟩ (by simp) rfl
              obtain rfl : x6 = .int .i64 a := rel_get hd6 rfl
              simp only [putAll, Act.put, List.setIfInBounds_toArray, List.set_cons_succ, List.set_cons_zero]
              clear HW hd2 hd6
              go_wp2_with fail
              have fin := HK.out (.bool false) W (Below.refl _ _) rfl
              simp only [putAll, Act.put, List.setIfInBounds_toArray, List.set_cons_succ, List.set_cons_zero] at fin
              exact fin
            · rintro vs W K hc hvl hw hK
              obtain ⟨x0, x1, x2, x3, x4, x5, x6, x7, x8, rfl⟩ := len9 hvl
              have HK := Lib.hid hK
              have HC := Lib.hid hc
              have HW := Lib.hid hw
              clear hK hc hw hvl
              have hd7 := HW.out ⟨7, .data⟩ (by simp) rfl
              obtain rfl : x7 = .bool false := rel_get hd7 rfl
              simp only [putAll, Act.put, List.setIfInBounds_toArray, List.set_cons_succ, List.set_cons_zero]
              clear HW hd7
              go_wp2_with fail
              have fin := HK.out (.bool false) W (Below.refl _ _) rfl
              simp only [putAll, Act.put, List.setIfInBounds_toArray, List.set_cons_succ, List.set_cons_zero] at fin
              exact fin
          case fin =>
            intro vs W hc hvl hv
            obtain ⟨x0, x1, x2, x3, x4, x5, x6, x7, x8, rfl⟩ := len9 hvl
            have hd8 := hv 8 (by omega)
            obtain rfl : x8 = .bool false := rel_get hd8 rfl
            clear hd8
            simp only [putAll, Act.put, List.setIfInBounds_toArray, List.set_cons_succ, List.set_cons_zero]
            have HQ1 := Lib.hid hc
            clear hv hc hvl
            have rq := HRQ.out.below HQ1.out HRQ.out.lt
            have q0 : W.cell? ⟨w3.heap.size, 0, none⟩ = some (.int .i64 0) := rq.cell 0
            have q1 : W.cell? ⟨w3.heap.size, 1, none⟩ = some (.int .i64 0) := rq.cell 1
            have z0 := frozen_of_row W w3.heap.size 0 _ _ rq
            have z1 := frozen_of_row W w3.heap.size 1 _ _ rq
            have G1 := one_set W w3.heap.size 0 (.int .i64 (1))
            have G2 := one_set (W.setCell ⟨w3.heap.size, 0, none⟩ (.int .i64 (1))) w3.heap.size 1 (.int .i64 (0))
            have hjl := HRJQ.out.lt
            have hnl := HRNQ.out.lt
            have hj3 := HRJ.out.lt
            have hn3 := HRN.out.lt
            have rj5 : Row ((W.setCell ⟨w3.heap.size, 0, none⟩ (.int .i64 1)).setCell ⟨w3.heap.size, 1, none⟩ (.int .i64 0)) w1.heap.size 80 [.int .i64 2, .int .i64 a, .int .i64 b, .int .i64 0, .int .i64 0] := ((HRJQ.out.below HQ1.out hjl).kept G1 (fun e => by have := Option.some.inj e; omega)).kept G2 (fun e => by have := Option.some.inj e; omega)
            have rn5 : Row ((W.setCell ⟨w3.heap.size, 0, none⟩ (.int .i64 1)).setCell ⟨w3.heap.size, 1, none⟩ (.int .i64 0)) (w1.heap.size + 1) 77 [.int .i64 x, .int .i64 y, .int .i64 0, .int .i64 0] := ((HRNQ.out.below HQ1.out hnl).kept G1 (fun e => by have := Option.some.inj e; omega)).kept G2 (fun e => by have := Option.some.inj e; omega)
            have rq5 : Row ((W.setCell ⟨w3.heap.size, 0, none⟩ (.int .i64 1)).setCell ⟨w3.heap.size, 1, none⟩ (.int .i64 0)) w3.heap.size 48 [.int .i64 1, .int .i64 0] := (rq.set 0 (.int .i64 1)).set 1 (.int .i64 0)
            have ho5 : World.ownsRow ((W.setCell ⟨w3.heap.size, 0, none⟩ (.int .i64 1)).setCell ⟨w3.heap.size, 1, none⟩ (.int .i64 0)) w.heap.size 48 2 u14 way.length (flatP way) := ((own_grow (own_grow HO.out HQ0.out) HQ1.out).kept G1 (own_ne HO.out (by omega))).kept G2 (own_ne HO.out (by omega))
            have hb5 : Below w.heap.size w ((W.setCell ⟨w3.heap.size, 0, none⟩ (.int .i64 1)).setCell ⟨w3.heap.size, 1, none⟩ (.int .i64 0)) := ((Below.andThen (Below.andThen HW.out HQ0.out (Nat.le_refl _)) HQ1.out (Nat.le_refl _)).grown G1 (by have := HW.out.size; have := HQ0.out.size; have := HQ1.out.size; omega) (fun k e => by have := Option.some.inj e; have := HW.out.size; omega)).grown G2 (by have := HW.out.size; have := HQ0.out.size; have := HQ1.out.size; have := G1.size; omega) (fun k e => by have := Option.some.inj e; have := HW.out.size; omega)
            have nf : W.cell? ⟨w1.heap.size + 1, 1, none⟩ = some (.int .i64 y) := (HRNQ.out.below HQ1.out HRNQ.out.lt).cell 1
            clear G1 G2 hjl hnl hj3 hn3
            have j0 : ((W.setCell ⟨w3.heap.size, 0, none⟩ (.int .i64 1)).setCell ⟨w3.heap.size, 1, none⟩ (.int .i64 0)).cell? ⟨w1.heap.size, 0, none⟩ = some (.int .i64 2) := rj5.cell 0
            have j1 : ((W.setCell ⟨w3.heap.size, 0, none⟩ (.int .i64 1)).setCell ⟨w3.heap.size, 1, none⟩ (.int .i64 0)).cell? ⟨w1.heap.size, 1, none⟩ = some (.int .i64 a) := rj5.cell 1
            have j2 : ((W.setCell ⟨w3.heap.size, 0, none⟩ (.int .i64 1)).setCell ⟨w3.heap.size, 1, none⟩ (.int .i64 0)).cell? ⟨w1.heap.size, 2, none⟩ = some (.int .i64 b) := rj5.cell 2
            have j3 : ((W.setCell ⟨w3.heap.size, 0, none⟩ (.int .i64 1)).setCell ⟨w3.heap.size, 1, none⟩ (.int .i64 0)).cell? ⟨w1.heap.size, 3, none⟩ = some (.int .i64 0) := rj5.cell 3
            have j4 : ((W.setCell ⟨w3.heap.size, 0, none⟩ (.int .i64 1)).setCell ⟨w3.heap.size, 1, none⟩ (.int .i64 0)).cell? ⟨w1.heap.size, 4, none⟩ = some (.int .i64 0) := rj5.cell 4
            have n0 : ((W.setCell ⟨w3.heap.size, 0, none⟩ (.int .i64 1)).setCell ⟨w3.heap.size, 1, none⟩ (.int .i64 0)).cell? ⟨w1.heap.size + 1, 0, none⟩ = some (.int .i64 x) := rn5.cell 0
            have n1 : ((W.setCell ⟨w3.heap.size, 0, none⟩ (.int .i64 1)).setCell ⟨w3.heap.size, 1, none⟩ (.int .i64 0)).cell? ⟨w1.heap.size + 1, 1, none⟩ = some (.int .i64 y) := rn5.cell 1
            have n2 : ((W.setCell ⟨w3.heap.size, 0, none⟩ (.int .i64 1)).setCell ⟨w3.heap.size, 1, none⟩ (.int .i64 0)).cell? ⟨w1.heap.size + 1, 2, none⟩ = some (.int .i64 0) := rn5.cell 2
            have n3 : ((W.setCell ⟨w3.heap.size, 0, none⟩ (.int .i64 1)).setCell ⟨w3.heap.size, 1, none⟩ (.int .i64 0)).cell? ⟨w1.heap.size + 1, 3, none⟩ = some (.int .i64 0) := rn5.cell 3
            have p0 : ((W.setCell ⟨w3.heap.size, 0, none⟩ (.int .i64 1)).setCell ⟨w3.heap.size, 1, none⟩ (.int .i64 0)).cell? ⟨w3.heap.size, 0, none⟩ = some (.int .i64 1) := rq5.cell 0
            have p1 : ((W.setCell ⟨w3.heap.size, 0, none⟩ (.int .i64 1)).setCell ⟨w3.heap.size, 1, none⟩ (.int .i64 0)).cell? ⟨w3.heap.size, 1, none⟩ = some (.int .i64 0) := rq5.cell 1
            have RJ5 := Lib.hid rj5
            have RN5 := Lib.hid rn5
            have RQ5 := Lib.hid rq5
            have HO5 := Lib.hid ho5
            have HB5 := Lib.hid hb5
            clear rq rj5 rn5 rq5 ho5 hb5
            go_wp2_with fail
            have hcall := HCA.out (1, 0) HSP.out
            dsimp only at hcall
            refine (hcall _).mono ?_
            rintro e w6 ⟨rfl, hb6⟩
            clear hcall j0 j1 j2 j3 j4 n0 n1 n2 n3 p0 p1 q0 q1 z0 z1 nf
            have rj6 := RJ5.out.below hb6 RJ5.out.lt
            have rn6 := RN5.out.below hb6 RN5.out.lt
            have rq6 := RQ5.out.below hb6 RQ5.out.lt
            have ho6 := own_grow HO5.out hb6
            have hb6' := Below.andThen HB5.out hb6 (Nat.le_refl _)
            have n0 : w6.cell? ⟨w1.heap.size + 1, 0, none⟩ = some (.int .i64 x) := rn6.cell 0
            have n1 : w6.cell? ⟨w1.heap.size + 1, 1, none⟩ = some (.int .i64 y) := rn6.cell 1
            have n2 : w6.cell? ⟨w1.heap.size + 1, 2, none⟩ = some (.int .i64 0) := rn6.cell 2
            have n3 : w6.cell? ⟨w1.heap.size + 1, 3, none⟩ = some (.int .i64 0) := rn6.cell 3
            have f0 := frozen_of_row w6 (w1.heap.size + 1) 0 _ _ rn6
            have f1 := frozen_of_row w6 (w1.heap.size + 1) 1 _ _ rn6
            have f2 := frozen_of_row w6 (w1.heap.size + 1) 2 _ _ rn6
            have f3 := frozen_of_row w6 (w1.heap.size + 1) 3 _ _ rn6
            have G7 : w6.grownBy ((((w6.setCell ⟨w1.heap.size + 1, 0, none⟩ (.int .i64 nx)).setCell ⟨w1.heap.size + 1, 1, none⟩ (.int .i64 ny)).setCell ⟨w1.heap.size + 1, 2, none⟩ (.int .i64 0)).setCell ⟨w1.heap.size + 1, 3, none⟩ (.int .i64 0)) (some (w1.heap.size + 1)) := (((one_set _ _ _ _).trans (one_set _ _ _ _)).trans (one_set _ _ _ _)).trans (one_set _ _ _ _)
            have rn7 : Row ((((w6.setCell ⟨w1.heap.size + 1, 0, none⟩ (.int .i64 nx)).setCell ⟨w1.heap.size + 1, 1, none⟩ (.int .i64 ny)).setCell ⟨w1.heap.size + 1, 2, none⟩ (.int .i64 0)).setCell ⟨w1.heap.size + 1, 3, none⟩ (.int .i64 0)) (w1.heap.size + 1) 77 [.int .i64 nx, .int .i64 ny, .int .i64 0, .int .i64 0] := (((rn6.set 0 (.int .i64 nx)).set 1 (.int .i64 ny)).set 2 (.int .i64 0)).set 3 (.int .i64 0)
            have rj7 : Row ((((w6.setCell ⟨w1.heap.size + 1, 0, none⟩ (.int .i64 nx)).setCell ⟨w1.heap.size + 1, 1, none⟩ (.int .i64 ny)).setCell ⟨w1.heap.size + 1, 2, none⟩ (.int .i64 0)).setCell ⟨w1.heap.size + 1, 3, none⟩ (.int .i64 0)) w1.heap.size 80 [.int .i64 2, .int .i64 a, .int .i64 b, .int .i64 0, .int .i64 0] := rj6.kept G7 (fun e => by have := Option.some.inj e; omega)
            have rq7 : Row ((((w6.setCell ⟨w1.heap.size + 1, 0, none⟩ (.int .i64 nx)).setCell ⟨w1.heap.size + 1, 1, none⟩ (.int .i64 ny)).setCell ⟨w1.heap.size + 1, 2, none⟩ (.int .i64 0)).setCell ⟨w1.heap.size + 1, 3, none⟩ (.int .i64 0)) w3.heap.size 48 [.int .i64 1, .int .i64 0] := rq6.kept G7 (fun e => by have := Option.some.inj e; have := HRN.out.lt; omega)
            have ho7 : World.ownsRow ((((w6.setCell ⟨w1.heap.size + 1, 0, none⟩ (.int .i64 nx)).setCell ⟨w1.heap.size + 1, 1, none⟩ (.int .i64 ny)).setCell ⟨w1.heap.size + 1, 2, none⟩ (.int .i64 0)).setCell ⟨w1.heap.size + 1, 3, none⟩ (.int .i64 0)) w.heap.size 48 2 u14 way.length (flatP way) := ho6.kept G7 (owns_row_ne ho6 rn6 (by decide))
            have hb7 : Below w.heap.size w ((((w6.setCell ⟨w1.heap.size + 1, 0, none⟩ (.int .i64 nx)).setCell ⟨w1.heap.size + 1, 1, none⟩ (.int .i64 ny)).setCell ⟨w1.heap.size + 1, 2, none⟩ (.int .i64 0)).setCell ⟨w1.heap.size + 1, 3, none⟩ (.int .i64 0)) := hb6'.grown G7 hb6'.size (fun k e => by have := Option.some.inj e; have := BJ0.out; omega)
            have p0 : ((((w6.setCell ⟨w1.heap.size + 1, 0, none⟩ (.int .i64 nx)).setCell ⟨w1.heap.size + 1, 1, none⟩ (.int .i64 ny)).setCell ⟨w1.heap.size + 1, 2, none⟩ (.int .i64 0)).setCell ⟨w1.heap.size + 1, 3, none⟩ (.int .i64 0)).cell? ⟨w3.heap.size, 0, none⟩ = some (.int .i64 1) := rq7.cell 0
            have p1 : ((((w6.setCell ⟨w1.heap.size + 1, 0, none⟩ (.int .i64 nx)).setCell ⟨w1.heap.size + 1, 1, none⟩ (.int .i64 ny)).setCell ⟨w1.heap.size + 1, 2, none⟩ (.int .i64 0)).setCell ⟨w1.heap.size + 1, 3, none⟩ (.int .i64 0)).cell? ⟨w3.heap.size, 1, none⟩ = some (.int .i64 0) := rq7.cell 1
            have ba7 := (Below.refl ((((w6.setCell ⟨w1.heap.size + 1, 0, none⟩ (.int .i64 nx)).setCell ⟨w1.heap.size + 1, 1, none⟩ (.int .i64 ny)).setCell ⟨w1.heap.size + 1, 2, none⟩ (.int .i64 0)).setCell ⟨w1.heap.size + 1, 3, none⟩ (.int .i64 0)).heap.size ((((w6.setCell ⟨w1.heap.size + 1, 0, none⟩ (.int .i64 nx)).setCell ⟨w1.heap.size + 1, 1, none⟩ (.int .i64 ny)).setCell ⟨w1.heap.size + 1, 2, none⟩ (.int .i64 0)).setCell ⟨w1.heap.size + 1, 3, none⟩ (.int .i64 0))).alloc (Nat.le_refl _) (.cells #[.int .i64 1, .int .i64 0] 48)
            have rn7a := rn7.below ba7 rn7.lt
            have rj7a := rj7.below ba7 rj7.lt
            have ho7a := own_grow ho7 ba7
            have hb7a := Below.andThen hb7 ba7 (Nat.le_refl _)
            have hcl := Row.cell (Row.new ((((w6.setCell ⟨w1.heap.size + 1, 0, none⟩ (.int .i64 nx)).setCell ⟨w1.heap.size + 1, 1, none⟩ (.int .i64 ny)).setCell ⟨w1.heap.size + 1, 2, none⟩ (.int .i64 0)).setCell ⟨w1.heap.size + 1, 3, none⟩ (.int .i64 0)) 48 [.int .i64 1, .int .i64 0])
            have hz7 : ((((w6.setCell ⟨w1.heap.size + 1, 0, none⟩ (.int .i64 nx)).setCell ⟨w1.heap.size + 1, 1, none⟩ (.int .i64 ny)).setCell ⟨w1.heap.size + 1, 2, none⟩ (.int .i64 0)).setCell ⟨w1.heap.size + 1, 3, none⟩ (.int .i64 0)).heap.size = w6.heap.size := by simp
            have HCL := Lib.hid (fun (j : Nat) (u : Value) (hj : ([.int .i64 1, .int .i64 0] : List Value)[j]? = some u) => show (((((w6.setCell ⟨w1.heap.size + 1, 0, none⟩ (.int .i64 nx)).setCell ⟨w1.heap.size + 1, 1, none⟩ (.int .i64 ny)).setCell ⟨w1.heap.size + 1, 2, none⟩ (.int .i64 0)).setCell ⟨w1.heap.size + 1, 3, none⟩ (.int .i64 0)).alloc (.cells #[.int .i64 1, .int .i64 0] 48)).cell? ((⟨w6.heap.size, 0, none⟩ : Addr).add j) = some u by rw [Go.WideShapes.add_plain]; simp only [Nat.zero_add]; rw [← hz7, hcl]; exact hj)
            have RN7 := Lib.hid rn7a
            have RJ7 := Lib.hid rj7a
            have HO7 := Lib.hid ho7a
            have HB7 := Lib.hid hb7a
            obtain ⟨zb, hzb⟩ : ∃ zb, decide ([nx, ny, 0, 0] = [0, 0, 0, 0]) = zb := ⟨_, rfl⟩
            have heq := fun W => eq77 nx ny 0 0 0 0 0 0 W
            rw [hzb] at heq
            have HEQ := Lib.hid heq
            have HZB := Lib.hid hzb
            have hwl : way.length ≤ 100000 := by have := HRL.out.2; omega
            clear hz7 rj6 rn6 rq6 ho6 hb6' hb6 G7 rn7 rj7 rq7 ho7 hb7 ba7 rn7a rj7a ho7a hb7a hcl heq hzb
            go_wp2_with (at_builtin; refine wpList_append_own_at _ rfl _ _ 27 rfl w.heap.size 48 i0 (.agg #[.int .i64 0, .int .i64 0]) 2 16 Try.underlying27 hi hz0 hz1 hz2 rfl (by decide) u14 way.length (flatP way) rfl HO7.out ⟨w6.heap.size, 0, none⟩ 1 1 [.int .i64 1, .int .i64 0] rfl rfl HCL.out (by simp [Value.oneCell']) (by unfold maxLen; omega) (by omega) HB7.out.size ?_; intro v8 w8 hown8 hg8 hnil8 hat8; have rn8 := RN7.out.kept hg8 (own_ne3 HO7.out RN7.out (by decide)); have rj8 := RJ7.out.kept hg8 (own_ne3 HO7.out RJ7.out (by decide)); have hb8 := HB7.out.grown hg8 HB7.out.size (fun k e => (HO7.out.lt k e).1); have m0 : w8.cell? ⟨w1.heap.size + 1, 0, none⟩ = some (.int .i64 nx) := rn8.cell 0; have m1 : w8.cell? ⟨w1.heap.size + 1, 1, none⟩ = some (.int .i64 ny) := rn8.cell 1; have m2 : w8.cell? ⟨w1.heap.size + 1, 2, none⟩ = some (.int .i64 0) := rn8.cell 2; have m3 : w8.cell? ⟨w1.heap.size + 1, 3, none⟩ = some (.int .i64 0) := rn8.cell 3; have RN8 := Lib.hid rn8; have RJ8 := Lib.hid rj8; have HB8 := Lib.hid hb8; have HO8 := Lib.hid hown8; clear rn8 rj8 hb8 hown8 hg8 hnil8 hat8)
            rw [HEQ.out, Result.andThen_ok]
            clear m0 m1 m2 m3 n0 n1 n2 n3 f0 f1 f2 f3 p0 p1
            have hnz := HZB.out
            cases zb with
            | true =>
              have hz : nx = 0 ∧ ny = 0 := by have h := of_decide_eq_true hnz; simp at h; exact h
              have hr := ringL_zero HRL.out.1 HNH.out (by rw [HNX.out, hz.1, hz.2])
              subst hr
              clear hz hnz
              go_wp2_with fail
              go_ret2
              exact ⟨_, rfl, ⟨.slice none 0 0, rfl, World.ownsRow_nil _ _ _ _⟩, HB8.out⟩
            | false =>
              have hz : ¬ (nx = 0 ∧ ny = 0) := fun h => by have h2 := of_decide_eq_false hnz; exact h2 (by rw [h.1, h.2])
              have hr := ringL_next HRL.out.1 HNH.out (by rw [HNX.out]; intro h; have e1 := congrArg Prod.fst h; have e2 := congrArg Prod.snd h; exact hz ⟨e1, e2⟩)
              rw [HNX.out, HSP.out] at hr
              have HRR := Lib.hid hr
              clear hz hnz hr
              go_wp2_with fail
              go_roundg (gk - 1)
              case measure => have := HRR.out.1; omega
              case rel =>
                refine ⟨nx, ny, way ++ [(1, 0)], Lib.hid ⟨HBX.out.1, HBX.out.2, RN8.out, RJ8.out, ?_, HB8.out, HRR.out.2, ?_⟩⟩
                · rw [flatP_snoc, List.length_append, List.length_singleton]; exact HO8.out
                · rw [List.length_append, List.length_singleton]; have := HRL.out.2; have := HRR.out.1; omega
end Go.Proofs.Ytlamppplnojpbaa
namespace Go.Proofs.Ytlamppplnojpbaa
open Go.RowKit Go.Shelf
attribute [local go_sem] Oper.semAt_some
def errT (a b amt : Int) : Int := if 1 ≤ min a b ∧ max a b ≤ 1000 ∧ 0 ≤ amt ∧ amt ≤ max a b then 0 else 1
set_option maxRecDepth 100000 in
set_option maxHeartbeats 400000 in
theorem checkTwo_any (a b amt : Int) (w : World) : Calls Try.prog 63 #[.int .i64 a, .int .i64 b, .int .i64 amt] w fun e w' => e = .returned (.int .i64 (errT a b amt)) ∧ w' = w := by
  go_enter Try.func63, Try.ntmps63
  go_wp2_with fail
  all_goals first
    | (have e1 : errT a b amt = 1 := by { unfold errT; rw [if_neg (by omega)] }
       rw [e1]
       go_ret
       exact ⟨rfl, rfl⟩)
    | (have e1 : errT a b amt = 0 := by { unfold errT; rw [if_pos (by omega)] }
       rw [e1]
       go_ret
       exact ⟨rfl, rfl⟩)
set_option maxRecDepth 100000 in
set_option maxHeartbeats 400000 in
theorem Two_err (a b amt : Int) (he : errT a b amt = 1) (w : World) : Calls Try.prog 41 #[.int .i64 a, .int .i64 b, .int .i64 amt] w fun e w' => e = .returned (.tuple #[.int .i64 0, .bool false, .int .i64 1]) ∧ Below w.heap.size w w' := by
  have HC := Lib.hid (checkTwo_any a b amt w)
  rw [he] at HC
  clear he
  go_enter Try.func41, Try.ntmps41
  go_wp2_with fail
  refine HC.out.mono ?_
  rintro e w1 ⟨rfl, rfl⟩
  clear HC
  go_wp2_with fail
  refine bodyPost_ret (v := .tuple #[.int .i64 0, .bool false, .int .i64 1]) (by simp [results, Try.results41, go_sem]) rfl ?_
  exact ⟨rfl, Below.refl _ _⟩
set_option maxRecDepth 100000 in
set_option maxHeartbeats 400000 in
theorem Two_ok (a b amt : Int) (he : errT a b amt = 0) (k : Nat) (hk : k ≤ 100000) (r1 r2 : List (Int × Int) × Bool) (h1 : ringL true a b amt k 0 0 [] = some r1) (h2 : ringL false a b amt k 0 0 [] = some r2) (w : World) :
    Calls Try.prog 41 #[.int .i64 a, .int .i64 b, .int .i64 amt] w fun e w' => e = .returned (.tuple #[.int .i64 (if r1.2 = true then ((min r1.1.length r2.1.length : Nat) : Int) else 0), .bool r1.2, .int .i64 0]) ∧ Below w.heap.size w w' := by
  have HC := Lib.hid (checkTwo_any a b amt w)
  rw [he] at HC
  have hab : (1 ≤ a ∧ a ≤ 1000) ∧ (1 ≤ b ∧ b ≤ 1000) := by
    unfold errT at he
    split at he
    · omega
    · cases he
  have H1 := Lib.hid (fun W => ring_true a b amt hab.1 hab.2 k hk r1 h1 W)
  have H2 := Lib.hid (fun W => ring_false a b amt hab.1 hab.2 k hk r2 h2 W)
  clear he h1 h2 hk hab
  obtain ⟨l1, b1⟩ := r1
  obtain ⟨l2, b2⟩ := r2
  dsimp only at H1 H2 ⊢
  go_enter Try.func41, Try.ntmps41
  go_wp2_with fail
  refine HC.out.mono ?_
  rintro e w1 ⟨rfl, rfl⟩
  clear HC
  go_wp2_with fail
  refine (H1.out w1).mono ?_
  rintro e w2 ⟨x, rfl, ⟨s, rfl, ho⟩, hb⟩
  obtain ⟨ad, c, rfl, _⟩ := OwnP.open ho
  have HB := Lib.hid hb
  clear ho hb H1
  cases b1 with
  | false =>
    go_wp2_with fail
    refine bodyPost_ret (v := .tuple #[.int .i64 0, .bool false, .int .i64 0]) (by simp [results, Try.results41, go_sem]) rfl ?_
    exact ⟨rfl, HB.out⟩
  | true =>
    go_wp2_with fail
    refine (H2.out w2).mono ?_
    rintro e w3 ⟨x, rfl, ⟨s, rfl, ho⟩, hb⟩
    obtain ⟨ad2, c2, rfl, _⟩ := OwnP.open ho
    have HB2 := Lib.hid hb
    clear ho hb H2
    rcases Nat.lt_or_ge l2.length l1.length with hle | hle
    · have EM := Lib.hid (Nat.min_eq_right (Nat.le_of_lt hle))
      go_wp2_with fail
      all_goals first
        | (exfalso; omega)
        | skip
      refine bodyPost_ret (v := .tuple #[.int .i64 (l2.length : Int), .bool true, .int .i64 0]) (by simp [results, Try.results41, go_sem]) rfl ?_
      refine ⟨?_, Below.andThen HB.out HB2.out (Nat.le_refl _)⟩
      simp [EM.out]
    · have EM := Lib.hid (Nat.min_eq_left hle)
      go_wp2_with fail
      all_goals first
        | (exfalso; omega)
        | skip
      refine bodyPost_ret (v := .tuple #[.int .i64 (l1.length : Int), .bool true, .int .i64 0]) (by simp [results, Try.results41, go_sem]) rfl ?_
      refine ⟨?_, Below.andThen HB.out HB2.out (Nat.le_refl _)⟩
      simp []
set_option maxRecDepth 100000 in
set_option maxHeartbeats 400000 in
theorem TwoWay_err (a b amt : Int) (first : Bool) (he : errT a b amt = 1) (w : World) : Calls Try.prog 42 #[.int .i64 a, .int .i64 b, .int .i64 amt, .bool first] w fun e w' => e = .returned (.tuple #[.slice none 0 0, .bool false, .int .i64 1]) ∧ Below w.heap.size w w' := by
  have HC := Lib.hid (checkTwo_any a b amt w)
  rw [he] at HC
  clear he
  go_enter Try.func42, Try.ntmps42
  go_wp2_with fail
  refine HC.out.mono ?_
  rintro e w1 ⟨rfl, rfl⟩
  clear HC
  go_wp2_with fail
  refine bodyPost_ret (v := .tuple #[.slice none 0 0, .bool false, .int .i64 1]) (by simp [results, Try.results42, go_sem]) rfl ?_
  exact ⟨rfl, Below.refl _ _⟩
theorem ring_any (first : Bool) (a b amt : Int) (ha : 1 ≤ a ∧ a ≤ 1000) (hb : 1 ≤ b ∧ b ≤ 1000) (k0 : Nat) (hk0 : k0 ≤ 100000) (res : List (Int × Int) × Bool) (hres : ringL first a b amt k0 0 0 [] = some res) (w : World) :
    Calls Try.prog 64 #[.int .i64 a, .int .i64 b, .int .i64 amt, .bool first] w fun e w' => ∃ x, e = .returned x ∧ WayV w.heap.size res.1 res.2 x w' ∧ Below w.heap.size w w' := by
  cases first with
  | true => exact ring_true a b amt ha hb k0 hk0 res hres w
  | false => exact ring_false a b amt ha hb k0 hk0 res hres w
set_option maxRecDepth 100000 in
set_option maxHeartbeats 400000 in
theorem TwoWay_ok (a b amt : Int) (first : Bool) (he : errT a b amt = 0) (k : Nat) (hk : k ≤ 100000) (r : List (Int × Int) × Bool) (h1 : ringL first a b amt k 0 0 [] = some r) (w : World) :
    Calls Try.prog 42 #[.int .i64 a, .int .i64 b, .int .i64 amt, .bool first] w fun e w' => ∃ s, e = .returned (.tuple #[s, .bool r.2, .int .i64 0]) ∧ OwnP w' w.heap.size s r.1 ∧ Below w.heap.size w w' := by
  have HC := Lib.hid (checkTwo_any a b amt w)
  rw [he] at HC
  have hab : (1 ≤ a ∧ a ≤ 1000) ∧ (1 ≤ b ∧ b ≤ 1000) := by
    unfold errT at he
    split at he
    · omega
    · cases he
  have H1 := Lib.hid (fun W => ring_any first a b amt hab.1 hab.2 k hk r h1 W)
  clear he h1 hk hab
  obtain ⟨l1, b1⟩ := r
  dsimp only at H1 ⊢
  go_enter Try.func42, Try.ntmps42
  go_wp2_with fail
  refine HC.out.mono ?_
  rintro e w1 ⟨rfl, rfl⟩
  clear HC
  go_wp2_with fail
  refine (H1.out w1).mono ?_
  rintro e w2 ⟨x, rfl, ⟨s, rfl, ho⟩, hb⟩
  have HO := Lib.hid ho
  have HB := Lib.hid hb
  clear ho hb H1
  go_wp2_with fail
  refine bodyPost_ret (v := .tuple #[s, .bool b1, .int .i64 0]) (by simp [results, Try.results42, go_sem]) rfl ?_
  exact ⟨s, rfl, HO.out, HB.out⟩
end Go.Proofs.Ytlamppplnojpbaa
