import Derived.Test.YtlemipnplgbckaaPX
import Derived.Laws.AppendOwn
import Derived.ChangeKeysEq
import Derived.Maps.RangeWalk
import Derived.Maps.OwnIn
import Derived.Maps.AppendAt
import Derived.RangeFuncNested
import Derived.RangeFuncBound
import Derived.RangeFuncCalls
import Derived.RangeFuncLeaves
import Derived.Shelf.Abstract
import Derived.Shelf.RegionOpen
import Derived.WalkKit
import Derived.WalkMore
import Derived.OwnWalkIn
import Derived.TacticsInMore
import Derived.LoopNIn
import Derived.LoopIn
import Derived.WalkSpells
import Derived.WalkLawsBesides
import Derived.BigQuiet
import Derived.Deep.QuietTactic
import Derived.Lib.Hide
import Derived.Deep.RegionHeld3
import Derived.StillTailTactics
import Derived.Deep.LoopGhost
import Derived.Maps.OwnSet
import Derived.Lib.IndexAny
import Derived.Sort.QuietThIn
import Derived.Sort.QuietTacIn
import Derived.Sort.BigQuietIn
import Derived.Laws.OwnMore
import Derived.DeepKeys4
import Derived.Maps.Views
import Derived.Maps.OwnOps
import Derived.Laws.OwnMore
import Derived.Deep.DeepCutAuto
import Derived.ChangeKeysEq
namespace Go.Proofs.Ytlemipnplgbckaa
open Go.RowKit Go.Shelf
attribute [local go_sem] Oper.semAt_some
set_option maxRecDepth 100000 in
set_option maxHeartbeats 1000000 in
theorem rWhere_any (c : Cir) (p q : Int) (w : World) (hc : CirB c) (h4 : Bd 20 p) (h5 : Bd 20 q) :
    Calls Try.prog 35 #[.agg #[.int .i64 c.X, .int .i64 c.Y, .int .i64 c.D, .int .i64 c.R], .agg #[.int .i64 p, .int .i64 q]] w fun e w' => e = .returned (.int .i64 (whF c (p, q))) ∧ Below w.heap.size w w' := by
  have h1 := hc.1
  have h2 := hc.2.1
  have h3 := hc.d
  have HA := Lib.hid (ap_alt c.X c.Y c.D p q)
  have HW := Lib.hid (show whF c (p, q) = cmpI (apF c.X c.Y c.D (p, q)) c.R from rfl)
  obtain ⟨V, hV, rc, rp, bV, hs⟩ := two_start w 46 28 [.int .i64 c.X, .int .i64 c.Y, .int .i64 c.D, .int .i64 c.R] [.int .i64 p, .int .i64 q]
  have bPD := h4.mul h3
  have bQD := h5.mul h3
  have bU := h1.sub bPD
  have bZ := h2.sub bQD
  have e1 := i64_bd bPD (by omega)
  have e2 := i64_bd bQD (by omega)
  have e3 := i64_bd bU (by omega)
  have e4 := i64_bd bZ (by omega)
  have e5 := i64_bd (bU.mul bU) (by omega)
  have e6 := i64_bd (bZ.mul bZ) (by omega)
  have e7 := i64_bd ((bU.mul bU).add (bZ.mul bZ)) (by omega)
  rw [HA.out] at e7
  have HE7 := Lib.hid e7
  have e7w := w64 e7
  rw [← HA.out] at e7w
  have HE8 := Lib.hid e7w
  generalize apF c.X c.Y c.D (p, q) = A at *
  generalize whF c (p, q) = Q at *
  obtain ⟨X, Y, D, R⟩ := c
  dsimp only at *
  have BV := Lib.hid bV
  have c0 := rc.cell 0
  have c1 := rc.cell 1
  have c2 := rc.cell 2
  have c3 := rc.cell 3
  have p0 := rp.cell 0
  have p1 := rp.cell 1
  simp only [List.getElem?_cons_zero, List.getElem?_cons_succ] at c0 c1 c2 c3 p0 p1
  have RC := Lib.hid rc
  clear rc rp bV hs h1 h2 h3 h4 h5 hc bPD bQD bU bZ e7 e7w
  go_enter Try.func35, Try.ntmps35
  go_wp2_with fail
  rw [show (w.alloc (.cells #[.int .i64 X, .int .i64 Y, .int .i64 D, .int .i64 R] 46)).alloc (.cells #[.int .i64 p, .int .i64 q] 28) = V from hV.symm]
  clear hV
  go_quiet (fail)
  go_wp2_with fail
  all_goals
    go_ret
    refine ⟨ret_int ?_, below_drewN BV.out _⟩
    have f8 := HE8.out
    have fa := HA.out
    have hw := HW.out
    clear HE7 HE8 HA HW BV
    rw [hw]
    try simp only [beq_iff_eq, beq_eq_false_iff_ne, ne_eq] at *
    unfold cmpI
    split <;> (try split) <;> omega
set_option maxRecDepth 100000 in
set_option maxHeartbeats 600000 in
theorem rOver_any (a1 a2 b1 b2 : Int) (w : World) (h1 : Bd 20 a1) (h2 : Bd 20 a2) (h3 : Bd 20 b1) (h4 : Bd 20 b2) :
    Calls Try.prog 39 #[.agg #[.int .i64 a1, .int .i64 a2], .agg #[.int .i64 b1, .int .i64 b2]] w fun e w' => e = .returned (ovC (a1, a2) (b1, b2)).V ∧ Below w.heap.size w w' := by
  have e1 := i64_bd (h1.add h3) (by omega)
  have e2 := i64_bd (h2.add h4) (by omega)
  have HR := Lib.hid (fun (W : World) => show Calls Try.prog 77 #[.int .i64 (a1 + b1), .int .i64 (a2 + b2), .int .i64 2, .agg #[.int .i64 a1, .int .i64 a2]] W fun e w' => e = .returned (ovC (a1, a2) (b1, b2)).V ∧ Below W.heap.size W w' from rround_any (a1 + b1) (a2 + b2) 2 a1 a2 W ((h1.add h3).mono (by omega)) ((h2.add h4).mono (by omega)) (by unfold Bd; omega) (by omega) h1 h2)
  generalize ovC (a1, a2) (b1, b2) = M at *
  obtain ⟨X, Y, D, R⟩ := M
  unfold Cir.V cirV at HR ⊢
  dsimp only at HR ⊢
  clear h1 h2 h3 h4
  obtain ⟨V1, hV1, r1, r2, b1', hs1⟩ := two_start w 28 28 [.int .i64 a1, .int .i64 a2] [.int .i64 b1, .int .i64 b2]
  obtain ⟨b2', r3⟩ := box_start V1 46 [.int .i64 0, .int .i64 0, .int .i64 0, .int .i64 0]
  rw [hs1] at r3
  have RR := Lib.hid r3
  have BV := Lib.hid (Below.andThen b1' b2' (Nat.le_refl _))
  have HV := Lib.hid (show ((w.alloc (.cells #[.int .i64 a1, .int .i64 a2] 28)).alloc (.cells #[.int .i64 b1, .int .i64 b2] 28)).alloc (.cells #[.int .i64 0, .int .i64 0, .int .i64 0, .int .i64 0] 46) = V1.alloc (.cells [.int .i64 0, .int .i64 0, .int .i64 0, .int .i64 0].toArray 46) by rw [hV1])
  clear hV1 r1 r2 b1' hs1 b2' r3
  go_enter Try.func39, Try.ntmps39
  go_wp2_with fail
  rw [HV.out]
  refine (HR.out _).mono ?_
  rintro e w9 ⟨rfl, h9⟩
  have B3 := Lib.hid (Below.andThen BV.out h9 (Nat.le_refl _))
  have RR3 := Lib.hid (RR.out.below h9 RR.out.lt)
  clear h9 HR
  have rT := RR3.out
  have t0 := rT.cell 0
  have t1 := rT.cell 1
  have t2 := rT.cell 2
  have t3 := rT.cell 3
  have g0 := frozen_of_row _ (w.heap.size + 1 + 1) 0 _ _ rT
  have g1 := frozen_of_row _ (w.heap.size + 1 + 1) 1 _ _ rT
  have g2 := frozen_of_row _ (w.heap.size + 1 + 1) 2 _ _ rT
  have g3 := frozen_of_row _ (w.heap.size + 1 + 1) 3 _ _ rT
  simp only [List.getElem?_cons_zero, List.getElem?_cons_succ] at t0 t1 t2 t3
  clear rT
  go_wp2_with fail
  have hr := (((RR3.out.set 0 (.int .i64 X)).set 1 (.int .i64 Y)).set 2 (.int .i64 D)).set 3 (.int .i64 R)
  have v0 := hr.cell 0
  have v1 := hr.cell 1
  have v2 := hr.cell 2
  have v3 := hr.cell 3
  simp only [List.set_cons_zero, List.set_cons_succ, List.getElem?_cons_zero, List.getElem?_cons_succ] at v0 v1 v2 v3
  refine bodyPost_ret (v := .agg #[.int .i64 X, .int .i64 Y, .int .i64 D, .int .i64 R]) (by simp [results, Try.results39, go_sem, v0, v1, v2, v3]) rfl ⟨rfl, ?_⟩
  exact (((B3.out.setCell (p := ⟨w.heap.size + 1 + 1, 0, none⟩) (by dsimp only; omega) _).setCell (p := ⟨w.heap.size + 1 + 1, 1, none⟩) (by dsimp only; omega) _).setCell (p := ⟨w.heap.size + 1 + 1, 2, none⟩) (by dsimp only; omega) _).setCell (p := ⟨w.heap.size + 1 + 1, 3, none⟩) (by dsimp only; omega) _
end Go.Proofs.Ytlemipnplgbckaa
