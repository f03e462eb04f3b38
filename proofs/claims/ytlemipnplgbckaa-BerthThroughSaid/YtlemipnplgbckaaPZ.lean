import Derived.Test.YtlemipnplgbckaaPJ
import Derived.Test.YtlemipnplgbckaaPL
import Derived.Laws.AppendOwn
import Derived.ChangeKeysEq
import Derived.Maps.RangeWalk
import Derived.Maps.OwnIn
import Derived.Maps.AppendAt
import Derived.RangeFuncNested
import Derived.RangeFuncBound
import Derived.RangeFuncCalls
import Derived.RangeFuncLeaves
import Derived.Shelf.Abstract
import Derived.Shelf.RegionOpen
import Derived.WalkKit
import Derived.WalkMore
import Derived.OwnWalkIn
import Derived.TacticsInMore
import Derived.LoopNIn
import Derived.LoopIn
import Derived.WalkSpells
import Derived.WalkLawsBesides
import Derived.BigQuiet
import Derived.Deep.QuietTactic
import Derived.Lib.Hide
import Derived.Deep.RegionHeld3
import Derived.StillTailTactics
import Derived.Deep.LoopGhost
import Derived.Maps.OwnSet
import Derived.Lib.IndexAny
import Derived.Sort.QuietThIn
import Derived.Sort.QuietTacIn
import Derived.Sort.BigQuietIn
import Derived.Laws.OwnMore
import Derived.DeepKeys4
import Derived.Maps.Views
import Derived.Maps.OwnOps
import Derived.Laws.OwnMore
import Derived.Deep.DeepCutAuto
import Derived.ChangeKeysEq
namespace Go.Proofs.Ytlemipnplgbckaa
open Go.RowKit Go.Shelf
attribute [local go_sem] Oper.semAt_some
/-- what Over answers -/
def ovE (a b : Pt) : Int := if [a, b].all okP = true then 0 else 1
def ovR' (a b : Pt) : Cir := if [a, b].all okP = true then ovC a b else ⟨0, 0, 0, 0⟩
theorem ov_start (w : World) (a1 a2 b1 b2 : Int) : ∃ V, V = ((w.alloc (.cells #[.int .i64 a1, .int .i64 a2] 28)).alloc (.cells #[.int .i64 b1, .int .i64 b2] 28)).alloc (.cells #[.int .i64 0, .int .i64 0, .int .i64 0, .int .i64 0] 30) ∧
    Row V w.heap.size 28 [.int .i64 a1, .int .i64 a2] ∧ Row V (w.heap.size + 1) 28 [.int .i64 b1, .int .i64 b2] ∧ Row V (w.heap.size + 1 + 1) 30 [.int .i64 0, .int .i64 0, .int .i64 0, .int .i64 0] ∧ Below w.heap.size w V ∧ V.heap.size = w.heap.size + 1 + 1 + 1 := by
  obtain ⟨V1, hV, r1, r2, b1', hs⟩ := two_start w 28 28 [.int .i64 a1, .int .i64 a2] [.int .i64 b1, .int .i64 b2]
  obtain ⟨b2', r3⟩ := box_start V1 30 [.int .i64 0, .int .i64 0, .int .i64 0, .int .i64 0]
  refine ⟨V1.alloc (.cells [.int .i64 0, .int .i64 0, .int .i64 0, .int .i64 0].toArray 30), by rw [hV], r1.below b2' r1.lt, r2.below b2' r2.lt, by rw [← hs]; exact r3, Below.andThen b1' b2' (Nat.le_refl _), by rw [size_al, hs]⟩
set_option maxRecDepth 100000 in
set_option maxHeartbeats 1000000 in
theorem Over_any (a1 a2 b1 b2 : Int) (w : World) :
    Calls Try.prog 37 #[.agg #[.int .i64 a1, .int .i64 a2], .agg #[.int .i64 b1, .int .i64 b2]] w fun e w' => e = .returned (.tuple #[(ovR' (a1, a2) (b1, b2)).V, .int .i64 (ovE (a1, a2) (b1, b2))]) ∧ Below w.heap.size w w' := by
  obtain ⟨V, hV, ra, rb, rR, bV, hsz⟩ := ov_start w a1 a2 b1 b2
  have HCK := Lib.hid (fun (W : World) => checkPairs_any [(a1, a2), (b1, b2)] _ _ (slp_two W a1 a2 b1 b2) (by simp))
  have RA := Lib.hid ra
  have RB := Lib.hid rb
  have RR := Lib.hid rR
  have BV := Lib.hid bV
  have HOV := Lib.hid (fun (h : [(a1, a2), (b1, b2)].all okP = true) (W : World) => by
    simp only [List.all_cons, List.all_nil, Bool.and_true, Bool.and_eq_true, okP_iff] at h
    exact (show Calls Try.prog 76 #[.agg #[.int .i64 a1, .int .i64 a2], .agg #[.int .i64 b1, .int .i64 b2]] W fun e w' => e = .returned (ovC (a1, a2) (b1, b2)).V ∧ Below W.heap.size W w' from over_any a1 a2 b1 b2 W h.1.1 h.1.2 h.2.1 h.2.2))
  have HE := Lib.hid (show ovE (a1, a2) (b1, b2) = if [(a1, a2), (b1, b2)].all okP = true then 0 else 1 by unfold ovE; rfl)
  have HT := Lib.hid (show ovR' (a1, a2) (b1, b2) = if [(a1, a2), (b1, b2)].all okP = true then ovC (a1, a2) (b1, b2) else ⟨0, 0, 0, 0⟩ by unfold ovR'; rfl)
  have ka0 := ra.cell 0
  have ka1 := ra.cell 1
  have kb0 := rb.cell 0
  have kb1 := rb.cell 1
  simp only [List.getElem?_cons_zero, List.getElem?_cons_succ] at ka0 ka1 kb0 kb1
  clear ra rb rR bV
  generalize [(a1, a2), (b1, b2)].all okP = ok at *
  generalize ovE (a1, a2) (b1, b2) = E at *
  generalize ovR' (a1, a2) (b1, b2) = T at *
  generalize ovC (a1, a2) (b1, b2) = M at *
  obtain ⟨T1, T2, T3, T4⟩ := T
  obtain ⟨M1, M2, M3, M4⟩ := M
  unfold Cir.V cirV at HOV ⊢
  dsimp only at HOV ⊢
  go_enter Try.func37, Try.ntmps37
  go_wp2_with fail
  rw [← hV]
  have hck := HCK.out V
  rw [hsz] at hck
  refine hck.mono ?_
  rintro e w1 ⟨rfl, hb⟩
  have b1' := Below.andThen (Below.al (Below.refl V.heap.size V) (Nat.le_refl _) (.cells #[.int .i64 a1, .int .i64 a2, .int .i64 b1, .int .i64 b2] 28)) hb (Nat.le_refl _)
  have BW := Lib.hid (Below.andThen BV.out b1' (Nat.le_refl _))
  have RT := Lib.hid (RR.out.below b1' RR.out.lt)
  have RA2 := Lib.hid (RA.out.below b1' RA.out.lt)
  have RB2 := Lib.hid (RB.out.below b1' RB.out.lt)
  clear hck hsz hb b1' ka0 ka1 kb0 kb1 HCK RA RB RR BV hV
  cases ok with
  | false =>
    have rT := RT.out
    have t0 := rT.cell 0
    have t1 := rT.cell 1
    have t2 := rT.cell 2
    have t3 := rT.cell 3
    have g0 := frozen_of_row _ (w.heap.size + 1 + 1) 0 _ _ rT
    have g1 := frozen_of_row _ (w.heap.size + 1 + 1) 1 _ _ rT
    have g2 := frozen_of_row _ (w.heap.size + 1 + 1) 2 _ _ rT
    have g3 := frozen_of_row _ (w.heap.size + 1 + 1) 3 _ _ rT
    simp only [List.getElem?_cons_zero, List.getElem?_cons_succ] at t0 t1 t2 t3
    clear rT
    have e0 : E = 1 := HE.out
    have e1 : (⟨T1, T2, T3, T4⟩ : Cir) = ⟨0, 0, 0, 0⟩ := HT.out
    injection e1 with f1 f2 f3 f4
    subst e0 f1 f2 f3 f4
    go_wp2_with fail
    have hr := ((((RT.out.set 0 (.int .i64 0)).set 1 (.int .i64 0)).set 2 (.int .i64 0)).set 3 (.int .i64 0))
    have v0 := hr.cell 0
    have v1 := hr.cell 1
    have v2 := hr.cell 2
    have v3 := hr.cell 3
    simp only [List.set_cons_zero, List.set_cons_succ, List.getElem?_cons_zero, List.getElem?_cons_succ] at v0 v1 v2 v3
    refine bodyPost_ret (v := .tuple #[.agg #[.int .i64 0, .int .i64 0, .int .i64 0, .int .i64 0], .int .i64 1]) (by simp [results, Try.results37, go_sem, v0, v1, v2, v3]) rfl ⟨rfl, ?_⟩
    exact ((((BW.out.setCell (p := ⟨w.heap.size + 1 + 1, 0, none⟩) (by dsimp only; omega) _).setCell (p := ⟨w.heap.size + 1 + 1, 1, none⟩) (by dsimp only; omega) _).setCell (p := ⟨w.heap.size + 1 + 1, 2, none⟩) (by dsimp only; omega) _).setCell (p := ⟨w.heap.size + 1 + 1, 3, none⟩) (by dsimp only; omega) _)
  | true =>
    have e0 : E = 0 := HE.out
    have e1 : (⟨T1, T2, T3, T4⟩ : Cir) = ⟨M1, M2, M3, M4⟩ := HT.out
    injection e1 with f1 f2 f3 f4
    subst e0 f1 f2 f3 f4
    have a2' := RA2.out
    have b2' := RB2.out
    have ka0 := a2'.cell 0
    have ka1 := a2'.cell 1
    have kb0 := b2'.cell 0
    have kb1 := b2'.cell 1
    simp only [List.getElem?_cons_zero, List.getElem?_cons_succ] at ka0 ka1 kb0 kb1
    clear a2' b2' HE HT
    have HO := Lib.hid (HOV.out (by trivial))
    clear HOV
    go_wp2_with fail
    refine (HO.out _).mono ?_
    rintro e w2 ⟨rfl, hb⟩
    have BX := Lib.hid (Below.andThen BW.out hb (Nat.le_refl _))
    have RU := Lib.hid (RT.out.below hb RT.out.lt)
    clear hb HO ka0 ka1 kb0 kb1 RA2 RB2
    have rT := RU.out
    have t0 := rT.cell 0
    have t1 := rT.cell 1
    have t2 := rT.cell 2
    have t3 := rT.cell 3
    have g0 := frozen_of_row _ (w.heap.size + 1 + 1) 0 _ _ rT
    have g1 := frozen_of_row _ (w.heap.size + 1 + 1) 1 _ _ rT
    have g2 := frozen_of_row _ (w.heap.size + 1 + 1) 2 _ _ rT
    have g3 := frozen_of_row _ (w.heap.size + 1 + 1) 3 _ _ rT
    simp only [List.getElem?_cons_zero, List.getElem?_cons_succ] at t0 t1 t2 t3
    clear rT
    go_wp2_with fail
    have hr := ((((RU.out.set 0 (.int .i64 T1)).set 1 (.int .i64 T2)).set 2 (.int .i64 T3)).set 3 (.int .i64 T4))
    have v0 := hr.cell 0
    have v1 := hr.cell 1
    have v2 := hr.cell 2
    have v3 := hr.cell 3
    simp only [List.set_cons_zero, List.set_cons_succ, List.getElem?_cons_zero, List.getElem?_cons_succ] at v0 v1 v2 v3
    refine bodyPost_ret (v := .tuple #[.agg #[.int .i64 T1, .int .i64 T2, .int .i64 T3, .int .i64 T4], .int .i64 0]) (by simp [results, Try.results37, go_sem, v0, v1, v2, v3]) rfl ⟨rfl, ?_⟩
    exact ((((BX.out.setCell (p := ⟨w.heap.size + 1 + 1, 0, none⟩) (by dsimp only; omega) _).setCell (p := ⟨w.heap.size + 1 + 1, 1, none⟩) (by dsimp only; omega) _).setCell (p := ⟨w.heap.size + 1 + 1, 2, none⟩) (by dsimp only; omega) _).setCell (p := ⟨w.heap.size + 1 + 1, 3, none⟩) (by dsimp only; omega) _)
end Go.Proofs.Ytlemipnplgbckaa
