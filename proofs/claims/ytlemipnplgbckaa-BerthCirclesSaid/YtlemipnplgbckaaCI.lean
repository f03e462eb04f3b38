import Derived.Test.YtlemipnplgbckaaMH
import Derived.Test.YtlemipnplgbckaaSK
import Derived.Laws.AppendOwn
import Derived.ChangeKeysEq
import Derived.Maps.RangeWalk
import Derived.Maps.OwnIn
import Derived.Maps.AppendAt
import Derived.RangeFuncNested
import Derived.RangeFuncBound
import Derived.RangeFuncCalls
import Derived.RangeFuncLeaves
import Derived.Shelf.Abstract
import Derived.Shelf.RegionOpen
import Derived.WalkKit
import Derived.WalkMore
import Derived.OwnWalkIn
import Derived.TacticsInMore
import Derived.LoopNIn
import Derived.LoopIn
import Derived.WalkSpells
import Derived.WalkLawsBesides
import Derived.BigQuiet
import Derived.Deep.QuietTactic
import Derived.Lib.Hide
import Derived.Deep.RegionHeld3
import Derived.StillTailTactics
import Derived.Deep.LoopGhost
import Derived.Maps.OwnSet
import Derived.Lib.IndexAny
import Derived.Sort.QuietThIn
import Derived.Sort.QuietTacIn
import Derived.Sort.BigQuietIn
import Derived.Laws.OwnMore
import Derived.DeepKeys4
import Derived.Maps.Views
import Derived.Maps.OwnOps
import Derived.Deep.DeepCutAuto
import Derived.Shelf.Bits.Mul64
import Derived.Shelf.LaysM
namespace Go.Proofs.Ytlemipnplgbckaa
open Go.RowKit Go.Shelf
attribute [local go_sem] Oper.semAt_some
theorem circ_start3 (w : World) (E1 E2 E3 : TypeId) (L1 L2 L3 : List Value) : ∃ V, V = ((w.alloc (.cells L1.toArray E1)).alloc (.cells L2.toArray E2)).alloc (.cells L3.toArray E3) ∧
    Row V w.heap.size E1 L1 ∧ Row V (w.heap.size + 1) E2 L2 ∧ Row V (w.heap.size + 1 + 1) E3 L3 ∧ Below w.heap.size w V := by
  obtain ⟨V1, hV, r1, r2, b1', hs⟩ := two_start w E1 E2 L1 L2
  obtain ⟨b2', r3⟩ := box_start V1 E3 L3
  exact ⟨V1.alloc (.cells L3.toArray E3), by rw [hV], r1.below b2' r1.lt, r2.below b2' r2.lt, by rw [← hs]; exact r3, Below.andThen b1' b2' (Nat.le_refl _)⟩
set_option maxRecDepth 100000 in
set_option maxHeartbeats 2000000 in
theorem BerthCircles_any (X Y D R X' Y' D' R' p q : Int) (w : World) :
    Calls Try.prog 4 #[.agg #[.int .i64 X, .int .i64 Y, .int .i64 D, .int .i64 R], .agg #[.int .i64 X', .int .i64 Y', .int .i64 D', .int .i64 R'], .agg #[.int .i64 p, .int .i64 q]] w fun e w' => e = .returned (.bool true) ∧ Below w.heap.size w w' := by
  obtain ⟨V, hV, ra, rb, rc, bV⟩ := circ_start3 w 30 30 28 [.int .i64 X, .int .i64 Y, .int .i64 D, .int .i64 R] [.int .i64 X', .int .i64 Y', .int .i64 D', .int .i64 R'] [.int .i64 p, .int .i64 q]
  have HV1 := Lib.hid (fun W : World => Valid_any X Y D R W)
  have HV2 := Lib.hid (fun W : World => Valid_any X' Y' D' R' W)
  have HC1 := Lib.hid (fun W : World => circle_any X Y D R W)
  have HC2 := Lib.hid (fun W : World => circle_any X' Y' D' R' W)
  have HCK := Lib.hid (fun W : World => CheckCircle_any X Y D R W)
  have HCM := Lib.hid (fun W : World => Compare_any X Y D R X' Y' D' R' W)
  have HRC := Lib.hid (fun (h : vaF ⟨X, Y, D, R⟩ = true) (h' : vaF ⟨X', Y', D', R'⟩ = true) (W : World) => (by
    have k := vaF_cirB h
    have k' := vaF_cirB h'
    have e1 := (vaF_iff.1 h).2
    have e2 := (vaF_iff.1 h').2
    have := rCompare_any X Y D R X' Y' D' R' W k.2.2.1.1 k.2.2.1.2 k'.2.2.1.1 k'.2.2.1.2 e1.1 e1.2.1 e2.1 e2.2.1
    exact this : Calls Try.prog 32 #[.agg #[.int .i64 X, .int .i64 Y, .int .i64 D, .int .i64 R], .agg #[.int .i64 X', .int .i64 Y', .int .i64 D', .int .i64 R']] W fun e w' => e = .returned (.int .i64 (cmpC D R D' R')) ∧ Below W.heap.size W w'))
  have HWH := Lib.hid (fun (p q : Int) (W : World) => Where_any X Y D R p q W)
  have HRW := Lib.hid (fun (h : vaF ⟨X, Y, D, R⟩ = true) (p q : Int) (ho : okP (p, q) = true) (W : World) => rWhere_any ⟨X, Y, D, R⟩ p q W (vaF_cirB h) (okP_iff.1 ho).1 (okP_iff.1 ho).2)
  unfold errC at HCK
  unfold cmpW cmpE at HCM
  unfold wherV wherE at HWH
  dsimp only at HCM HRW
  generalize whF ⟨X, Y, D, R⟩ = WH at *
  generalize cmpC D R D' R' = K at *
  generalize vaF ⟨X, Y, D, R⟩ = A at *
  generalize vaF ⟨X', Y', D', R'⟩ = B at *
  have RA := Lib.hid ra
  have RB := Lib.hid rb
  have RC := Lib.hid rc
  have BA := Lib.hid bV
  clear ra rb rc bV
  go_enter Try.func4, Try.ntmps4
  go_wp2_with fail
  rw [← hV]
  clear hV
  refine wp_region_box (by kernel_rfl) (by kernel_rfl) [17, 18, 19, 20, 7, 8, 1000, 1001] [(fun v => v = .agg #[.int .i64 X, .int .i64 Y, .int .i64 D, .int .i64 R]), (fun v => v = .agg #[.int .i64 X, .int .i64 Y, .int .i64 D, .int .i64 R]), (fun v => v = .agg #[.int .i64 X', .int .i64 Y', .int .i64 D', .int .i64 R']), (fun v => v = .agg #[.int .i64 X', .int .i64 Y', .int .i64 D', .int .i64 R']), (fun _ => True), (fun _ => True), (fun _ => True), (fun _ => True)] [none, none, none, none, some (46, [.int .i64 0, .int .i64 0, .int .i64 0, .int .i64 0], [.int .i64 X, .int .i64 Y, .int .i64 D, .int .i64 R]), some (46, [.int .i64 0, .int .i64 0, .int .i64 0, .int .i64 0], [.int .i64 X', .int .i64 Y', .int .i64 D', .int .i64 R']), none, none] [none, none, none, none, none, none, some 4, some 5] 8 rfl (by kernel_rfl) ?tr ⟨[undef, undef, undef, undef, undef, undef, undef, undef], by simp only [putAll, Act.put, List.setIfInBounds_toArray, List.set_cons_succ, List.set_cons_zero, List.set_nil], rfl⟩ ?steps ?fin
  case tr =>
    rintro i v h
    rcases i with _ | _ | _ | _ | _ | _ | _ | _ | i
    all_goals first | trivial | (exfalso; rcases h with h | h <;> simp at h)
  case steps =>
    simp only [boxSteps, Nat.reduceAdd, Nat.zero_add, List.getD_cons_succ, List.getD_cons_zero]
    refine ⟨?_, ?_, ?_, ?_, ?_, ?_, ?_, ?_, trivial⟩
    · rintro vs W K hc hvl hw hK
      obtain ⟨x0, x1, x2, x3, x4, x5, x6, x7, rfl⟩ := len8 hvl
      have HK := Lib.hid hK
      have HC := Lib.hid hc
      have HW := Lib.hid hw
      clear hK hc hw hvl
      simp only [putAll, Act.put, List.setIfInBounds_toArray, List.set_cons_succ, List.set_cons_zero, List.set_nil]
      have rr := RA.out.below HC.out RA.out.lt
      have d0 := rr.cell 0
      have d1 := rr.cell 1
      have d2 := rr.cell 2
      have d3 := rr.cell 3
      simp only [List.getElem?_cons_zero, List.getElem?_cons_succ] at d0 d1 d2 d3
      clear rr
      clear HW
      go_wp2_with fail
      have fin := HK.out (.agg #[.int .i64 X, .int .i64 Y, .int .i64 D, .int .i64 R]) W (Below.refl _ _) rfl
      simp only [putAll, Act.put, List.setIfInBounds_toArray, List.set_cons_succ, List.set_cons_zero, List.set_nil] at fin
      exact fin
    · rintro vs W K hc hvl hw hK
      obtain ⟨x0, x1, x2, x3, x4, x5, x6, x7, rfl⟩ := len8 hvl
      have HK := Lib.hid hK
      have HC := Lib.hid hc
      have HW := Lib.hid hw
      clear hK hc hw hvl
      obtain rfl : x0 = .agg #[.int .i64 X, .int .i64 Y, .int .i64 D, .int .i64 R] := box_get (HW.out ⟨0, .data⟩ (by simp) rfl) rfl
      simp only [putAll, Act.put, List.setIfInBounds_toArray, List.set_cons_succ, List.set_cons_zero, List.set_nil]
      clear HW
      go_wp2_with fail
      refine (HC1.out W).mono ?_
      rintro e W' ⟨rfl, hb'⟩
      have HB' := Lib.hid hb'
      clear hb'
      go_wp2_with fail
      have fin := HK.out (.agg #[.int .i64 X, .int .i64 Y, .int .i64 D, .int .i64 R]) W' HB'.out rfl
      simp only [putAll, Act.put, List.setIfInBounds_toArray, List.set_cons_succ, List.set_cons_zero, List.set_nil] at fin
      exact fin
    · rintro vs W K hc hvl hw hK
      obtain ⟨x0, x1, x2, x3, x4, x5, x6, x7, rfl⟩ := len8 hvl
      have HK := Lib.hid hK
      have HC := Lib.hid hc
      have HW := Lib.hid hw
      clear hK hc hw hvl
      simp only [putAll, Act.put, List.setIfInBounds_toArray, List.set_cons_succ, List.set_cons_zero, List.set_nil]
      have rr := RB.out.below HC.out RB.out.lt
      have d0 := rr.cell 0
      have d1 := rr.cell 1
      have d2 := rr.cell 2
      have d3 := rr.cell 3
      simp only [List.getElem?_cons_zero, List.getElem?_cons_succ] at d0 d1 d2 d3
      clear rr
      clear HW
      go_wp2_with fail
      have fin := HK.out (.agg #[.int .i64 X', .int .i64 Y', .int .i64 D', .int .i64 R']) W (Below.refl _ _) rfl
      simp only [putAll, Act.put, List.setIfInBounds_toArray, List.set_cons_succ, List.set_cons_zero, List.set_nil] at fin
      exact fin
    · rintro vs W K hc hvl hw hK
      obtain ⟨x0, x1, x2, x3, x4, x5, x6, x7, rfl⟩ := len8 hvl
      have HK := Lib.hid hK
      have HC := Lib.hid hc
      have HW := Lib.hid hw
      clear hK hc hw hvl
      obtain rfl : x2 = .agg #[.int .i64 X', .int .i64 Y', .int .i64 D', .int .i64 R'] := box_get (HW.out ⟨2, .data⟩ (by simp) rfl) rfl
      simp only [putAll, Act.put, List.setIfInBounds_toArray, List.set_cons_succ, List.set_cons_zero, List.set_nil]
      clear HW
      go_wp2_with fail
      refine (HC2.out W).mono ?_
      rintro e W' ⟨rfl, hb'⟩
      have HB' := Lib.hid hb'
      clear hb'
      go_wp2_with fail
      have fin := HK.out (.agg #[.int .i64 X', .int .i64 Y', .int .i64 D', .int .i64 R']) W' HB'.out rfl
      simp only [putAll, Act.put, List.setIfInBounds_toArray, List.set_cons_succ, List.set_cons_zero, List.set_nil] at fin
      exact fin
    · rintro vs W K hc hvl hw hK
      obtain ⟨x0, x1, x2, x3, x4, x5, x6, x7, rfl⟩ := len8 hvl
      have HK := Lib.hid hK
      have HC := Lib.hid hc
      have HW := Lib.hid hw
      clear hK hc hw hvl
      simp only [putAll, Act.put, List.setIfInBounds_toArray, List.set_cons_succ, List.set_cons_zero, List.set_nil]
      clear HW
      go_wp2_with fail
      have fin := HK.out
      simp only [putAll, Act.put, List.setIfInBounds_toArray, List.set_cons_succ, List.set_cons_zero, List.set_nil] at fin
      exact fin
    · rintro vs W K hc hvl hw hK
      obtain ⟨x0, x1, x2, x3, x4, x5, x6, x7, rfl⟩ := len8 hvl
      have HK := Lib.hid hK
      have HC := Lib.hid hc
      have HW := Lib.hid hw
      clear hK hc hw hvl
      simp only [putAll, Act.put, List.setIfInBounds_toArray, List.set_cons_succ, List.set_cons_zero, List.set_nil]
      clear HW
      go_wp2_with fail
      have fin := HK.out
      simp only [putAll, Act.put, List.setIfInBounds_toArray, List.set_cons_succ, List.set_cons_zero, List.set_nil] at fin
      exact fin
    · rintro vs W K hc hvl hw b E z f hia hva hb0 hr hK
      cases hia
      obtain ⟨x0, x1, x2, x3, x4, x5, x6, x7, rfl⟩ := len8 hvl
      have HK := Lib.hid hK
      have HC := Lib.hid hc
      have HW := Lib.hid hw
      clear hK hc hw hvl
      obtain rfl : x1 = .agg #[.int .i64 X, .int .i64 Y, .int .i64 D, .int .i64 R] := box_get (HW.out ⟨1, .data⟩ (by simp) rfl) rfl
      obtain rfl : x4 = .pointer (some ⟨b, 0, none⟩) := Option.some.inj hva
      simp only [putAll, Act.put, List.setIfInBounds_toArray, List.set_cons_succ, List.set_cons_zero, List.set_nil]
      have kf0 := frozen_of_row W b 0 _ _ hr
      have kc0 : W.cell? ⟨b, 0, none⟩ = some (.int .i64 0) := hr.cell 0
      have kf1 := frozen_of_row W b 1 _ _ hr
      have kc1 : W.cell? ⟨b, 1, none⟩ = some (.int .i64 0) := hr.cell 1
      have kf2 := frozen_of_row W b 2 _ _ hr
      have kc2 : W.cell? ⟨b, 2, none⟩ = some (.int .i64 0) := hr.cell 2
      have kf3 := frozen_of_row W b 3 _ _ hr
      have kc3 : W.cell? ⟨b, 3, none⟩ = some (.int .i64 0) := hr.cell 3
      have HRW := Lib.hid hr
      clear HW hr hva
      go_wp2_with fail
      have fin := HK.out _ (show Row _ b 46 [.int .i64 X, .int .i64 Y, .int .i64 D, .int .i64 R] from by simpa using (show Row _ b 46 _ from ((((HRW.out.set 0 (.int .i64 X)).set 1 (.int .i64 Y)).set 2 (.int .i64 D)).set 3 (.int .i64 R)))) (grown_put (grown_put (grown_put (grown_put (grown_self W _)))))
      simp only [putAll, Act.put, List.setIfInBounds_toArray, List.set_cons_succ, List.set_cons_zero, List.set_nil] at fin
      exact fin
    · rintro vs W K hc hvl hw b E z f hia hva hb0 hr hK
      cases hia
      obtain ⟨x0, x1, x2, x3, x4, x5, x6, x7, rfl⟩ := len8 hvl
      have HK := Lib.hid hK
      have HC := Lib.hid hc
      have HW := Lib.hid hw
      clear hK hc hw hvl
      obtain rfl : x3 = .agg #[.int .i64 X', .int .i64 Y', .int .i64 D', .int .i64 R'] := box_get (HW.out ⟨3, .data⟩ (by simp) rfl) rfl
      obtain rfl : x5 = .pointer (some ⟨b, 0, none⟩) := Option.some.inj hva
      simp only [putAll, Act.put, List.setIfInBounds_toArray, List.set_cons_succ, List.set_cons_zero, List.set_nil]
      have kf0 := frozen_of_row W b 0 _ _ hr
      have kc0 : W.cell? ⟨b, 0, none⟩ = some (.int .i64 0) := hr.cell 0
      have kf1 := frozen_of_row W b 1 _ _ hr
      have kc1 : W.cell? ⟨b, 1, none⟩ = some (.int .i64 0) := hr.cell 1
      have kf2 := frozen_of_row W b 2 _ _ hr
      have kc2 : W.cell? ⟨b, 2, none⟩ = some (.int .i64 0) := hr.cell 2
      have kf3 := frozen_of_row W b 3 _ _ hr
      have kc3 : W.cell? ⟨b, 3, none⟩ = some (.int .i64 0) := hr.cell 3
      have HRW := Lib.hid hr
      clear HW hr hva
      go_wp2_with fail
      have fin := HK.out _ (show Row _ b 46 [.int .i64 X', .int .i64 Y', .int .i64 D', .int .i64 R'] from by simpa using (show Row _ b 46 _ from ((((HRW.out.set 0 (.int .i64 X')).set 1 (.int .i64 Y')).set 2 (.int .i64 D')).set 3 (.int .i64 R')))) (grown_put (grown_put (grown_put (grown_put (grown_self W _)))))
      simp only [putAll, Act.put, List.setIfInBounds_toArray, List.set_cons_succ, List.set_cons_zero, List.set_nil] at fin
      exact fin
  case fin =>
    rintro vs W hJ
    obtain ⟨x0, x1, x2, x3, x4, x5, x6, x7, rfl⟩ := len8 hJ.ln
    obtain ⟨b4, e4, hb4, hr4⟩ := hJ.box 4 _ _ _ rfl rfl
    obtain rfl : x4 = .pointer (some ⟨b4, 0, none⟩) := Option.some.inj e4
    replace hr4 : Row W b4 46 [.int .i64 X, .int .i64 Y, .int .i64 D, .int .i64 R] := hr4
    have HR4 := Lib.hid hr4
    clear e4 hr4
    obtain ⟨b5, e5, hb5, hr5⟩ := hJ.box 5 _ _ _ rfl rfl
    obtain rfl : x5 = .pointer (some ⟨b5, 0, none⟩) := Option.some.inj e5
    replace hr5 : Row W b5 46 [.int .i64 X', .int .i64 Y', .int .i64 D', .int .i64 R'] := hr5
    have HR5 := Lib.hid hr5
    clear e5 hr5
    have HC := Lib.hid hJ.bl
    clear hJ
    simp only [putAll, Act.put, List.setIfInBounds_toArray, List.set_cons_succ, List.set_cons_zero, List.set_nil]
    have RA1 := Lib.hid (RA.out.below HC.out RA.out.lt)
    have RB1 := Lib.hid (RB.out.below HC.out RB.out.lt)
    have RC1 := Lib.hid (RC.out.below HC.out RC.out.lt)
    have B1 := Lib.hid (Below.andThen BA.out HC.out (Nat.le_refl _))
    have HL4 := Lib.hid (show w.heap.size + 1 + 1 < b4 from Nat.lt_of_lt_of_le RC.out.lt hb4)
    have HL5 := Lib.hid (show w.heap.size + 1 + 1 < b5 from Nat.lt_of_lt_of_le RC.out.lt hb5)
    clear RA RB RC BA hb4 hb5 HC
    go_wp2_with fail
    refine wp_region_box (by kernel_rfl) (by kernel_rfl) [21, 22, 23, 24, 9, 10] [(fun v => v = .agg #[.int .i64 X, .int .i64 Y, .int .i64 D, .int .i64 R]), (fun v => v = .bool A), (fun v => v = .agg #[.int .i64 X', .int .i64 Y', .int .i64 D', .int .i64 R']), (fun v => v = .bool B), (fun v => v = .bool A), (fun v => v = .bool B)] [none, none, none, none, none, none] [none, none, none, none, none, none] 6 rfl (by kernel_rfl) ?tr ⟨[undef, undef, undef, undef, undef, undef], by simp only [putAll, Act.put, List.setIfInBounds_toArray, List.set_cons_succ, List.set_cons_zero], rfl⟩ ?steps ?fin
    case tr =>
      rintro i v h
      rcases i with _ | _ | _ | _ | _ | _ | i
      all_goals first | trivial | (exfalso; rcases h with h | h <;> simp at h)
    case steps =>
      simp only [boxSteps, Nat.reduceAdd, Nat.zero_add, List.getD_cons_succ, List.getD_cons_zero]
      refine ⟨?_, ?_, ?_, ?_, ?_, ?_, trivial⟩
      · rintro vs W K hc hvl hw hK
        obtain ⟨x0, x1, x2, x3, x4, x5, rfl⟩ := len6 hvl
        have HK := Lib.hid hK
        have HC := Lib.hid hc
        have HW := Lib.hid hw
        clear hK hc hw hvl
        simp only [putAll, Act.put, List.setIfInBounds_toArray, List.set_cons_succ, List.set_cons_zero]
        have rr := HR4.out.below HC.out HR4.out.lt
        have d0 := rr.cell 0
        have d1 := rr.cell 1
        have d2 := rr.cell 2
        have d3 := rr.cell 3
        simp only [List.getElem?_cons_zero, List.getElem?_cons_succ] at d0 d1 d2 d3
        clear rr
        clear HW
        go_wp2_with fail
        have fin := HK.out (.agg #[.int .i64 X, .int .i64 Y, .int .i64 D, .int .i64 R]) W (Below.refl _ _) rfl
        simp only [putAll, Act.put, List.setIfInBounds_toArray, List.set_cons_succ, List.set_cons_zero] at fin
        exact fin
      · rintro vs W K hc hvl hw hK
        obtain ⟨x0, x1, x2, x3, x4, x5, rfl⟩ := len6 hvl
        have HK := Lib.hid hK
        have HC := Lib.hid hc
        have HW := Lib.hid hw
        clear hK hc hw hvl
        obtain rfl : x0 = .agg #[.int .i64 X, .int .i64 Y, .int .i64 D, .int .i64 R] := box_get (HW.out ⟨0, .data⟩ (by simp) rfl) rfl
        simp only [putAll, Act.put, List.setIfInBounds_toArray, List.set_cons_succ, List.set_cons_zero]
        clear HW
        go_wp2_with fail
        refine (HV1.out W).mono ?_
        rintro e W' ⟨rfl, hb'⟩
        have HB' := Lib.hid hb'
        clear hb'
        go_wp2_with fail
        have fin := HK.out (.bool A) W' HB'.out rfl
        simp only [putAll, Act.put, List.setIfInBounds_toArray, List.set_cons_succ, List.set_cons_zero] at fin
        exact fin
      · rintro vs W K hc hvl hw hK
        obtain ⟨x0, x1, x2, x3, x4, x5, rfl⟩ := len6 hvl
        have HK := Lib.hid hK
        have HC := Lib.hid hc
        have HW := Lib.hid hw
        clear hK hc hw hvl
        simp only [putAll, Act.put, List.setIfInBounds_toArray, List.set_cons_succ, List.set_cons_zero]
        have rr := HR5.out.below HC.out HR5.out.lt
        have d0 := rr.cell 0
        have d1 := rr.cell 1
        have d2 := rr.cell 2
        have d3 := rr.cell 3
        simp only [List.getElem?_cons_zero, List.getElem?_cons_succ] at d0 d1 d2 d3
        clear rr
        clear HW
        go_wp2_with fail
        have fin := HK.out (.agg #[.int .i64 X', .int .i64 Y', .int .i64 D', .int .i64 R']) W (Below.refl _ _) rfl
        simp only [putAll, Act.put, List.setIfInBounds_toArray, List.set_cons_succ, List.set_cons_zero] at fin
        exact fin
      · rintro vs W K hc hvl hw hK
        obtain ⟨x0, x1, x2, x3, x4, x5, rfl⟩ := len6 hvl
        have HK := Lib.hid hK
        have HC := Lib.hid hc
        have HW := Lib.hid hw
        clear hK hc hw hvl
        obtain rfl : x2 = .agg #[.int .i64 X', .int .i64 Y', .int .i64 D', .int .i64 R'] := box_get (HW.out ⟨2, .data⟩ (by simp) rfl) rfl
        simp only [putAll, Act.put, List.setIfInBounds_toArray, List.set_cons_succ, List.set_cons_zero]
        clear HW
        go_wp2_with fail
        refine (HV2.out W).mono ?_
        rintro e W' ⟨rfl, hb'⟩
        have HB' := Lib.hid hb'
        clear hb'
        go_wp2_with fail
        have fin := HK.out (.bool B) W' HB'.out rfl
        simp only [putAll, Act.put, List.setIfInBounds_toArray, List.set_cons_succ, List.set_cons_zero] at fin
        exact fin
      · rintro vs W K hc hvl hw hK
        obtain ⟨x0, x1, x2, x3, x4, x5, rfl⟩ := len6 hvl
        have HK := Lib.hid hK
        have HC := Lib.hid hc
        have HW := Lib.hid hw
        clear hK hc hw hvl
        obtain rfl : x1 = .bool A := box_get (HW.out ⟨1, .data⟩ (by simp) rfl) rfl
        simp only [putAll, Act.put, List.setIfInBounds_toArray, List.set_cons_succ, List.set_cons_zero]
        clear HW
        go_wp2_with fail
        have fin := HK.out (.bool A) W (Below.refl _ _) rfl
        simp only [putAll, Act.put, List.setIfInBounds_toArray, List.set_cons_succ, List.set_cons_zero] at fin
        exact fin
      · rintro vs W K hc hvl hw hK
        obtain ⟨x0, x1, x2, x3, x4, x5, rfl⟩ := len6 hvl
        have HK := Lib.hid hK
        have HC := Lib.hid hc
        have HW := Lib.hid hw
        clear hK hc hw hvl
        obtain rfl : x3 = .bool B := box_get (HW.out ⟨3, .data⟩ (by simp) rfl) rfl
        simp only [putAll, Act.put, List.setIfInBounds_toArray, List.set_cons_succ, List.set_cons_zero]
        clear HW
        go_wp2_with fail
        have fin := HK.out (.bool B) W (Below.refl _ _) rfl
        simp only [putAll, Act.put, List.setIfInBounds_toArray, List.set_cons_succ, List.set_cons_zero] at fin
        exact fin
    case fin =>
      rintro vs W hJ
      obtain ⟨x0, x1, x2, x3, x4, x5, rfl⟩ := len6 hJ.ln
      obtain rfl : x4 = .bool A := box_get (hJ.val 4 rfl) rfl
      obtain rfl : x5 = .bool B := box_get (hJ.val 5 rfl) rfl
      have HC := Lib.hid hJ.bl
      clear hJ
      simp only [putAll, Act.put, List.setIfInBounds_toArray, List.set_cons_succ, List.set_cons_zero]
      have RA2 := Lib.hid (RA1.out.below HC.out RA1.out.lt)
      have RB2 := Lib.hid (RB1.out.below HC.out RB1.out.lt)
      have RC2 := Lib.hid (RC1.out.below HC.out RC1.out.lt)
      have R42 := Lib.hid (HR4.out.below HC.out HR4.out.lt)
      have R52 := Lib.hid (HR5.out.below HC.out HR5.out.lt)
      have B2 := Lib.hid (Below.andThen B1.out HC.out (Nat.le_refl _))
      have HNE := Lib.hid (And.intro HL4.out HL5.out)
      clear RA1 RB1 RC1 HR4 HR5 B1 HC HC1 HC2 HV1 HV2 HL4 HL5
      have q1_a := RA2.out
      have c1_a_0 := q1_a.cell 0
      have c1_a_1 := q1_a.cell 1
      have c1_a_2 := q1_a.cell 2
      have c1_a_3 := q1_a.cell 3
      simp only [List.getElem?_cons_zero, List.getElem?_cons_succ] at c1_a_0 c1_a_1 c1_a_2 c1_a_3
      clear q1_a
      go_wp2_with fail
      refine (HCK.out _).mono ?_
      rintro e w1 ⟨rfl, h1⟩
      have Rq2_a := Lib.hid (RA2.out.below h1 RA2.out.lt)
      have Rq2_b := Lib.hid (RB2.out.below h1 RB2.out.lt)
      have Rq2_p := Lib.hid (RC2.out.below h1 RC2.out.lt)
      have Rq2_x := Lib.hid (R42.out.below h1 R42.out.lt)
      have Rq2_y := Lib.hid (R52.out.below h1 R52.out.lt)
      have Bq2 := Lib.hid (Below.andThen B2.out h1 (Nat.le_refl _))
      clear h1 RA2 RB2 RC2 R42 R52 B2 c1_a_0 c1_a_1 c1_a_2 c1_a_3
      cases A with
      | false =>
        have q3_a := Rq2_a.out
        have c3_a_0 := q3_a.cell 0
        have c3_a_1 := q3_a.cell 1
        have c3_a_2 := q3_a.cell 2
        have c3_a_3 := q3_a.cell 3
        simp only [List.getElem?_cons_zero, List.getElem?_cons_succ] at c3_a_0 c3_a_1 c3_a_2 c3_a_3
        clear q3_a
        have q4_b := Rq2_b.out
        have c4_b_0 := q4_b.cell 0
        have c4_b_1 := q4_b.cell 1
        have c4_b_2 := q4_b.cell 2
        have c4_b_3 := q4_b.cell 3
        simp only [List.getElem?_cons_zero, List.getElem?_cons_succ] at c4_b_0 c4_b_1 c4_b_2 c4_b_3
        clear q4_b
        go_wp2_with fail
        refine (HCM.out _).mono ?_
        rintro e w2 ⟨rfl, h2⟩
        have Rq5_a := Lib.hid (Rq2_a.out.below h2 Rq2_a.out.lt)
        have Rq5_b := Lib.hid (Rq2_b.out.below h2 Rq2_b.out.lt)
        have Rq5_p := Lib.hid (Rq2_p.out.below h2 Rq2_p.out.lt)
        have Rq5_x := Lib.hid (Rq2_x.out.below h2 Rq2_x.out.lt)
        have Rq5_y := Lib.hid (Rq2_y.out.below h2 Rq2_y.out.lt)
        have Bq5 := Lib.hid (Below.andThen Bq2.out h2 (Nat.le_refl _))
        clear h2 Rq2_a Rq2_b Rq2_p Rq2_x Rq2_y Bq2 c3_a_0 c3_a_1 c3_a_2 c3_a_3 c4_b_0 c4_b_1 c4_b_2 c4_b_3
        go_wp2_with fail
        go_loopw [14] (fun iv wr => ∃ k : Nat, k ≤ 2 ∧ iv = .int .i64 (k : Int) ∧ Hid (∃ p q : Int, Row wr w.heap.size 30 [.int .i64 X, .int .i64 Y, .int .i64 D, .int .i64 R] ∧ Row wr b4 46 [.int .i64 X, .int .i64 Y, .int .i64 D, .int .i64 R] ∧ Row wr (w.heap.size + 1 + 1) 28 [.int .i64 p, .int .i64 q] ∧ Below w.heap.size w wr)) (fun iv _ => (2 - intOf iv).toNat)
        case atStart => exact ⟨0, by omega, rfl, Lib.hid ⟨_, _, Rq5_a.out, Rq5_x.out, Rq5_p.out, Bq5.out⟩⟩
        case round =>
          clear Rq5_a Rq5_b Rq5_p Rq5_x Rq5_y Bq5
          obtain ⟨k, hk, rfl, HB⟩ := hrel
          have iw : IntKind.i64.wrap ((k : Int) + 1) = ((k + 1 : Nat) : Int) := by rw [i64_of _ (by omega) (by omega)]; omega
          obtain ⟨p, q, r1, r2, r3, r4⟩ := HB.out
          have Ra := Lib.hid r1
          have Rx := Lib.hid r2
          have Rp := Lib.hid r3
          have Bw := Lib.hid r4
          clear r1 r2 r3 r4 HB
          by_cases hlt : k < 2
          · have hd : decide ((k : Int) < 2) = true := decide_eq_true (by omega)
            have HWp := Lib.hid (HWH.out p q)
            have HIp := Lib.hid (fun W : World => In_any p q W)
            have HPp := Lib.hid (fun W : World => place_any p q W)
            generalize WH (p, q) = N at *
            generalize okP (p, q) = ok at *
            have q6_a := Ra.out
            have c6_a_0 := q6_a.cell 0
            have c6_a_1 := q6_a.cell 1
            have c6_a_2 := q6_a.cell 2
            have c6_a_3 := q6_a.cell 3
            simp only [List.getElem?_cons_zero, List.getElem?_cons_succ] at c6_a_0 c6_a_1 c6_a_2 c6_a_3
            clear q6_a
            have q7_p := Rp.out
            have c7_p_0 := q7_p.cell 0
            have c7_p_1 := q7_p.cell 1
            simp only [List.getElem?_cons_zero, List.getElem?_cons_succ] at c7_p_0 c7_p_1
            clear q7_p
            go_wp2_with fail
            refine (HWp.out _).mono ?_
            rintro e w3 ⟨rfl, h3⟩
            have Rq8_a := Lib.hid (Ra.out.below h3 Ra.out.lt)
            have Rq8_x := Lib.hid (Rx.out.below h3 Rx.out.lt)
            have Rq8_p := Lib.hid (Rp.out.below h3 Rp.out.lt)
            have Bq8 := Lib.hid (Below.andThen Bw.out h3 (Nat.le_refl _))
            clear h3 Ra Rx Rp Bw c6_a_0 c6_a_1 c6_a_2 c6_a_3 c7_p_0 c7_p_1
            have q9_p := Rq8_p.out
            have c9_p_0 := q9_p.cell 0
            have c9_p_1 := q9_p.cell 1
            simp only [List.getElem?_cons_zero, List.getElem?_cons_succ] at c9_p_0 c9_p_1
            clear q9_p
            go_wp2_with fail
            refine (HPp.out _).mono ?_
            rintro e w4 ⟨rfl, h4⟩
            have Rq10_a := Lib.hid (Rq8_a.out.below h4 Rq8_a.out.lt)
            have Rq10_x := Lib.hid (Rq8_x.out.below h4 Rq8_x.out.lt)
            have Rq10_p := Lib.hid (Rq8_p.out.below h4 Rq8_p.out.lt)
            have Bq10 := Lib.hid (Below.andThen Bq8.out h4 (Nat.le_refl _))
            clear h4 Rq8_a Rq8_x Rq8_p Bq8 c9_p_0 c9_p_1
            have q11_p := Rq10_p.out
            have c11_p_0 := q11_p.cell 0
            have c11_p_1 := q11_p.cell 1
            simp only [List.getElem?_cons_zero, List.getElem?_cons_succ] at c11_p_0 c11_p_1
            clear q11_p
            have z12_p_0 := frozen_of_row _ (w.heap.size + 1 + 1) 0 _ _ Rq10_p.out
            have z12_p_1 := frozen_of_row _ (w.heap.size + 1 + 1) 1 _ _ Rq10_p.out
            have hs := ((Rq10_p.out.set 0 (.int .i64 (plN p))).set 1 (.int .i64 (plN q)))
            simp only [List.set_cons_zero, List.set_cons_succ] at hs
            have Rq13_p := Lib.hid hs
            have Rq13_a := Lib.hid ((Rq10_a.out.other 0 (.int .i64 (plN p)) (show w.heap.size ≠ w.heap.size + 1 + 1 by omega)).other 1 (.int .i64 (plN q)) (show w.heap.size ≠ w.heap.size + 1 + 1 by omega))
            have Rq13_x := Lib.hid ((Rq10_x.out.other 0 (.int .i64 (plN p)) (show b4 ≠ w.heap.size + 1 + 1 by have := HNE.out.1; omega)).other 1 (.int .i64 (plN q)) (show b4 ≠ w.heap.size + 1 + 1 by have := HNE.out.1; omega))
            have Bq13 := Lib.hid ((Bq10.out.setCell (p := ⟨w.heap.size + 1 + 1, 0, none⟩) (by dsimp only; omega) (.int .i64 (plN p))).setCell (p := ⟨w.heap.size + 1 + 1, 1, none⟩) (by dsimp only; omega) (.int .i64 (plN q)))
            clear hs Rq10_p Rq10_a Rq10_x Bq10
            go_wp2_with fail
            exact ⟨⟨k + 1, by omega, rfl, Lib.hid ⟨_, _, Rq13_a.out, Rq13_x.out, Rq13_p.out, Bq13.out⟩⟩, by simp [intOf]; omega⟩
          · have hd : decide ((k : Int) < 2) = false := decide_eq_false (by omega)
            go_wp2_with fail
            refine (awake_any wr).mono ?_
            rintro e w9 ⟨rfl, h9⟩
            have B9 := Lib.hid (Below.andThen Bw.out h9 (Nat.le_refl _))
            clear h9
            go_wp2_with fail
            go_ret
            exact ⟨rfl, B9.out⟩
      | true =>
        cases B with
        | false =>
          have q3_a := Rq2_a.out
          have c3_a_0 := q3_a.cell 0
          have c3_a_1 := q3_a.cell 1
          have c3_a_2 := q3_a.cell 2
          have c3_a_3 := q3_a.cell 3
          simp only [List.getElem?_cons_zero, List.getElem?_cons_succ] at c3_a_0 c3_a_1 c3_a_2 c3_a_3
          clear q3_a
          have q4_b := Rq2_b.out
          have c4_b_0 := q4_b.cell 0
          have c4_b_1 := q4_b.cell 1
          have c4_b_2 := q4_b.cell 2
          have c4_b_3 := q4_b.cell 3
          simp only [List.getElem?_cons_zero, List.getElem?_cons_succ] at c4_b_0 c4_b_1 c4_b_2 c4_b_3
          clear q4_b
          go_wp2_with fail
          refine (HCM.out _).mono ?_
          rintro e w2 ⟨rfl, h2⟩
          have Rq5_a := Lib.hid (Rq2_a.out.below h2 Rq2_a.out.lt)
          have Rq5_b := Lib.hid (Rq2_b.out.below h2 Rq2_b.out.lt)
          have Rq5_p := Lib.hid (Rq2_p.out.below h2 Rq2_p.out.lt)
          have Rq5_x := Lib.hid (Rq2_x.out.below h2 Rq2_x.out.lt)
          have Rq5_y := Lib.hid (Rq2_y.out.below h2 Rq2_y.out.lt)
          have Bq5 := Lib.hid (Below.andThen Bq2.out h2 (Nat.le_refl _))
          clear h2 Rq2_a Rq2_b Rq2_p Rq2_x Rq2_y Bq2 c3_a_0 c3_a_1 c3_a_2 c3_a_3 c4_b_0 c4_b_1 c4_b_2 c4_b_3
          go_wp2_with fail
          go_loopw [14] (fun iv wr => ∃ k : Nat, k ≤ 2 ∧ iv = .int .i64 (k : Int) ∧ Hid (∃ p q : Int, Row wr w.heap.size 30 [.int .i64 X, .int .i64 Y, .int .i64 D, .int .i64 R] ∧ Row wr b4 46 [.int .i64 X, .int .i64 Y, .int .i64 D, .int .i64 R] ∧ Row wr (w.heap.size + 1 + 1) 28 [.int .i64 p, .int .i64 q] ∧ Below w.heap.size w wr)) (fun iv _ => (2 - intOf iv).toNat)
          case atStart => exact ⟨0, by omega, rfl, Lib.hid ⟨_, _, Rq5_a.out, Rq5_x.out, Rq5_p.out, Bq5.out⟩⟩
          case round =>
            clear Rq5_a Rq5_b Rq5_p Rq5_x Rq5_y Bq5
            obtain ⟨k, hk, rfl, HB⟩ := hrel
            have iw : IntKind.i64.wrap ((k : Int) + 1) = ((k + 1 : Nat) : Int) := by rw [i64_of _ (by omega) (by omega)]; omega
            obtain ⟨p, q, r1, r2, r3, r4⟩ := HB.out
            have Ra := Lib.hid r1
            have Rx := Lib.hid r2
            have Rp := Lib.hid r3
            have Bw := Lib.hid r4
            clear r1 r2 r3 r4 HB
            by_cases hlt : k < 2
            · have hd : decide ((k : Int) < 2) = true := decide_eq_true (by omega)
              have HWp := Lib.hid (HWH.out p q)
              have HRp := Lib.hid (HRW.out (by trivial) p q)
              have HIp := Lib.hid (fun W : World => In_any p q W)
              have HPp := Lib.hid (fun W : World => place_any p q W)
              generalize WH (p, q) = N at *
              generalize okP (p, q) = ok at *
              cases ok with
              | false =>
                have q6_a := Ra.out
                have c6_a_0 := q6_a.cell 0
                have c6_a_1 := q6_a.cell 1
                have c6_a_2 := q6_a.cell 2
                have c6_a_3 := q6_a.cell 3
                simp only [List.getElem?_cons_zero, List.getElem?_cons_succ] at c6_a_0 c6_a_1 c6_a_2 c6_a_3
                clear q6_a
                have q7_p := Rp.out
                have c7_p_0 := q7_p.cell 0
                have c7_p_1 := q7_p.cell 1
                simp only [List.getElem?_cons_zero, List.getElem?_cons_succ] at c7_p_0 c7_p_1
                clear q7_p
                go_wp2_with fail
                refine (HWp.out _).mono ?_
                rintro e w3 ⟨rfl, h3⟩
                have Rq8_a := Lib.hid (Ra.out.below h3 Ra.out.lt)
                have Rq8_x := Lib.hid (Rx.out.below h3 Rx.out.lt)
                have Rq8_p := Lib.hid (Rp.out.below h3 Rp.out.lt)
                have Bq8 := Lib.hid (Below.andThen Bw.out h3 (Nat.le_refl _))
                clear h3 Ra Rx Rp Bw c6_a_0 c6_a_1 c6_a_2 c6_a_3 c7_p_0 c7_p_1
                have q9_p := Rq8_p.out
                have c9_p_0 := q9_p.cell 0
                have c9_p_1 := q9_p.cell 1
                simp only [List.getElem?_cons_zero, List.getElem?_cons_succ] at c9_p_0 c9_p_1
                clear q9_p
                go_wp2_with fail
                refine (HIp.out _).mono ?_
                rintro e w4 ⟨rfl, h4⟩
                have Rq10_a := Lib.hid (Rq8_a.out.below h4 Rq8_a.out.lt)
                have Rq10_x := Lib.hid (Rq8_x.out.below h4 Rq8_x.out.lt)
                have Rq10_p := Lib.hid (Rq8_p.out.below h4 Rq8_p.out.lt)
                have Bq10 := Lib.hid (Below.andThen Bq8.out h4 (Nat.le_refl _))
                clear h4 Rq8_a Rq8_x Rq8_p Bq8 c9_p_0 c9_p_1
                have q11_p := Rq10_p.out
                have c11_p_0 := q11_p.cell 0
                have c11_p_1 := q11_p.cell 1
                simp only [List.getElem?_cons_zero, List.getElem?_cons_succ] at c11_p_0 c11_p_1
                clear q11_p
                go_wp2_with fail
                refine (HPp.out _).mono ?_
                rintro e w5 ⟨rfl, h5⟩
                have Rq12_a := Lib.hid (Rq10_a.out.below h5 Rq10_a.out.lt)
                have Rq12_x := Lib.hid (Rq10_x.out.below h5 Rq10_x.out.lt)
                have Rq12_p := Lib.hid (Rq10_p.out.below h5 Rq10_p.out.lt)
                have Bq12 := Lib.hid (Below.andThen Bq10.out h5 (Nat.le_refl _))
                clear h5 Rq10_a Rq10_x Rq10_p Bq10 c11_p_0 c11_p_1
                have q13_p := Rq12_p.out
                have c13_p_0 := q13_p.cell 0
                have c13_p_1 := q13_p.cell 1
                simp only [List.getElem?_cons_zero, List.getElem?_cons_succ] at c13_p_0 c13_p_1
                clear q13_p
                have z14_p_0 := frozen_of_row _ (w.heap.size + 1 + 1) 0 _ _ Rq12_p.out
                have z14_p_1 := frozen_of_row _ (w.heap.size + 1 + 1) 1 _ _ Rq12_p.out
                have hs := ((Rq12_p.out.set 0 (.int .i64 (plN p))).set 1 (.int .i64 (plN q)))
                simp only [List.set_cons_zero, List.set_cons_succ] at hs
                have Rq15_p := Lib.hid hs
                have Rq15_a := Lib.hid ((Rq12_a.out.other 0 (.int .i64 (plN p)) (show w.heap.size ≠ w.heap.size + 1 + 1 by omega)).other 1 (.int .i64 (plN q)) (show w.heap.size ≠ w.heap.size + 1 + 1 by omega))
                have Rq15_x := Lib.hid ((Rq12_x.out.other 0 (.int .i64 (plN p)) (show b4 ≠ w.heap.size + 1 + 1 by have := HNE.out.1; omega)).other 1 (.int .i64 (plN q)) (show b4 ≠ w.heap.size + 1 + 1 by have := HNE.out.1; omega))
                have Bq15 := Lib.hid ((Bq12.out.setCell (p := ⟨w.heap.size + 1 + 1, 0, none⟩) (by dsimp only; omega) (.int .i64 (plN p))).setCell (p := ⟨w.heap.size + 1 + 1, 1, none⟩) (by dsimp only; omega) (.int .i64 (plN q)))
                clear hs Rq12_p Rq12_a Rq12_x Bq12
                go_wp2_with fail
                exact ⟨⟨k + 1, by omega, rfl, Lib.hid ⟨_, _, Rq15_a.out, Rq15_x.out, Rq15_p.out, Bq15.out⟩⟩, by simp [intOf]; omega⟩
              | true =>
                have q6_a := Ra.out
                have c6_a_0 := q6_a.cell 0
                have c6_a_1 := q6_a.cell 1
                have c6_a_2 := q6_a.cell 2
                have c6_a_3 := q6_a.cell 3
                simp only [List.getElem?_cons_zero, List.getElem?_cons_succ] at c6_a_0 c6_a_1 c6_a_2 c6_a_3
                clear q6_a
                have q7_p := Rp.out
                have c7_p_0 := q7_p.cell 0
                have c7_p_1 := q7_p.cell 1
                simp only [List.getElem?_cons_zero, List.getElem?_cons_succ] at c7_p_0 c7_p_1
                clear q7_p
                go_wp2_with fail
                refine (HWp.out _).mono ?_
                rintro e w3 ⟨rfl, h3⟩
                have Rq8_a := Lib.hid (Ra.out.below h3 Ra.out.lt)
                have Rq8_x := Lib.hid (Rx.out.below h3 Rx.out.lt)
                have Rq8_p := Lib.hid (Rp.out.below h3 Rp.out.lt)
                have Bq8 := Lib.hid (Below.andThen Bw.out h3 (Nat.le_refl _))
                clear h3 Ra Rx Rp Bw c6_a_0 c6_a_1 c6_a_2 c6_a_3 c7_p_0 c7_p_1
                have q9_p := Rq8_p.out
                have c9_p_0 := q9_p.cell 0
                have c9_p_1 := q9_p.cell 1
                simp only [List.getElem?_cons_zero, List.getElem?_cons_succ] at c9_p_0 c9_p_1
                clear q9_p
                go_wp2_with fail
                refine (HIp.out _).mono ?_
                rintro e w4 ⟨rfl, h4⟩
                have Rq10_a := Lib.hid (Rq8_a.out.below h4 Rq8_a.out.lt)
                have Rq10_x := Lib.hid (Rq8_x.out.below h4 Rq8_x.out.lt)
                have Rq10_p := Lib.hid (Rq8_p.out.below h4 Rq8_p.out.lt)
                have Bq10 := Lib.hid (Below.andThen Bq8.out h4 (Nat.le_refl _))
                clear h4 Rq8_a Rq8_x Rq8_p Bq8 c9_p_0 c9_p_1
                have q11_x := Rq10_x.out
                have c11_x_0 := q11_x.cell 0
                have c11_x_1 := q11_x.cell 1
                have c11_x_2 := q11_x.cell 2
                have c11_x_3 := q11_x.cell 3
                simp only [List.getElem?_cons_zero, List.getElem?_cons_succ] at c11_x_0 c11_x_1 c11_x_2 c11_x_3
                clear q11_x
                have q12_p := Rq10_p.out
                have c12_p_0 := q12_p.cell 0
                have c12_p_1 := q12_p.cell 1
                simp only [List.getElem?_cons_zero, List.getElem?_cons_succ] at c12_p_0 c12_p_1
                clear q12_p
                go_wp2_with fail
                refine (HRp.out (by trivial) _).mono ?_
                rintro e w5 ⟨rfl, h5⟩
                have Rq13_a := Lib.hid (Rq10_a.out.below h5 Rq10_a.out.lt)
                have Rq13_x := Lib.hid (Rq10_x.out.below h5 Rq10_x.out.lt)
                have Rq13_p := Lib.hid (Rq10_p.out.below h5 Rq10_p.out.lt)
                have Bq13 := Lib.hid (Below.andThen Bq10.out h5 (Nat.le_refl _))
                clear h5 Rq10_a Rq10_x Rq10_p Bq10 c11_x_0 c11_x_1 c11_x_2 c11_x_3 c12_p_0 c12_p_1
                have q14_p := Rq13_p.out
                have c14_p_0 := q14_p.cell 0
                have c14_p_1 := q14_p.cell 1
                simp only [List.getElem?_cons_zero, List.getElem?_cons_succ] at c14_p_0 c14_p_1
                clear q14_p
                go_wp2_with fail
                refine (HPp.out _).mono ?_
                rintro e w6 ⟨rfl, h6⟩
                have Rq15_a := Lib.hid (Rq13_a.out.below h6 Rq13_a.out.lt)
                have Rq15_x := Lib.hid (Rq13_x.out.below h6 Rq13_x.out.lt)
                have Rq15_p := Lib.hid (Rq13_p.out.below h6 Rq13_p.out.lt)
                have Bq15 := Lib.hid (Below.andThen Bq13.out h6 (Nat.le_refl _))
                clear h6 Rq13_a Rq13_x Rq13_p Bq13 c14_p_0 c14_p_1
                have q16_p := Rq15_p.out
                have c16_p_0 := q16_p.cell 0
                have c16_p_1 := q16_p.cell 1
                simp only [List.getElem?_cons_zero, List.getElem?_cons_succ] at c16_p_0 c16_p_1
                clear q16_p
                have z17_p_0 := frozen_of_row _ (w.heap.size + 1 + 1) 0 _ _ Rq15_p.out
                have z17_p_1 := frozen_of_row _ (w.heap.size + 1 + 1) 1 _ _ Rq15_p.out
                have hs := ((Rq15_p.out.set 0 (.int .i64 (plN p))).set 1 (.int .i64 (plN q)))
                simp only [List.set_cons_zero, List.set_cons_succ] at hs
                have Rq18_p := Lib.hid hs
                have Rq18_a := Lib.hid ((Rq15_a.out.other 0 (.int .i64 (plN p)) (show w.heap.size ≠ w.heap.size + 1 + 1 by omega)).other 1 (.int .i64 (plN q)) (show w.heap.size ≠ w.heap.size + 1 + 1 by omega))
                have Rq18_x := Lib.hid ((Rq15_x.out.other 0 (.int .i64 (plN p)) (show b4 ≠ w.heap.size + 1 + 1 by have := HNE.out.1; omega)).other 1 (.int .i64 (plN q)) (show b4 ≠ w.heap.size + 1 + 1 by have := HNE.out.1; omega))
                have Bq18 := Lib.hid ((Bq15.out.setCell (p := ⟨w.heap.size + 1 + 1, 0, none⟩) (by dsimp only; omega) (.int .i64 (plN p))).setCell (p := ⟨w.heap.size + 1 + 1, 1, none⟩) (by dsimp only; omega) (.int .i64 (plN q)))
                clear hs Rq15_p Rq15_a Rq15_x Bq15
                go_wp2_with fail
                exact ⟨⟨k + 1, by omega, rfl, Lib.hid ⟨_, _, Rq18_a.out, Rq18_x.out, Rq18_p.out, Bq18.out⟩⟩, by simp [intOf]; omega⟩
            · have hd : decide ((k : Int) < 2) = false := decide_eq_false (by omega)
              go_wp2_with fail
              refine (awake_any wr).mono ?_
              rintro e w9 ⟨rfl, h9⟩
              have B9 := Lib.hid (Below.andThen Bw.out h9 (Nat.le_refl _))
              clear h9
              go_wp2_with fail
              go_ret
              exact ⟨rfl, B9.out⟩
        | true =>
          have q3_a := Rq2_a.out
          have c3_a_0 := q3_a.cell 0
          have c3_a_1 := q3_a.cell 1
          have c3_a_2 := q3_a.cell 2
          have c3_a_3 := q3_a.cell 3
          simp only [List.getElem?_cons_zero, List.getElem?_cons_succ] at c3_a_0 c3_a_1 c3_a_2 c3_a_3
          clear q3_a
          have q4_b := Rq2_b.out
          have c4_b_0 := q4_b.cell 0
          have c4_b_1 := q4_b.cell 1
          have c4_b_2 := q4_b.cell 2
          have c4_b_3 := q4_b.cell 3
          simp only [List.getElem?_cons_zero, List.getElem?_cons_succ] at c4_b_0 c4_b_1 c4_b_2 c4_b_3
          clear q4_b
          go_wp2_with fail
          refine (HCM.out _).mono ?_
          rintro e w2 ⟨rfl, h2⟩
          have Rq5_a := Lib.hid (Rq2_a.out.below h2 Rq2_a.out.lt)
          have Rq5_b := Lib.hid (Rq2_b.out.below h2 Rq2_b.out.lt)
          have Rq5_p := Lib.hid (Rq2_p.out.below h2 Rq2_p.out.lt)
          have Rq5_x := Lib.hid (Rq2_x.out.below h2 Rq2_x.out.lt)
          have Rq5_y := Lib.hid (Rq2_y.out.below h2 Rq2_y.out.lt)
          have Bq5 := Lib.hid (Below.andThen Bq2.out h2 (Nat.le_refl _))
          clear h2 Rq2_a Rq2_b Rq2_p Rq2_x Rq2_y Bq2 c3_a_0 c3_a_1 c3_a_2 c3_a_3 c4_b_0 c4_b_1 c4_b_2 c4_b_3
          have q6_x := Rq5_x.out
          have c6_x_0 := q6_x.cell 0
          have c6_x_1 := q6_x.cell 1
          have c6_x_2 := q6_x.cell 2
          have c6_x_3 := q6_x.cell 3
          simp only [List.getElem?_cons_zero, List.getElem?_cons_succ] at c6_x_0 c6_x_1 c6_x_2 c6_x_3
          clear q6_x
          have q7_y := Rq5_y.out
          have c7_y_0 := q7_y.cell 0
          have c7_y_1 := q7_y.cell 1
          have c7_y_2 := q7_y.cell 2
          have c7_y_3 := q7_y.cell 3
          simp only [List.getElem?_cons_zero, List.getElem?_cons_succ] at c7_y_0 c7_y_1 c7_y_2 c7_y_3
          clear q7_y
          go_wp2_with fail
          refine (HRC.out (by trivial) (by trivial) _).mono ?_
          rintro e w3 ⟨rfl, h3⟩
          have Rq8_a := Lib.hid (Rq5_a.out.below h3 Rq5_a.out.lt)
          have Rq8_b := Lib.hid (Rq5_b.out.below h3 Rq5_b.out.lt)
          have Rq8_p := Lib.hid (Rq5_p.out.below h3 Rq5_p.out.lt)
          have Rq8_x := Lib.hid (Rq5_x.out.below h3 Rq5_x.out.lt)
          have Rq8_y := Lib.hid (Rq5_y.out.below h3 Rq5_y.out.lt)
          have Bq8 := Lib.hid (Below.andThen Bq5.out h3 (Nat.le_refl _))
          clear h3 Rq5_a Rq5_b Rq5_p Rq5_x Rq5_y Bq5 c6_x_0 c6_x_1 c6_x_2 c6_x_3 c7_y_0 c7_y_1 c7_y_2 c7_y_3
          go_wp2_with fail
          go_loopw [14] (fun iv wr => ∃ k : Nat, k ≤ 2 ∧ iv = .int .i64 (k : Int) ∧ Hid (∃ p q : Int, Row wr w.heap.size 30 [.int .i64 X, .int .i64 Y, .int .i64 D, .int .i64 R] ∧ Row wr b4 46 [.int .i64 X, .int .i64 Y, .int .i64 D, .int .i64 R] ∧ Row wr (w.heap.size + 1 + 1) 28 [.int .i64 p, .int .i64 q] ∧ Below w.heap.size w wr)) (fun iv _ => (2 - intOf iv).toNat)
          case atStart => exact ⟨0, by omega, rfl, Lib.hid ⟨_, _, Rq8_a.out, Rq8_x.out, Rq8_p.out, Bq8.out⟩⟩
          case round =>
            clear Rq8_a Rq8_b Rq8_p Rq8_x Rq8_y Bq8
            obtain ⟨k, hk, rfl, HB⟩ := hrel
            have iw : IntKind.i64.wrap ((k : Int) + 1) = ((k + 1 : Nat) : Int) := by rw [i64_of _ (by omega) (by omega)]; omega
            obtain ⟨p, q, r1, r2, r3, r4⟩ := HB.out
            have Ra := Lib.hid r1
            have Rx := Lib.hid r2
            have Rp := Lib.hid r3
            have Bw := Lib.hid r4
            clear r1 r2 r3 r4 HB
            by_cases hlt : k < 2
            · have hd : decide ((k : Int) < 2) = true := decide_eq_true (by omega)
              have HWp := Lib.hid (HWH.out p q)
              have HRp := Lib.hid (HRW.out (by trivial) p q)
              have HIp := Lib.hid (fun W : World => In_any p q W)
              have HPp := Lib.hid (fun W : World => place_any p q W)
              generalize WH (p, q) = N at *
              generalize okP (p, q) = ok at *
              cases ok with
              | false =>
                have q9_a := Ra.out
                have c9_a_0 := q9_a.cell 0
                have c9_a_1 := q9_a.cell 1
                have c9_a_2 := q9_a.cell 2
                have c9_a_3 := q9_a.cell 3
                simp only [List.getElem?_cons_zero, List.getElem?_cons_succ] at c9_a_0 c9_a_1 c9_a_2 c9_a_3
                clear q9_a
                have q10_p := Rp.out
                have c10_p_0 := q10_p.cell 0
                have c10_p_1 := q10_p.cell 1
                simp only [List.getElem?_cons_zero, List.getElem?_cons_succ] at c10_p_0 c10_p_1
                clear q10_p
                go_wp2_with fail
                refine (HWp.out _).mono ?_
                rintro e w4 ⟨rfl, h4⟩
                have Rq11_a := Lib.hid (Ra.out.below h4 Ra.out.lt)
                have Rq11_x := Lib.hid (Rx.out.below h4 Rx.out.lt)
                have Rq11_p := Lib.hid (Rp.out.below h4 Rp.out.lt)
                have Bq11 := Lib.hid (Below.andThen Bw.out h4 (Nat.le_refl _))
                clear h4 Ra Rx Rp Bw c9_a_0 c9_a_1 c9_a_2 c9_a_3 c10_p_0 c10_p_1
                have q12_p := Rq11_p.out
                have c12_p_0 := q12_p.cell 0
                have c12_p_1 := q12_p.cell 1
                simp only [List.getElem?_cons_zero, List.getElem?_cons_succ] at c12_p_0 c12_p_1
                clear q12_p
                go_wp2_with fail
                refine (HIp.out _).mono ?_
                rintro e w5 ⟨rfl, h5⟩
                have Rq13_a := Lib.hid (Rq11_a.out.below h5 Rq11_a.out.lt)
                have Rq13_x := Lib.hid (Rq11_x.out.below h5 Rq11_x.out.lt)
                have Rq13_p := Lib.hid (Rq11_p.out.below h5 Rq11_p.out.lt)
                have Bq13 := Lib.hid (Below.andThen Bq11.out h5 (Nat.le_refl _))
                clear h5 Rq11_a Rq11_x Rq11_p Bq11 c12_p_0 c12_p_1
                have q14_p := Rq13_p.out
                have c14_p_0 := q14_p.cell 0
                have c14_p_1 := q14_p.cell 1
                simp only [List.getElem?_cons_zero, List.getElem?_cons_succ] at c14_p_0 c14_p_1
                clear q14_p
                go_wp2_with fail
                refine (HPp.out _).mono ?_
                rintro e w6 ⟨rfl, h6⟩
                have Rq15_a := Lib.hid (Rq13_a.out.below h6 Rq13_a.out.lt)
                have Rq15_x := Lib.hid (Rq13_x.out.below h6 Rq13_x.out.lt)
                have Rq15_p := Lib.hid (Rq13_p.out.below h6 Rq13_p.out.lt)
                have Bq15 := Lib.hid (Below.andThen Bq13.out h6 (Nat.le_refl _))
                clear h6 Rq13_a Rq13_x Rq13_p Bq13 c14_p_0 c14_p_1
                have q16_p := Rq15_p.out
                have c16_p_0 := q16_p.cell 0
                have c16_p_1 := q16_p.cell 1
                simp only [List.getElem?_cons_zero, List.getElem?_cons_succ] at c16_p_0 c16_p_1
                clear q16_p
                have z17_p_0 := frozen_of_row _ (w.heap.size + 1 + 1) 0 _ _ Rq15_p.out
                have z17_p_1 := frozen_of_row _ (w.heap.size + 1 + 1) 1 _ _ Rq15_p.out
                have hs := ((Rq15_p.out.set 0 (.int .i64 (plN p))).set 1 (.int .i64 (plN q)))
                simp only [List.set_cons_zero, List.set_cons_succ] at hs
                have Rq18_p := Lib.hid hs
                have Rq18_a := Lib.hid ((Rq15_a.out.other 0 (.int .i64 (plN p)) (show w.heap.size ≠ w.heap.size + 1 + 1 by omega)).other 1 (.int .i64 (plN q)) (show w.heap.size ≠ w.heap.size + 1 + 1 by omega))
                have Rq18_x := Lib.hid ((Rq15_x.out.other 0 (.int .i64 (plN p)) (show b4 ≠ w.heap.size + 1 + 1 by have := HNE.out.1; omega)).other 1 (.int .i64 (plN q)) (show b4 ≠ w.heap.size + 1 + 1 by have := HNE.out.1; omega))
                have Bq18 := Lib.hid ((Bq15.out.setCell (p := ⟨w.heap.size + 1 + 1, 0, none⟩) (by dsimp only; omega) (.int .i64 (plN p))).setCell (p := ⟨w.heap.size + 1 + 1, 1, none⟩) (by dsimp only; omega) (.int .i64 (plN q)))
                clear hs Rq15_p Rq15_a Rq15_x Bq15
                go_wp2_with fail
                exact ⟨⟨k + 1, by omega, rfl, Lib.hid ⟨_, _, Rq18_a.out, Rq18_x.out, Rq18_p.out, Bq18.out⟩⟩, by simp [intOf]; omega⟩
              | true =>
                have q9_a := Ra.out
                have c9_a_0 := q9_a.cell 0
                have c9_a_1 := q9_a.cell 1
                have c9_a_2 := q9_a.cell 2
                have c9_a_3 := q9_a.cell 3
                simp only [List.getElem?_cons_zero, List.getElem?_cons_succ] at c9_a_0 c9_a_1 c9_a_2 c9_a_3
                clear q9_a
                have q10_p := Rp.out
                have c10_p_0 := q10_p.cell 0
                have c10_p_1 := q10_p.cell 1
                simp only [List.getElem?_cons_zero, List.getElem?_cons_succ] at c10_p_0 c10_p_1
                clear q10_p
                go_wp2_with fail
                refine (HWp.out _).mono ?_
                rintro e w4 ⟨rfl, h4⟩
                have Rq11_a := Lib.hid (Ra.out.below h4 Ra.out.lt)
                have Rq11_x := Lib.hid (Rx.out.below h4 Rx.out.lt)
                have Rq11_p := Lib.hid (Rp.out.below h4 Rp.out.lt)
                have Bq11 := Lib.hid (Below.andThen Bw.out h4 (Nat.le_refl _))
                clear h4 Ra Rx Rp Bw c9_a_0 c9_a_1 c9_a_2 c9_a_3 c10_p_0 c10_p_1
                have q12_p := Rq11_p.out
                have c12_p_0 := q12_p.cell 0
                have c12_p_1 := q12_p.cell 1
                simp only [List.getElem?_cons_zero, List.getElem?_cons_succ] at c12_p_0 c12_p_1
                clear q12_p
                go_wp2_with fail
                refine (HIp.out _).mono ?_
                rintro e w5 ⟨rfl, h5⟩
                have Rq13_a := Lib.hid (Rq11_a.out.below h5 Rq11_a.out.lt)
                have Rq13_x := Lib.hid (Rq11_x.out.below h5 Rq11_x.out.lt)
                have Rq13_p := Lib.hid (Rq11_p.out.below h5 Rq11_p.out.lt)
                have Bq13 := Lib.hid (Below.andThen Bq11.out h5 (Nat.le_refl _))
                clear h5 Rq11_a Rq11_x Rq11_p Bq11 c12_p_0 c12_p_1
                have q14_x := Rq13_x.out
                have c14_x_0 := q14_x.cell 0
                have c14_x_1 := q14_x.cell 1
                have c14_x_2 := q14_x.cell 2
                have c14_x_3 := q14_x.cell 3
                simp only [List.getElem?_cons_zero, List.getElem?_cons_succ] at c14_x_0 c14_x_1 c14_x_2 c14_x_3
                clear q14_x
                have q15_p := Rq13_p.out
                have c15_p_0 := q15_p.cell 0
                have c15_p_1 := q15_p.cell 1
                simp only [List.getElem?_cons_zero, List.getElem?_cons_succ] at c15_p_0 c15_p_1
                clear q15_p
                go_wp2_with fail
                refine (HRp.out (by trivial) _).mono ?_
                rintro e w6 ⟨rfl, h6⟩
                have Rq16_a := Lib.hid (Rq13_a.out.below h6 Rq13_a.out.lt)
                have Rq16_x := Lib.hid (Rq13_x.out.below h6 Rq13_x.out.lt)
                have Rq16_p := Lib.hid (Rq13_p.out.below h6 Rq13_p.out.lt)
                have Bq16 := Lib.hid (Below.andThen Bq13.out h6 (Nat.le_refl _))
                clear h6 Rq13_a Rq13_x Rq13_p Bq13 c14_x_0 c14_x_1 c14_x_2 c14_x_3 c15_p_0 c15_p_1
                have q17_p := Rq16_p.out
                have c17_p_0 := q17_p.cell 0
                have c17_p_1 := q17_p.cell 1
                simp only [List.getElem?_cons_zero, List.getElem?_cons_succ] at c17_p_0 c17_p_1
                clear q17_p
                go_wp2_with fail
                refine (HPp.out _).mono ?_
                rintro e w7 ⟨rfl, h7⟩
                have Rq18_a := Lib.hid (Rq16_a.out.below h7 Rq16_a.out.lt)
                have Rq18_x := Lib.hid (Rq16_x.out.below h7 Rq16_x.out.lt)
                have Rq18_p := Lib.hid (Rq16_p.out.below h7 Rq16_p.out.lt)
                have Bq18 := Lib.hid (Below.andThen Bq16.out h7 (Nat.le_refl _))
                clear h7 Rq16_a Rq16_x Rq16_p Bq16 c17_p_0 c17_p_1
                have q19_p := Rq18_p.out
                have c19_p_0 := q19_p.cell 0
                have c19_p_1 := q19_p.cell 1
                simp only [List.getElem?_cons_zero, List.getElem?_cons_succ] at c19_p_0 c19_p_1
                clear q19_p
                have z20_p_0 := frozen_of_row _ (w.heap.size + 1 + 1) 0 _ _ Rq18_p.out
                have z20_p_1 := frozen_of_row _ (w.heap.size + 1 + 1) 1 _ _ Rq18_p.out
                have hs := ((Rq18_p.out.set 0 (.int .i64 (plN p))).set 1 (.int .i64 (plN q)))
                simp only [List.set_cons_zero, List.set_cons_succ] at hs
                have Rq21_p := Lib.hid hs
                have Rq21_a := Lib.hid ((Rq18_a.out.other 0 (.int .i64 (plN p)) (show w.heap.size ≠ w.heap.size + 1 + 1 by omega)).other 1 (.int .i64 (plN q)) (show w.heap.size ≠ w.heap.size + 1 + 1 by omega))
                have Rq21_x := Lib.hid ((Rq18_x.out.other 0 (.int .i64 (plN p)) (show b4 ≠ w.heap.size + 1 + 1 by have := HNE.out.1; omega)).other 1 (.int .i64 (plN q)) (show b4 ≠ w.heap.size + 1 + 1 by have := HNE.out.1; omega))
                have Bq21 := Lib.hid ((Bq18.out.setCell (p := ⟨w.heap.size + 1 + 1, 0, none⟩) (by dsimp only; omega) (.int .i64 (plN p))).setCell (p := ⟨w.heap.size + 1 + 1, 1, none⟩) (by dsimp only; omega) (.int .i64 (plN q)))
                clear hs Rq18_p Rq18_a Rq18_x Bq18
                go_wp2_with fail
                exact ⟨⟨k + 1, by omega, rfl, Lib.hid ⟨_, _, Rq21_a.out, Rq21_x.out, Rq21_p.out, Bq21.out⟩⟩, by simp [intOf]; omega⟩
            · have hd : decide ((k : Int) < 2) = false := decide_eq_false (by omega)
              go_wp2_with fail
              refine (awake_any wr).mono ?_
              rintro e w9 ⟨rfl, h9⟩
              have B9 := Lib.hid (Below.andThen Bw.out h9 (Nat.le_refl _))
              clear h9
              go_wp2_with fail
              go_ret
              exact ⟨rfl, B9.out⟩
end Go.Proofs.Ytlemipnplgbckaa
