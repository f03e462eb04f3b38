import Derived.Test.YtlemipnplgbckaaBD
import Derived.Laws.AppendOwn
import Derived.ChangeKeysEq
import Derived.Maps.RangeWalk
import Derived.Maps.OwnIn
import Derived.Maps.AppendAt
import Derived.RangeFuncNested
import Derived.RangeFuncBound
import Derived.RangeFuncCalls
import Derived.RangeFuncLeaves
import Derived.Shelf.Abstract
import Derived.Shelf.RegionOpen
import Derived.WalkKit
import Derived.WalkMore
import Derived.OwnWalkIn
import Derived.TacticsInMore
import Derived.LoopNIn
import Derived.LoopIn
import Derived.WalkSpells
import Derived.WalkLawsBesides
import Derived.BigQuiet
import Derived.Deep.QuietTactic
import Derived.Lib.Hide
import Derived.Deep.RegionHeld3
import Derived.StillTailTactics
import Derived.Deep.LoopGhost
import Derived.Maps.OwnSet
import Derived.Lib.IndexAny
import Derived.Sort.QuietThIn
import Derived.Sort.QuietTacIn
import Derived.Sort.BigQuietIn
import Derived.Laws.OwnMore
import Derived.DeepKeys4
import Derived.Maps.Views
import Derived.Maps.OwnOps
import Derived.Laws.OwnMore
import Derived.Deep.DeepCutAuto
import Derived.ChangeKeysEq
namespace Go.Proofs.Ytlemipnplgbckaa
open Go.RowKit Go.Shelf
attribute [local go_sem] Oper.semAt_some
set_option maxRecDepth 100000 in
set_option maxHeartbeats 600000 in
theorem over_any (a1 a2 b1 b2 : Int) (w : World) (h1 : Bd 20 a1) (h2 : Bd 20 a2) (h3 : Bd 20 b1) (h4 : Bd 20 b2) :
    Calls Try.prog 76 #[.agg #[.int .i64 a1, .int .i64 a2], .agg #[.int .i64 b1, .int .i64 b2]] w fun e w' => e = .returned (rndV (a1 + b1) (a2 + b2) 2 (a1, a2)) ∧ Below w.heap.size w w' := by
  have e1 := i64_bd (h1.add h3) (by omega)
  have e2 := i64_bd (h2.add h4) (by omega)
  have HR := Lib.hid (fun (W : World) => round_any (a1 + b1) (a2 + b2) 2 a1 a2 W ((h1.add h3).mono (by omega)) ((h2.add h4).mono (by omega)) (by unfold Bd; omega) (by omega) h1 h2)
  obtain ⟨X, Y, D, R, hV⟩ : ∃ X Y D R, rndV (a1 + b1) (a2 + b2) 2 (a1, a2) = cirV X Y D R := ⟨_, _, _, _, rfl⟩
  rw [hV] at HR ⊢
  unfold cirV at HR
  clear hV h1 h2 h3 h4
  have ba : Below w.heap.size w (((w.alloc (.cells #[.int .i64 a1, .int .i64 a2] 28)).alloc (.cells #[.int .i64 b1, .int .i64 b2] 28)).alloc (.cells #[.int .i64 0, .int .i64 0, .int .i64 0, .int .i64 0] 30)) := (((Below.refl w.heap.size w).alloc (Nat.le_refl _) _).alloc (by simp) _).alloc (by simp <;> omega) _
  have rR : Row (((w.alloc (.cells #[.int .i64 a1, .int .i64 a2] 28)).alloc (.cells #[.int .i64 b1, .int .i64 b2] 28)).alloc (.cells #[.int .i64 0, .int .i64 0, .int .i64 0, .int .i64 0] 30)) (w.heap.size + 1 + 1) 30 [.int .i64 0, .int .i64 0, .int .i64 0, .int .i64 0] := by
    have := Row.new ((w.alloc (.cells #[.int .i64 a1, .int .i64 a2] 28)).alloc (.cells #[.int .i64 b1, .int .i64 b2] 28)) 30 [.int .i64 0, .int .i64 0, .int .i64 0, .int .i64 0]
    simpa using this
  have BA := Lib.hid ba
  have RR := Lib.hid rR
  clear ba rR
  go_enter Try.func76, Try.ntmps76
  go_wp2_with fail
  refine (HR.out _).mono ?_
  rintro e w1 ⟨rfl, hb⟩
  have BW := Lib.hid (Below.andThen BA.out hb (Nat.le_refl _))
  have rT := RR.out.below hb RR.out.lt
  have RT := Lib.hid rT
  have t0 := rT.cell 0
  have t1 := rT.cell 1
  have t2 := rT.cell 2
  have t3 := rT.cell 3
  have g0 := frozen_of_row _ (w.heap.size + 1 + 1) 0 _ _ rT
  have g1 := frozen_of_row _ (w.heap.size + 1 + 1) 1 _ _ rT
  have g2 := frozen_of_row _ (w.heap.size + 1 + 1) 2 _ _ rT
  have g3 := frozen_of_row _ (w.heap.size + 1 + 1) 3 _ _ rT
  simp only [List.getElem?_cons_zero, List.getElem?_cons_succ] at t0 t1 t2 t3
  clear hb rT HR
  go_wp2_with fail
  have hr := (((RT.out.set 0 (.int .i64 X)).set 1 (.int .i64 Y)).set 2 (.int .i64 D)).set 3 (.int .i64 R)
  have v0 := hr.cell 0
  have v1 := hr.cell 1
  have v2 := hr.cell 2
  have v3 := hr.cell 3
  simp only [List.set_cons_zero, List.set_cons_succ, List.getElem?_cons_zero, List.getElem?_cons_succ] at v0 v1 v2 v3
  refine bodyPost_ret (v := cirV X Y D R) (by simp [results, Try.results76, go_sem, v0, v1, v2, v3, cirV]) rfl ⟨rfl, ?_⟩
  exact (((BW.out.setCell (p := ⟨w.heap.size + 1 + 1, 0, none⟩) (by dsimp only; omega) _).setCell (p := ⟨w.heap.size + 1 + 1, 1, none⟩) (by dsimp only; omega) _).setCell (p := ⟨w.heap.size + 1 + 1, 2, none⟩) (by dsimp only; omega) _).setCell (p := ⟨w.heap.size + 1 + 1, 3, none⟩) (by dsimp only; omega) _
/-- twice the cross product, and the middle's way from a, that many times as long -/
def thD (a b c : Pt) : Int := 2 * crs (b.1 - a.1, b.2 - a.2) (c.1 - a.1, c.2 - a.2)
def thX (a b c : Pt) : Int := (c.2 - a.2) * ((b.1 - a.1) * (b.1 - a.1) + (b.2 - a.2) * (b.2 - a.2)) - (b.2 - a.2) * ((c.1 - a.1) * (c.1 - a.1) + (c.2 - a.2) * (c.2 - a.2))
def thY (a b c : Pt) : Int := (b.1 - a.1) * ((c.1 - a.1) * (c.1 - a.1) + (c.2 - a.2) * (c.2 - a.2)) - (c.1 - a.1) * ((b.1 - a.1) * (b.1 - a.1) + (b.2 - a.2) * (b.2 - a.2))
/-- the circle through three points, and whether there is one -/
def thrV (a b c : Pt) : Value := if thD a b c = 0 then cirV 0 0 0 0 else rndV (thD a b c * a.1 + thX a b c) (thD a b c * a.2 + thY a b c) (thD a b c) a
set_option maxRecDepth 100000 in
set_option maxHeartbeats 1000000 in
theorem through_any (a1 a2 b1 b2 c1 c2 : Int) (w : World) (h1 : Bd 20 a1) (h2 : Bd 20 a2) (h3 : Bd 20 b1) (h4 : Bd 20 b2) (h5 : Bd 20 c1) (h6 : Bd 20 c2) :
    Calls Try.prog 61 #[.agg #[.int .i64 a1, .int .i64 a2], .agg #[.int .i64 b1, .int .i64 b2], .agg #[.int .i64 c1, .int .i64 c2]] w fun e w' => e = .returned (.tuple #[thrV (a1, a2) (b1, b2) (c1, c2), .bool (!decide (thD (a1, a2) (b1, b2) (c1, c2) = 0))]) ∧ Below w.heap.size w w' := by
  have p1 := h3.sub h1
  have p2 := h4.sub h2
  have q1 := h5.sub h1
  have q2 := h6.sub h2
  have HP := Lib.hid (And.intro p1 (And.intro p2 (And.intro q1 q2)))
  have HA := Lib.hid (And.intro h1 h2)
  have HM1 := Lib.hid (fun (W : World) => minus_any b1 b2 a1 a2 W (h3.mono (by omega)) (h4.mono (by omega)) (h1.mono (by omega)) (h2.mono (by omega)))
  have HM2 := Lib.hid (fun (W : World) => minus_any c1 c2 a1 a2 W (h5.mono (by omega)) (h6.mono (by omega)) (h1.mono (by omega)) (h2.mono (by omega)))
  have HDD := Lib.hid (show thD (a1, a2) (b1, b2) (c1, c2) = 2 * crs (b1 - a1, b2 - a2) (c1 - a1, c2 - a2) from rfl)
  have HXX := Lib.hid (show thX (a1, a2) (b1, b2) (c1, c2) = (c2 - a2) * ((b1 - a1) * (b1 - a1) + (b2 - a2) * (b2 - a2)) - (b2 - a2) * ((c1 - a1) * (c1 - a1) + (c2 - a2) * (c2 - a2)) from rfl)
  have HYY := Lib.hid (show thY (a1, a2) (b1, b2) (c1, c2) = (b1 - a1) * ((c1 - a1) * (c1 - a1) + (c2 - a2) * (c2 - a2)) - (c1 - a1) * ((b1 - a1) * (b1 - a1) + (b2 - a2) * (b2 - a2)) from rfl)
  have HTV := Lib.hid (show thrV (a1, a2) (b1, b2) (c1, c2) = if thD (a1, a2) (b1, b2) (c1, c2) = 0 then cirV 0 0 0 0 else rndV (thD (a1, a2) (b1, b2) (c1, c2) * a1 + thX (a1, a2) (b1, b2) (c1, c2)) (thD (a1, a2) (b1, b2) (c1, c2) * a2 + thY (a1, a2) (b1, b2) (c1, c2)) (thD (a1, a2) (b1, b2) (c1, c2)) (a1, a2) from rfl)
  generalize thD (a1, a2) (b1, b2) (c1, c2) = D at *
  generalize thX (a1, a2) (b1, b2) (c1, c2) = TX at *
  generalize thY (a1, a2) (b1, b2) (c1, c2) = TY at *
  generalize thrV (a1, a2) (b1, b2) (c1, c2) = TV at *
  have rA : Row ((((w.alloc (.cells #[.int .i64 a1, .int .i64 a2] 28)).alloc (.cells #[.int .i64 b1, .int .i64 b2] 28)).alloc (.cells #[.int .i64 c1, .int .i64 c2] 28)).alloc (.cells #[.int .i64 0, .int .i64 0, .int .i64 0, .int .i64 0] 30)) w.heap.size 28 [.int .i64 a1, .int .i64 a2] := (((Row.new w 28 [.int .i64 a1, .int .i64 a2]).below (Below.al (Below.refl _ _) (Nat.le_refl _) _) (by simp)).below (Below.al (Below.refl _ _) (Nat.le_refl _) _) (by simp <;> omega)).below (Below.al (Below.refl _ _) (Nat.le_refl _) _) (by simp <;> omega)
  have rB : Row ((((w.alloc (.cells #[.int .i64 a1, .int .i64 a2] 28)).alloc (.cells #[.int .i64 b1, .int .i64 b2] 28)).alloc (.cells #[.int .i64 c1, .int .i64 c2] 28)).alloc (.cells #[.int .i64 0, .int .i64 0, .int .i64 0, .int .i64 0] 30)) (w.heap.size + 1) 28 [.int .i64 b1, .int .i64 b2] := by
    have := ((Row.new (w.alloc (.cells #[.int .i64 a1, .int .i64 a2] 28)) 28 [.int .i64 b1, .int .i64 b2]).below (Below.al (Below.refl _ _) (Nat.le_refl _) (.cells #[.int .i64 c1, .int .i64 c2] 28)) (by simp)).below (Below.al (Below.refl _ _) (Nat.le_refl _) (.cells #[.int .i64 0, .int .i64 0, .int .i64 0, .int .i64 0] 30)) (by simp <;> omega)
    simpa using this
  have rC : Row ((((w.alloc (.cells #[.int .i64 a1, .int .i64 a2] 28)).alloc (.cells #[.int .i64 b1, .int .i64 b2] 28)).alloc (.cells #[.int .i64 c1, .int .i64 c2] 28)).alloc (.cells #[.int .i64 0, .int .i64 0, .int .i64 0, .int .i64 0] 30)) (w.heap.size + 1 + 1) 28 [.int .i64 c1, .int .i64 c2] := by
    have := (Row.new ((w.alloc (.cells #[.int .i64 a1, .int .i64 a2] 28)).alloc (.cells #[.int .i64 b1, .int .i64 b2] 28)) 28 [.int .i64 c1, .int .i64 c2]).below (Below.al (Below.refl _ _) (Nat.le_refl _) (.cells #[.int .i64 0, .int .i64 0, .int .i64 0, .int .i64 0] 30)) (by simp)
    simpa using this
  have rR : Row ((((w.alloc (.cells #[.int .i64 a1, .int .i64 a2] 28)).alloc (.cells #[.int .i64 b1, .int .i64 b2] 28)).alloc (.cells #[.int .i64 c1, .int .i64 c2] 28)).alloc (.cells #[.int .i64 0, .int .i64 0, .int .i64 0, .int .i64 0] 30)) (w.heap.size + 1 + 1 + 1) 30 [.int .i64 0, .int .i64 0, .int .i64 0, .int .i64 0] := by
    have := Row.new (((w.alloc (.cells #[.int .i64 a1, .int .i64 a2] 28)).alloc (.cells #[.int .i64 b1, .int .i64 b2] 28)).alloc (.cells #[.int .i64 c1, .int .i64 c2] 28)) 30 [.int .i64 0, .int .i64 0, .int .i64 0, .int .i64 0]
    simpa using this
  have ba : Below w.heap.size w ((((w.alloc (.cells #[.int .i64 a1, .int .i64 a2] 28)).alloc (.cells #[.int .i64 b1, .int .i64 b2] 28)).alloc (.cells #[.int .i64 c1, .int .i64 c2] 28)).alloc (.cells #[.int .i64 0, .int .i64 0, .int .i64 0, .int .i64 0] 30)) := ((((Below.refl w.heap.size w).alloc (Nat.le_refl _) _).alloc (by simp) _).alloc (by simp <;> omega) _).alloc (by simp <;> omega) _
  have hsz : w.heap.size + 1 + 1 + 1 < ((((w.alloc (.cells #[.int .i64 a1, .int .i64 a2] 28)).alloc (.cells #[.int .i64 b1, .int .i64 b2] 28)).alloc (.cells #[.int .i64 c1, .int .i64 c2] 28)).alloc (.cells #[.int .i64 0, .int .i64 0, .int .i64 0, .int .i64 0] 30)).heap.size := rR.lt
  obtain ⟨V, hV⟩ : ∃ V, V = (((w.alloc (.cells #[.int .i64 a1, .int .i64 a2] 28)).alloc (.cells #[.int .i64 b1, .int .i64 b2] 28)).alloc (.cells #[.int .i64 c1, .int .i64 c2] 28)).alloc (.cells #[.int .i64 0, .int .i64 0, .int .i64 0, .int .i64 0] 30) := ⟨_, rfl⟩
  rw [← hV] at rA rB rC rR ba hsz
  have RA := Lib.hid rA
  have RB := Lib.hid rB
  have RC := Lib.hid rC
  have RR := Lib.hid rR
  have BA := Lib.hid ba
  have HV := Lib.hid hV
  have HSZ := Lib.hid hsz
  clear h1 h2 h3 h4 h5 h6 p1 p2 q1 q2 rA rB rC rR ba hV hsz
  go_enter Try.func61, Try.ntmps61
  go_wp2_with fail
  rw [← HV.out]
  clear HV
  refine wp_region_box (by kernel_rfl) (by kernel_rfl) [15, 16, 17, 18, 19, 20, 8, 9, 1000, 1001] [(fun v => v = .agg #[.int .i64 b1, .int .i64 b2]), (fun v => v = .agg #[.int .i64 a1, .int .i64 a2]), (fun v => v = .agg #[.int .i64 (b1 - a1), .int .i64 (b2 - a2)]), (fun v => v = .agg #[.int .i64 c1, .int .i64 c2]), (fun v => v = .agg #[.int .i64 a1, .int .i64 a2]), (fun v => v = .agg #[.int .i64 (c1 - a1), .int .i64 (c2 - a2)]), (fun _ => True), (fun _ => True), (fun _ => True), (fun _ => True)] [none, none, none, none, none, none, some (28, [.int .i64 0, .int .i64 0], [.int .i64 (b1 - a1), .int .i64 (b2 - a2)]), some (28, [.int .i64 0, .int .i64 0], [.int .i64 (c1 - a1), .int .i64 (c2 - a2)]), none, none] [none, none, none, none, none, none, none, none, some 6, some 7] 10 rfl (by kernel_rfl) ?tr ⟨[undef, undef, undef, undef, undef, undef, undef, undef, undef, undef], by simp only [putAll, Act.put, List.setIfInBounds_toArray, List.set_cons_succ, List.set_cons_zero, List.set_nil], rfl⟩ ?steps ?fin
  case tr =>
    rintro i v h
    rcases i with _ | _ | _ | _ | _ | _ | _ | _ | _ | _ | i
    all_goals first | trivial | (exfalso; rcases h with h | h <;> simp at h)
  case steps =>
    simp only [boxSteps, Nat.reduceAdd, Nat.zero_add, List.getD_cons_succ, List.getD_cons_zero]
    refine ⟨?_, ?_, ?_, ?_, ?_, ?_, ?_, ?_, ?_, ?_, trivial⟩
    · rintro vs W K hc hvl hw hK
      obtain ⟨x0, x1, x2, x3, x4, x5, x6, x7, x8, x9, rfl⟩ := len10 hvl
      have HK := Lib.hid hK
      have HC := Lib.hid hc
      have HW := Lib.hid hw
      clear hK hc hw hvl
      simp only [putAll, Act.put, List.setIfInBounds_toArray, List.set_cons_succ, List.set_cons_zero, List.set_nil]
      have rr := RB.out.below HC.out RB.out.lt
      have k0 := rr.cell 0
      have k1 := rr.cell 1
      simp only [List.getElem?_cons_zero, List.getElem?_cons_succ] at k0 k1
      clear rr
      clear HW
      go_wp2_with fail
      have fin := HK.out (.agg #[.int .i64 b1, .int .i64 b2]) W (Below.refl _ _) rfl
      simp only [putAll, Act.put, List.setIfInBounds_toArray, List.set_cons_succ, List.set_cons_zero, List.set_nil] at fin
      exact fin
    · rintro vs W K hc hvl hw hK
      obtain ⟨x0, x1, x2, x3, x4, x5, x6, x7, x8, x9, rfl⟩ := len10 hvl
      have HK := Lib.hid hK
      have HC := Lib.hid hc
      have HW := Lib.hid hw
      clear hK hc hw hvl
      simp only [putAll, Act.put, List.setIfInBounds_toArray, List.set_cons_succ, List.set_cons_zero, List.set_nil]
      have rr := RA.out.below HC.out RA.out.lt
      have k0 := rr.cell 0
      have k1 := rr.cell 1
      simp only [List.getElem?_cons_zero, List.getElem?_cons_succ] at k0 k1
      clear rr
      clear HW
      go_wp2_with fail
      have fin := HK.out (.agg #[.int .i64 a1, .int .i64 a2]) W (Below.refl _ _) rfl
      simp only [putAll, Act.put, List.setIfInBounds_toArray, List.set_cons_succ, List.set_cons_zero, List.set_nil] at fin
      exact fin
    · rintro vs W K hc hvl hw hK
      obtain ⟨x0, x1, x2, x3, x4, x5, x6, x7, x8, x9, rfl⟩ := len10 hvl
      have HK := Lib.hid hK
      have HC := Lib.hid hc
      have HW := Lib.hid hw
      clear hK hc hw hvl
      obtain rfl : x0 = .agg #[.int .i64 b1, .int .i64 b2] := box_get (HW.out ⟨0, .data⟩ (by simp) rfl) rfl
      obtain rfl : x1 = .agg #[.int .i64 a1, .int .i64 a2] := box_get (HW.out ⟨1, .data⟩ (by simp) rfl) rfl
      simp only [putAll, Act.put, List.setIfInBounds_toArray, List.set_cons_succ, List.set_cons_zero, List.set_nil]
      clear HW
      go_wp2_with fail
      refine (HM1.out W).mono ?_
      rintro e W' ⟨rfl, hb'⟩
      have HB' := Lib.hid hb'
      clear hb'
      go_wp2_with fail
      have fin := HK.out (.agg #[.int .i64 (b1 - a1), .int .i64 (b2 - a2)]) W' HB'.out rfl
      simp only [putAll, Act.put, List.setIfInBounds_toArray, List.set_cons_succ, List.set_cons_zero, List.set_nil] at fin
      exact fin
    · rintro vs W K hc hvl hw hK
      obtain ⟨x0, x1, x2, x3, x4, x5, x6, x7, x8, x9, rfl⟩ := len10 hvl
      have HK := Lib.hid hK
      have HC := Lib.hid hc
      have HW := Lib.hid hw
      clear hK hc hw hvl
      simp only [putAll, Act.put, List.setIfInBounds_toArray, List.set_cons_succ, List.set_cons_zero, List.set_nil]
      have rr := RC.out.below HC.out RC.out.lt
      have k0 := rr.cell 0
      have k1 := rr.cell 1
      simp only [List.getElem?_cons_zero, List.getElem?_cons_succ] at k0 k1
      clear rr
      clear HW
      go_wp2_with fail
      have fin := HK.out (.agg #[.int .i64 c1, .int .i64 c2]) W (Below.refl _ _) rfl
      simp only [putAll, Act.put, List.setIfInBounds_toArray, List.set_cons_succ, List.set_cons_zero, List.set_nil] at fin
      exact fin
    · rintro vs W K hc hvl hw hK
      obtain ⟨x0, x1, x2, x3, x4, x5, x6, x7, x8, x9, rfl⟩ := len10 hvl
      have HK := Lib.hid hK
      have HC := Lib.hid hc
      have HW := Lib.hid hw
      clear hK hc hw hvl
      simp only [putAll, Act.put, List.setIfInBounds_toArray, List.set_cons_succ, List.set_cons_zero, List.set_nil]
      have rr := RA.out.below HC.out RA.out.lt
      have k0 := rr.cell 0
      have k1 := rr.cell 1
      simp only [List.getElem?_cons_zero, List.getElem?_cons_succ] at k0 k1
      clear rr
      clear HW
      go_wp2_with fail
      have fin := HK.out (.agg #[.int .i64 a1, .int .i64 a2]) W (Below.refl _ _) rfl
      simp only [putAll, Act.put, List.setIfInBounds_toArray, List.set_cons_succ, List.set_cons_zero, List.set_nil] at fin
      exact fin
    · rintro vs W K hc hvl hw hK
      obtain ⟨x0, x1, x2, x3, x4, x5, x6, x7, x8, x9, rfl⟩ := len10 hvl
      have HK := Lib.hid hK
      have HC := Lib.hid hc
      have HW := Lib.hid hw
      clear hK hc hw hvl
      obtain rfl : x3 = .agg #[.int .i64 c1, .int .i64 c2] := box_get (HW.out ⟨3, .data⟩ (by simp) rfl) rfl
      obtain rfl : x4 = .agg #[.int .i64 a1, .int .i64 a2] := box_get (HW.out ⟨4, .data⟩ (by simp) rfl) rfl
      simp only [putAll, Act.put, List.setIfInBounds_toArray, List.set_cons_succ, List.set_cons_zero, List.set_nil]
      clear HW
      go_wp2_with fail
      refine (HM2.out W).mono ?_
      rintro e W' ⟨rfl, hb'⟩
      have HB' := Lib.hid hb'
      clear hb'
      go_wp2_with fail
      have fin := HK.out (.agg #[.int .i64 (c1 - a1), .int .i64 (c2 - a2)]) W' HB'.out rfl
      simp only [putAll, Act.put, List.setIfInBounds_toArray, List.set_cons_succ, List.set_cons_zero, List.set_nil] at fin
      exact fin
    · rintro vs W K hc hvl hw hK
      obtain ⟨x0, x1, x2, x3, x4, x5, x6, x7, x8, x9, rfl⟩ := len10 hvl
      have HK := Lib.hid hK
      have HC := Lib.hid hc
      have HW := Lib.hid hw
      clear hK hc hw hvl
      simp only [putAll, Act.put, List.setIfInBounds_toArray, List.set_cons_succ, List.set_cons_zero, List.set_nil]
      clear HW
      go_wp2_with fail
      have fin := HK.out
      simp only [putAll, Act.put, List.setIfInBounds_toArray, List.set_cons_succ, List.set_cons_zero, List.set_nil] at fin
      exact fin
    · rintro vs W K hc hvl hw hK
      obtain ⟨x0, x1, x2, x3, x4, x5, x6, x7, x8, x9, rfl⟩ := len10 hvl
      have HK := Lib.hid hK
      have HC := Lib.hid hc
      have HW := Lib.hid hw
      clear hK hc hw hvl
      simp only [putAll, Act.put, List.setIfInBounds_toArray, List.set_cons_succ, List.set_cons_zero, List.set_nil]
      clear HW
      go_wp2_with fail
      have fin := HK.out
      simp only [putAll, Act.put, List.setIfInBounds_toArray, List.set_cons_succ, List.set_cons_zero, List.set_nil] at fin
      exact fin
    · rintro vs W K hc hvl hw b E z f hia hva hb0 hr hK
      cases hia
      obtain ⟨x0, x1, x2, x3, x4, x5, x6, x7, x8, x9, rfl⟩ := len10 hvl
      have HK := Lib.hid hK
      have HC := Lib.hid hc
      have HW := Lib.hid hw
      clear hK hc hw hvl
      obtain rfl : x2 = .agg #[.int .i64 (b1 - a1), .int .i64 (b2 - a2)] := box_get (HW.out ⟨2, .data⟩ (by simp) rfl) rfl
      obtain rfl : x6 = .pointer (some ⟨b, 0, none⟩) := Option.some.inj hva
      simp only [putAll, Act.put, List.setIfInBounds_toArray, List.set_cons_succ, List.set_cons_zero, List.set_nil]
      have kf0 := frozen_of_row W b 0 _ _ hr
      have kc0 : W.cell? ⟨b, 0, none⟩ = some (.int .i64 0) := hr.cell 0
      have kf1 := frozen_of_row W b 1 _ _ hr
      have kc1 : W.cell? ⟨b, 1, none⟩ = some (.int .i64 0) := hr.cell 1
      have HRW := Lib.hid hr
      clear HW hr hva
      go_wp2_with fail
      have fin := HK.out _ (show Row _ b 28 [.int .i64 (b1 - a1), .int .i64 (b2 - a2)] from by simpa using (show Row _ b 28 _ from ((HRW.out.set 0 (.int .i64 (b1 - a1))).set 1 (.int .i64 (b2 - a2))))) (grown_put (grown_put (grown_self W _)))
      simp only [putAll, Act.put, List.setIfInBounds_toArray, List.set_cons_succ, List.set_cons_zero, List.set_nil] at fin
      exact fin
    · rintro vs W K hc hvl hw b E z f hia hva hb0 hr hK
      cases hia
      obtain ⟨x0, x1, x2, x3, x4, x5, x6, x7, x8, x9, rfl⟩ := len10 hvl
      have HK := Lib.hid hK
      have HC := Lib.hid hc
      have HW := Lib.hid hw
      clear hK hc hw hvl
      obtain rfl : x5 = .agg #[.int .i64 (c1 - a1), .int .i64 (c2 - a2)] := box_get (HW.out ⟨5, .data⟩ (by simp) rfl) rfl
      obtain rfl : x7 = .pointer (some ⟨b, 0, none⟩) := Option.some.inj hva
      simp only [putAll, Act.put, List.setIfInBounds_toArray, List.set_cons_succ, List.set_cons_zero, List.set_nil]
      have kf0 := frozen_of_row W b 0 _ _ hr
      have kc0 : W.cell? ⟨b, 0, none⟩ = some (.int .i64 0) := hr.cell 0
      have kf1 := frozen_of_row W b 1 _ _ hr
      have kc1 : W.cell? ⟨b, 1, none⟩ = some (.int .i64 0) := hr.cell 1
      have HRW := Lib.hid hr
      clear HW hr hva
      go_wp2_with fail
      have fin := HK.out _ (show Row _ b 28 [.int .i64 (c1 - a1), .int .i64 (c2 - a2)] from by simpa using (show Row _ b 28 _ from ((HRW.out.set 0 (.int .i64 (c1 - a1))).set 1 (.int .i64 (c2 - a2))))) (grown_put (grown_put (grown_self W _)))
      simp only [putAll, Act.put, List.setIfInBounds_toArray, List.set_cons_succ, List.set_cons_zero, List.set_nil] at fin
      exact fin
  case fin =>
    rintro vs W hJ
    obtain ⟨x0, x1, x2, x3, x4, x5, x6, x7, x8, x9, rfl⟩ := len10 hJ.ln
    obtain ⟨b6, e6, hb6, hr6⟩ := hJ.box 6 _ _ _ rfl rfl
    obtain rfl : x6 = .pointer (some ⟨b6, 0, none⟩) := Option.some.inj e6
    replace hr6 : Row W b6 28 [.int .i64 (b1 - a1), .int .i64 (b2 - a2)] := hr6
    have HR6 := Lib.hid hr6
    clear e6 hr6
    obtain ⟨b7, e7, hb7, hr7⟩ := hJ.box 7 _ _ _ rfl rfl
    obtain rfl : x7 = .pointer (some ⟨b7, 0, none⟩) := Option.some.inj e7
    replace hr7 : Row W b7 28 [.int .i64 (c1 - a1), .int .i64 (c2 - a2)] := hr7
    have HR7 := Lib.hid hr7
    clear e7 hr7
    have HC := Lib.hid hJ.bl
    clear hJ
    simp only [putAll, Act.put, List.setIfInBounds_toArray, List.set_cons_succ, List.set_cons_zero, List.set_nil]
    have RA2 := Lib.hid (RA.out.below HC.out RA.out.lt)
    have RR2 := Lib.hid (RR.out.below HC.out RR.out.lt)
    have BW := Lib.hid (Below.andThen BA.out HC.out (Nat.le_refl _))
    have HLT := Lib.hid (And.intro HSZ.out (And.intro hb6 hb7))
    have hcr := fun (W : World) => cross_any (b1 - a1) (b2 - a2) (c1 - a1) (c2 - a2) W (HP.out.1.mono (by omega)) (HP.out.2.1.mono (by omega)) (HP.out.2.2.1.mono (by omega)) (HP.out.2.2.2.mono (by omega))
    have HCR := Lib.hid hcr
    have y0 := HR6.out.cell 0
    have y1 := HR6.out.cell 1
    have z0 := HR7.out.cell 0
    have z1 := HR7.out.cell 1
    simp only [List.getElem?_cons_zero, List.getElem?_cons_succ] at y0 y1 z0 z1
    clear hcr RA RR BA HC hb6 hb7 RB RC
    go_wp2_with fail
    refine (HCR.out W).mono ?_
    rintro e w2 ⟨rfl, hb2⟩
    clear y0 y1 z0 z1 HCR
    have RA3 := Lib.hid (RA2.out.below hb2 RA2.out.lt)
    have RR3 := Lib.hid (RR2.out.below hb2 RR2.out.lt)
    have R6 := Lib.hid (HR6.out.below hb2 HR6.out.lt)
    have R7 := Lib.hid (HR7.out.below hb2 HR7.out.lt)
    have BW2 := Lib.hid (Below.andThen BW.out hb2 (Nat.le_refl _))
    have hcb : Bd 3200 (crs (b1 - a1, b2 - a2) (c1 - a1, c2 - a2)) := by
      have h := (HP.out.1.mul HP.out.2.2.2).sub (HP.out.2.1.mul HP.out.2.2.1)
      unfold crs
      exact h.mono (by omega)
    have HDB := Lib.hid (show Bd 6400 D by rw [HDD.out]; unfold Bd at *; omega)
    have n1 : IntKind.i64.wrap (2 * crs (b1 - a1, b2 - a2) (c1 - a1, c2 - a2)) = D := by rw [← HDD.out]; exact i64_bd HDB.out (by omega)
    clear hb2 hcb RA2 RR2 HR6 HR7 BW
    by_cases hD : D = 0
    · have d1 : (D == 0) = true := by simp [hD]
      have d1' : decide (D = 0) = true := decide_eq_true hD
      have rT := RR3.out
      have t0 := rT.cell 0
      have t1 := rT.cell 1
      have t2 := rT.cell 2
      have t3 := rT.cell 3
      have g0 := frozen_of_row _ (w.heap.size + 1 + 1 + 1) 0 _ _ rT
      have g1 := frozen_of_row _ (w.heap.size + 1 + 1 + 1) 1 _ _ rT
      have g2 := frozen_of_row _ (w.heap.size + 1 + 1 + 1) 2 _ _ rT
      have g3 := frozen_of_row _ (w.heap.size + 1 + 1 + 1) 3 _ _ rT
      simp only [List.getElem?_cons_zero, List.getElem?_cons_succ] at t0 t1 t2 t3
      have HTV2 := HTV.out
      rw [if_pos hD] at HTV2
      have HT2 := Lib.hid HTV2
      have HD0 := Lib.hid hD
      clear rT HTV2 hD
      go_wp2_with fail
      have hr := (((RR3.out.set 0 (.int .i64 0)).set 1 (.int .i64 0)).set 2 (.int .i64 0)).set 3 (.int .i64 0)
      have v0 := hr.cell 0
      have v1 := hr.cell 1
      have v2 := hr.cell 2
      have v3 := hr.cell 3
      simp only [List.set_cons_zero, List.set_cons_succ, List.getElem?_cons_zero, List.getElem?_cons_succ] at v0 v1 v2 v3
      refine bodyPost_ret (v := .tuple #[cirV 0 0 0 0, .bool false]) (by simp [results, Try.results61, go_sem, v0, v1, v2, v3, cirV]) rfl ⟨by rw [HT2.out, decide_eq_true HD0.out]; rfl, ?_⟩
      exact (((BW2.out.setCell (p := ⟨w.heap.size + 1 + 1 + 1, 0, none⟩) (by dsimp only; omega) _).setCell (p := ⟨w.heap.size + 1 + 1 + 1, 1, none⟩) (by dsimp only; omega) _).setCell (p := ⟨w.heap.size + 1 + 1 + 1, 2, none⟩) (by dsimp only; omega) _).setCell (p := ⟨w.heap.size + 1 + 1 + 1, 3, none⟩) (by dsimp only; omega) _
    · have d1 : (D == 0) = false := by simp [hD]
      have d1' : decide (D = 0) = false := decide_eq_false hD
      have HS1 := Lib.hid (fun (W : World) (hb : Below w2.heap.size w2 W) => show Calls Try.prog 92 #[.slice (some ⟨b6, 0, none⟩) 2 2] W fun e w' => e = .returned (.int .i64 ((b1 - a1) * (b1 - a1) + (b2 - a2) * (b2 - a2))) ∧ Below W.heap.size W w' from (sq_any (b1 - a1) (b2 - a2) b6 0 2 W ((R6.out.below hb R6.out.lt).cell 0) ((R6.out.below hb R6.out.lt).cell 1) (by omega) (HP.out.1.mono (by omega)) (HP.out.2.1.mono (by omega))).mono fun e w' ⟨e1, e2⟩ => ⟨e1, by rw [e2]; exact Below.refl _ _⟩)
      have HS2 := Lib.hid (fun (W : World) (hb : Below w2.heap.size w2 W) => show Calls Try.prog 92 #[.slice (some ⟨b7, 0, none⟩) 2 2] W fun e w' => e = .returned (.int .i64 ((c1 - a1) * (c1 - a1) + (c2 - a2) * (c2 - a2))) ∧ Below W.heap.size W w' from (sq_any (c1 - a1) (c2 - a2) b7 0 2 W ((R7.out.below hb R7.out.lt).cell 0) ((R7.out.below hb R7.out.lt).cell 1) (by omega) (HP.out.2.2.1.mono (by omega)) (HP.out.2.2.2.mono (by omega))).mono fun e w' ⟨e1, e2⟩ => ⟨e1, by rw [e2]; exact Below.refl _ _⟩)
      have HD0 := Lib.hid hD
      clear hD
      go_wp2_with fail
      refine wp_region_box (by kernel_rfl) (by kernel_rfl) [28, 29, 30, 31, 11, 12] [(fun v => v = .slice (some ⟨b6, 0, none⟩) 2 2), (fun v => v = .int .i64 ((b1 - a1) * (b1 - a1) + (b2 - a2) * (b2 - a2))), (fun v => v = .slice (some ⟨b7, 0, none⟩) 2 2), (fun v => v = .int .i64 ((c1 - a1) * (c1 - a1) + (c2 - a2) * (c2 - a2))), (fun v => v = .int .i64 ((b1 - a1) * (b1 - a1) + (b2 - a2) * (b2 - a2))), (fun v => v = .int .i64 ((c1 - a1) * (c1 - a1) + (c2 - a2) * (c2 - a2)))] [none, none, none, none, none, none] [none, none, none, none, none, none] 6 rfl (by kernel_rfl) ?tr ⟨[undef, undef, undef, undef, undef, undef], by simp only [putAll, Act.put, List.setIfInBounds_toArray, List.set_cons_succ, List.set_cons_zero], rfl⟩ ?steps ?fin
      case tr =>
        rintro i v h
        rcases i with _ | _ | _ | _ | _ | _ | i
        all_goals first | trivial | (exfalso; rcases h with h | h <;> simp at h)
      case steps =>
        simp only [boxSteps, Nat.reduceAdd, Nat.zero_add, List.getD_cons_succ, List.getD_cons_zero]
        refine ⟨?_, ?_, ?_, ?_, ?_, ?_, trivial⟩
        · rintro vs W K hc hvl hw hK
          obtain ⟨x0, x1, x2, x3, x4, x5, rfl⟩ := len6 hvl
          have HK := Lib.hid hK
          have HC := Lib.hid hc
          have HW := Lib.hid hw
          clear hK hc hw hvl
          simp only [putAll, Act.put, List.setIfInBounds_toArray, List.set_cons_succ, List.set_cons_zero]
          clear HW
          go_wp2_with fail
          have fin := HK.out (.slice (some ⟨b6, 0, none⟩) 2 2) W (Below.refl _ _) rfl
          simp only [putAll, Act.put, List.setIfInBounds_toArray, List.set_cons_succ, List.set_cons_zero] at fin
          exact fin
        · rintro vs W K hc hvl hw hK
          obtain ⟨x0, x1, x2, x3, x4, x5, rfl⟩ := len6 hvl
          have HK := Lib.hid hK
          have HC := Lib.hid hc
          have HW := Lib.hid hw
          clear hK hc hw hvl
          obtain rfl : x0 = .slice (some ⟨b6, 0, none⟩) 2 2 := box_get (HW.out ⟨0, .data⟩ (by simp) rfl) rfl
          simp only [putAll, Act.put, List.setIfInBounds_toArray, List.set_cons_succ, List.set_cons_zero]
          clear HW
          go_wp2_with fail
          refine ((HS1.out W HC.out)).mono ?_
          rintro e W' ⟨rfl, hb'⟩
          have HB' := Lib.hid hb'
          clear hb'
          go_wp2_with fail
          have fin := HK.out (.int .i64 ((b1 - a1) * (b1 - a1) + (b2 - a2) * (b2 - a2))) W' HB'.out rfl
          simp only [putAll, Act.put, List.setIfInBounds_toArray, List.set_cons_succ, List.set_cons_zero] at fin
          exact fin
        · rintro vs W K hc hvl hw hK
          obtain ⟨x0, x1, x2, x3, x4, x5, rfl⟩ := len6 hvl
          have HK := Lib.hid hK
          have HC := Lib.hid hc
          have HW := Lib.hid hw
          clear hK hc hw hvl
          simp only [putAll, Act.put, List.setIfInBounds_toArray, List.set_cons_succ, List.set_cons_zero]
          clear HW
          go_wp2_with fail
          have fin := HK.out (.slice (some ⟨b7, 0, none⟩) 2 2) W (Below.refl _ _) rfl
          simp only [putAll, Act.put, List.setIfInBounds_toArray, List.set_cons_succ, List.set_cons_zero] at fin
          exact fin
        · rintro vs W K hc hvl hw hK
          obtain ⟨x0, x1, x2, x3, x4, x5, rfl⟩ := len6 hvl
          have HK := Lib.hid hK
          have HC := Lib.hid hc
          have HW := Lib.hid hw
          clear hK hc hw hvl
          obtain rfl : x2 = .slice (some ⟨b7, 0, none⟩) 2 2 := box_get (HW.out ⟨2, .data⟩ (by simp) rfl) rfl
          simp only [putAll, Act.put, List.setIfInBounds_toArray, List.set_cons_succ, List.set_cons_zero]
          clear HW
          go_wp2_with fail
          refine ((HS2.out W HC.out)).mono ?_
          rintro e W' ⟨rfl, hb'⟩
          have HB' := Lib.hid hb'
          clear hb'
          go_wp2_with fail
          have fin := HK.out (.int .i64 ((c1 - a1) * (c1 - a1) + (c2 - a2) * (c2 - a2))) W' HB'.out rfl
          simp only [putAll, Act.put, List.setIfInBounds_toArray, List.set_cons_succ, List.set_cons_zero] at fin
          exact fin
        · rintro vs W K hc hvl hw hK
          obtain ⟨x0, x1, x2, x3, x4, x5, rfl⟩ := len6 hvl
          have HK := Lib.hid hK
          have HC := Lib.hid hc
          have HW := Lib.hid hw
          clear hK hc hw hvl
          obtain rfl : x1 = .int .i64 ((b1 - a1) * (b1 - a1) + (b2 - a2) * (b2 - a2)) := box_get (HW.out ⟨1, .data⟩ (by simp) rfl) rfl
          simp only [putAll, Act.put, List.setIfInBounds_toArray, List.set_cons_succ, List.set_cons_zero]
          clear HW
          go_wp2_with fail
          have fin := HK.out (.int .i64 ((b1 - a1) * (b1 - a1) + (b2 - a2) * (b2 - a2))) W (Below.refl _ _) rfl
          simp only [putAll, Act.put, List.setIfInBounds_toArray, List.set_cons_succ, List.set_cons_zero] at fin
          exact fin
        · rintro vs W K hc hvl hw hK
          obtain ⟨x0, x1, x2, x3, x4, x5, rfl⟩ := len6 hvl
          have HK := Lib.hid hK
          have HC := Lib.hid hc
          have HW := Lib.hid hw
          clear hK hc hw hvl
          obtain rfl : x3 = .int .i64 ((c1 - a1) * (c1 - a1) + (c2 - a2) * (c2 - a2)) := box_get (HW.out ⟨3, .data⟩ (by simp) rfl) rfl
          simp only [putAll, Act.put, List.setIfInBounds_toArray, List.set_cons_succ, List.set_cons_zero]
          clear HW
          go_wp2_with fail
          have fin := HK.out (.int .i64 ((c1 - a1) * (c1 - a1) + (c2 - a2) * (c2 - a2))) W (Below.refl _ _) rfl
          simp only [putAll, Act.put, List.setIfInBounds_toArray, List.set_cons_succ, List.set_cons_zero] at fin
          exact fin
      case fin =>
        rintro vs W hJ
        obtain ⟨x0, x1, x2, x3, x4, x5, rfl⟩ := len6 hJ.ln
        obtain rfl : x4 = .int .i64 ((b1 - a1) * (b1 - a1) + (b2 - a2) * (b2 - a2)) := box_get (hJ.val 4 rfl) rfl
        obtain rfl : x5 = .int .i64 ((c1 - a1) * (c1 - a1) + (c2 - a2) * (c2 - a2)) := box_get (hJ.val 5 rfl) rfl
        have HC := Lib.hid hJ.bl
        clear hJ
        simp only [putAll, Act.put, List.setIfInBounds_toArray, List.set_cons_succ, List.set_cons_zero]
        have RA4 := Lib.hid (RA3.out.below HC.out RA3.out.lt)
        have RR4 := Lib.hid (RR3.out.below HC.out RR3.out.lt)
        have R64 := Lib.hid (R6.out.below HC.out R6.out.lt)
        have R74 := Lib.hid (R7.out.below HC.out R7.out.lt)
        have BW3 := Lib.hid (Below.andThen BW2.out HC.out (Nat.le_refl _))
        have y0 := R64.out.cell 0
        have y1 := R64.out.cell 1
        have z0 := R74.out.cell 0
        have z1 := R74.out.cell 1
        have a0' := RA4.out.cell 0
        have a1' := RA4.out.cell 1
        simp only [List.getElem?_cons_zero, List.getElem?_cons_succ] at y0 y1 z0 z1 a0' a1'
        have hpp : Bd 3200 ((b1 - a1) * (b1 - a1) + (b2 - a2) * (b2 - a2)) := ((HP.out.1.mul HP.out.1).add (HP.out.2.1.mul HP.out.2.1)).mono (by omega)
        have hqq : Bd 3200 ((c1 - a1) * (c1 - a1) + (c2 - a2) * (c2 - a2)) := ((HP.out.2.2.1.mul HP.out.2.2.1).add (HP.out.2.2.2.mul HP.out.2.2.2)).mono (by omega)
        have mb1 := HP.out.2.2.2.mul hpp
        have mb2 := HP.out.2.1.mul hqq
        have mb3 := HP.out.1.mul hqq
        have mb4 := HP.out.2.2.1.mul hpp
        have hTX : Bd 256000 TX := by rw [HXX.out]; exact (mb1.sub mb2).mono (by omega)
        have hTY : Bd 256000 TY := by rw [HYY.out]; exact (mb3.sub mb4).mono (by omega)
        have m1 := i64_bd mb1 (by omega)
        have m2 := i64_bd mb2 (by omega)
        have m3 := i64_bd mb3 (by omega)
        have m4 := i64_bd mb4 (by omega)
        have m5 : IntKind.i64.wrap ((c2 - a2) * ((b1 - a1) * (b1 - a1) + (b2 - a2) * (b2 - a2)) - (b2 - a2) * ((c1 - a1) * (c1 - a1) + (c2 - a2) * (c2 - a2))) = TX := by rw [← HXX.out]; exact i64_bd hTX (by omega)
        have m6 : IntKind.i64.wrap ((b1 - a1) * ((c1 - a1) * (c1 - a1) + (c2 - a2) * (c2 - a2)) - (c1 - a1) * ((b1 - a1) * (b1 - a1) + (b2 - a2) * (b2 - a2))) = TY := by rw [← HYY.out]; exact i64_bd hTY (by omega)
        have md1 := HDB.out.mul HA.out.1
        have md2 := HDB.out.mul HA.out.2
        have m7 := i64_bd md1 (by omega)
        have m8 := i64_bd md2 (by omega)
        have m9 := i64_bd (md1.add hTX) (by omega)
        have m10 := i64_bd (md2.add hTY) (by omega)
        have HRD := Lib.hid (fun (W : World) => round_any (D * a1 + TX) (D * a2 + TY) D a1 a2 W ((md1.add hTX).mono (by omega)) ((md2.add hTY).mono (by omega)) (HDB.out.mono (by omega)) HD0.out HA.out.1 HA.out.2)
        have HTV2 := HTV.out
        rw [if_neg HD0.out] at HTV2
        obtain ⟨X, Y, Dd, R, hV⟩ : ∃ X Y Dd R, rndV (D * a1 + TX) (D * a2 + TY) D (a1, a2) = cirV X Y Dd R := ⟨_, _, _, _, rfl⟩
        rw [hV] at HRD HTV2
        unfold cirV at HRD
        have HT2 := Lib.hid HTV2
        have MM1 := Lib.hid m1
        have MM2 := Lib.hid m2
        have MM3 := Lib.hid m3
        have MM4 := Lib.hid m4
        have MM5 := Lib.hid m5
        have MM6 := Lib.hid m6
        clear m1 m2 m3 m4 m5 m6 y0 y1 z0 z1 a0' a1'
        clear mb1 mb2 mb3 mb4 hpp hqq hTX hTY md1 md2 HTV2 hV HS1 HS2 RA3 RR3 R6 R7 BW2
        go_wp2_with fail
        refine wp_region_box (by kernel_rfl) (by kernel_rfl) [32, 33, 34, 35, 36, 37, 38, 39, 40, 41, 42, 43, 44, 45, 46, 47, 48, 49, 13, 14] [(fun v => v = .pointer (some ⟨b7, 1, none⟩)), (fun v => v = .int .i64 (c2 - a2)), (fun v => v = .int .i64 ((b1 - a1) * (b1 - a1) + (b2 - a2) * (b2 - a2))), (fun v => v = .int .i64 ((c2 - a2) * ((b1 - a1) * (b1 - a1) + (b2 - a2) * (b2 - a2)))), (fun v => v = .pointer (some ⟨b6, 1, none⟩)), (fun v => v = .int .i64 (b2 - a2)), (fun v => v = .int .i64 ((c1 - a1) * (c1 - a1) + (c2 - a2) * (c2 - a2))), (fun v => v = .int .i64 ((b2 - a2) * ((c1 - a1) * (c1 - a1) + (c2 - a2) * (c2 - a2)))), (fun v => v = .int .i64 (TX)), (fun v => v = .pointer (some ⟨b6, 0, none⟩)), (fun v => v = .int .i64 (b1 - a1)), (fun v => v = .int .i64 ((c1 - a1) * (c1 - a1) + (c2 - a2) * (c2 - a2))), (fun v => v = .int .i64 ((b1 - a1) * ((c1 - a1) * (c1 - a1) + (c2 - a2) * (c2 - a2)))), (fun v => v = .pointer (some ⟨b7, 0, none⟩)), (fun v => v = .int .i64 (c1 - a1)), (fun v => v = .int .i64 ((b1 - a1) * (b1 - a1) + (b2 - a2) * (b2 - a2))), (fun v => v = .int .i64 ((c1 - a1) * ((b1 - a1) * (b1 - a1) + (b2 - a2) * (b2 - a2)))), (fun v => v = .int .i64 (TY)), (fun v => v = .int .i64 (TX)), (fun v => v = .int .i64 (TY))] [none, none, none, none, none, none, none, none, none, none, none, none, none, none, none, none, none, none, none, none] [none, none, none, none, none, none, none, none, none, none, none, none, none, none, none, none, none, none, none, none] 20 rfl (by kernel_rfl) ?tr ⟨[undef, undef, undef, undef, undef, undef, undef, undef, undef, undef, undef, undef, undef, undef, undef, undef, undef, undef, undef, undef], by simp only [putAll, Act.put, List.setIfInBounds_toArray, List.set_cons_succ, List.set_cons_zero], rfl⟩ ?steps ?fin
        case tr =>
          rintro i v h
          rcases i with _ | _ | _ | _ | _ | _ | _ | _ | _ | _ | _ | _ | _ | _ | _ | _ | _ | _ | _ | _ | i
          all_goals first | trivial | (exfalso; rcases h with h | h <;> simp at h)
        case steps =>
          simp only [boxSteps, Nat.reduceAdd, Nat.zero_add, List.getD_cons_succ, List.getD_cons_zero]
          refine ⟨?_, ?_, ?_, ?_, ?_, ?_, ?_, ?_, ?_, ?_, ?_, ?_, ?_, ?_, ?_, ?_, ?_, ?_, ?_, ?_, trivial⟩
          · rintro vs W K hc hvl hw hK
            obtain ⟨x0, x1, x2, x3, x4, x5, x6, x7, x8, x9, x10, x11, x12, x13, x14, x15, x16, x17, x18, x19, rfl⟩ := len20 hvl
            have HK := Lib.hid hK
            have HC := Lib.hid hc
            have HW := Lib.hid hw
            clear hK hc hw hvl
            simp only [putAll, Act.put, List.setIfInBounds_toArray, List.set_cons_succ, List.set_cons_zero]
            clear HW
            go_wp2_with fail
            have fin := HK.out (.pointer (some ⟨b7, 1, none⟩)) W (Below.refl _ _) rfl
            simp only [putAll, Act.put, List.setIfInBounds_toArray, List.set_cons_succ, List.set_cons_zero] at fin
            exact fin
          · rintro vs W K hc hvl hw hK
            obtain ⟨x0, x1, x2, x3, x4, x5, x6, x7, x8, x9, x10, x11, x12, x13, x14, x15, x16, x17, x18, x19, rfl⟩ := len20 hvl
            have HK := Lib.hid hK
            have HC := Lib.hid hc
            have HW := Lib.hid hw
            clear hK hc hw hvl
            obtain rfl : x0 = .pointer (some ⟨b7, 1, none⟩) := box_get (HW.out ⟨0, .data⟩ (by simp) rfl) rfl
            simp only [putAll, Act.put, List.setIfInBounds_toArray, List.set_cons_succ, List.set_cons_zero]
            have rr := R74.out.below HC.out R74.out.lt
            have k0 : W.cell? ⟨_, 1, none⟩ = some (.int .i64 (c2 - a2)) := rr.cell 1
            clear rr
            clear HW
            go_wp2_with fail
            have fin := HK.out (.int .i64 (c2 - a2)) W (Below.refl _ _) rfl
            simp only [putAll, Act.put, List.setIfInBounds_toArray, List.set_cons_succ, List.set_cons_zero] at fin
            exact fin
          · rintro vs W K hc hvl hw hK
            obtain ⟨x0, x1, x2, x3, x4, x5, x6, x7, x8, x9, x10, x11, x12, x13, x14, x15, x16, x17, x18, x19, rfl⟩ := len20 hvl
            have HK := Lib.hid hK
            have HC := Lib.hid hc
            have HW := Lib.hid hw
            clear hK hc hw hvl
            simp only [putAll, Act.put, List.setIfInBounds_toArray, List.set_cons_succ, List.set_cons_zero]
            clear HW
            go_wp2_with fail
            have fin := HK.out (.int .i64 ((b1 - a1) * (b1 - a1) + (b2 - a2) * (b2 - a2))) W (Below.refl _ _) rfl
            simp only [putAll, Act.put, List.setIfInBounds_toArray, List.set_cons_succ, List.set_cons_zero] at fin
            exact fin
          · rintro vs W K hc hvl hw hK
            obtain ⟨x0, x1, x2, x3, x4, x5, x6, x7, x8, x9, x10, x11, x12, x13, x14, x15, x16, x17, x18, x19, rfl⟩ := len20 hvl
            have HK := Lib.hid hK
            have HC := Lib.hid hc
            have HW := Lib.hid hw
            clear hK hc hw hvl
            obtain rfl : x1 = .int .i64 (c2 - a2) := box_get (HW.out ⟨1, .data⟩ (by simp) rfl) rfl
            obtain rfl : x2 = .int .i64 ((b1 - a1) * (b1 - a1) + (b2 - a2) * (b2 - a2)) := box_get (HW.out ⟨2, .data⟩ (by simp) rfl) rfl
            simp only [putAll, Act.put, List.setIfInBounds_toArray, List.set_cons_succ, List.set_cons_zero]
            have mm1 := MM1.out
            clear HW
            go_wp2_with fail
            have fin := HK.out (.int .i64 ((c2 - a2) * ((b1 - a1) * (b1 - a1) + (b2 - a2) * (b2 - a2)))) W (Below.refl _ _) rfl
            simp only [putAll, Act.put, List.setIfInBounds_toArray, List.set_cons_succ, List.set_cons_zero] at fin
            exact fin
          · rintro vs W K hc hvl hw hK
            obtain ⟨x0, x1, x2, x3, x4, x5, x6, x7, x8, x9, x10, x11, x12, x13, x14, x15, x16, x17, x18, x19, rfl⟩ := len20 hvl
            have HK := Lib.hid hK
            have HC := Lib.hid hc
            have HW := Lib.hid hw
            clear hK hc hw hvl
            simp only [putAll, Act.put, List.setIfInBounds_toArray, List.set_cons_succ, List.set_cons_zero]
            clear HW
            go_wp2_with fail
            have fin := HK.out (.pointer (some ⟨b6, 1, none⟩)) W (Below.refl _ _) rfl
            simp only [putAll, Act.put, List.setIfInBounds_toArray, List.set_cons_succ, List.set_cons_zero] at fin
            exact fin
          · rintro vs W K hc hvl hw hK
            obtain ⟨x0, x1, x2, x3, x4, x5, x6, x7, x8, x9, x10, x11, x12, x13, x14, x15, x16, x17, x18, x19, rfl⟩ := len20 hvl
            have HK := Lib.hid hK
            have HC := Lib.hid hc
            have HW := Lib.hid hw
            clear hK hc hw hvl
            obtain rfl : x4 = .pointer (some ⟨b6, 1, none⟩) := box_get (HW.out ⟨4, .data⟩ (by simp) rfl) rfl
            simp only [putAll, Act.put, List.setIfInBounds_toArray, List.set_cons_succ, List.set_cons_zero]
            have rr := R64.out.below HC.out R64.out.lt
            have k0 : W.cell? ⟨_, 1, none⟩ = some (.int .i64 (b2 - a2)) := rr.cell 1
            clear rr
            clear HW
            go_wp2_with fail
            have fin := HK.out (.int .i64 (b2 - a2)) W (Below.refl _ _) rfl
            simp only [putAll, Act.put, List.setIfInBounds_toArray, List.set_cons_succ, List.set_cons_zero] at fin
            exact fin
          · rintro vs W K hc hvl hw hK
            obtain ⟨x0, x1, x2, x3, x4, x5, x6, x7, x8, x9, x10, x11, x12, x13, x14, x15, x16, x17, x18, x19, rfl⟩ := len20 hvl
            have HK := Lib.hid hK
            have HC := Lib.hid hc
            have HW := Lib.hid hw
            clear hK hc hw hvl
            simp only [putAll, Act.put, List.setIfInBounds_toArray, List.set_cons_succ, List.set_cons_zero]
            clear HW
            go_wp2_with fail
            have fin := HK.out (.int .i64 ((c1 - a1) * (c1 - a1) + (c2 - a2) * (c2 - a2))) W (Below.refl _ _) rfl
            simp only [putAll, Act.put, List.setIfInBounds_toArray, List.set_cons_succ, List.set_cons_zero] at fin
            exact fin
          · rintro vs W K hc hvl hw hK
            obtain ⟨x0, x1, x2, x3, x4, x5, x6, x7, x8, x9, x10, x11, x12, x13, x14, x15, x16, x17, x18, x19, rfl⟩ := len20 hvl
            have HK := Lib.hid hK
            have HC := Lib.hid hc
            have HW := Lib.hid hw
            clear hK hc hw hvl
            obtain rfl : x5 = .int .i64 (b2 - a2) := box_get (HW.out ⟨5, .data⟩ (by simp) rfl) rfl
            obtain rfl : x6 = .int .i64 ((c1 - a1) * (c1 - a1) + (c2 - a2) * (c2 - a2)) := box_get (HW.out ⟨6, .data⟩ (by simp) rfl) rfl
            simp only [putAll, Act.put, List.setIfInBounds_toArray, List.set_cons_succ, List.set_cons_zero]
            have mm2 := MM2.out
            clear HW
            go_wp2_with fail
            have fin := HK.out (.int .i64 ((b2 - a2) * ((c1 - a1) * (c1 - a1) + (c2 - a2) * (c2 - a2)))) W (Below.refl _ _) rfl
            simp only [putAll, Act.put, List.setIfInBounds_toArray, List.set_cons_succ, List.set_cons_zero] at fin
            exact fin
          · rintro vs W K hc hvl hw hK
            obtain ⟨x0, x1, x2, x3, x4, x5, x6, x7, x8, x9, x10, x11, x12, x13, x14, x15, x16, x17, x18, x19, rfl⟩ := len20 hvl
            have HK := Lib.hid hK
            have HC := Lib.hid hc
            have HW := Lib.hid hw
            clear hK hc hw hvl
            obtain rfl : x3 = .int .i64 ((c2 - a2) * ((b1 - a1) * (b1 - a1) + (b2 - a2) * (b2 - a2))) := box_get (HW.out ⟨3, .data⟩ (by simp) rfl) rfl
            obtain rfl : x7 = .int .i64 ((b2 - a2) * ((c1 - a1) * (c1 - a1) + (c2 - a2) * (c2 - a2))) := box_get (HW.out ⟨7, .data⟩ (by simp) rfl) rfl
            simp only [putAll, Act.put, List.setIfInBounds_toArray, List.set_cons_succ, List.set_cons_zero]
            have mm5 := MM5.out
            clear HW
            go_wp2_with fail
            have fin := HK.out (.int .i64 (TX)) W (Below.refl _ _) rfl
            simp only [putAll, Act.put, List.setIfInBounds_toArray, List.set_cons_succ, List.set_cons_zero] at fin
            exact fin
          · rintro vs W K hc hvl hw hK
            obtain ⟨x0, x1, x2, x3, x4, x5, x6, x7, x8, x9, x10, x11, x12, x13, x14, x15, x16, x17, x18, x19, rfl⟩ := len20 hvl
            have HK := Lib.hid hK
            have HC := Lib.hid hc
            have HW := Lib.hid hw
            clear hK hc hw hvl
            simp only [putAll, Act.put, List.setIfInBounds_toArray, List.set_cons_succ, List.set_cons_zero]
            clear HW
            go_wp2_with fail
            have fin := HK.out (.pointer (some ⟨b6, 0, none⟩)) W (Below.refl _ _) rfl
            simp only [putAll, Act.put, List.setIfInBounds_toArray, List.set_cons_succ, List.set_cons_zero] at fin
            exact fin
          · rintro vs W K hc hvl hw hK
            obtain ⟨x0, x1, x2, x3, x4, x5, x6, x7, x8, x9, x10, x11, x12, x13, x14, x15, x16, x17, x18, x19, rfl⟩ := len20 hvl
            have HK := Lib.hid hK
            have HC := Lib.hid hc
            have HW := Lib.hid hw
            clear hK hc hw hvl
            obtain rfl : x9 = .pointer (some ⟨b6, 0, none⟩) := box_get (HW.out ⟨9, .data⟩ (by simp) rfl) rfl
            simp only [putAll, Act.put, List.setIfInBounds_toArray, List.set_cons_succ, List.set_cons_zero]
            have rr := R64.out.below HC.out R64.out.lt
            have k0 : W.cell? ⟨_, 0, none⟩ = some (.int .i64 (b1 - a1)) := rr.cell 0
            clear rr
            clear HW
            go_wp2_with fail
            have fin := HK.out (.int .i64 (b1 - a1)) W (Below.refl _ _) rfl
            simp only [putAll, Act.put, List.setIfInBounds_toArray, List.set_cons_succ, List.set_cons_zero] at fin
            exact fin
          · rintro vs W K hc hvl hw hK
            obtain ⟨x0, x1, x2, x3, x4, x5, x6, x7, x8, x9, x10, x11, x12, x13, x14, x15, x16, x17, x18, x19, rfl⟩ := len20 hvl
            have HK := Lib.hid hK
            have HC := Lib.hid hc
            have HW := Lib.hid hw
            clear hK hc hw hvl
            simp only [putAll, Act.put, List.setIfInBounds_toArray, List.set_cons_succ, List.set_cons_zero]
            clear HW
            go_wp2_with fail
            have fin := HK.out (.int .i64 ((c1 - a1) * (c1 - a1) + (c2 - a2) * (c2 - a2))) W (Below.refl _ _) rfl
            simp only [putAll, Act.put, List.setIfInBounds_toArray, List.set_cons_succ, List.set_cons_zero] at fin
            exact fin
          · rintro vs W K hc hvl hw hK
            obtain ⟨x0, x1, x2, x3, x4, x5, x6, x7, x8, x9, x10, x11, x12, x13, x14, x15, x16, x17, x18, x19, rfl⟩ := len20 hvl
            have HK := Lib.hid hK
            have HC := Lib.hid hc
            have HW := Lib.hid hw
            clear hK hc hw hvl
            obtain rfl : x10 = .int .i64 (b1 - a1) := box_get (HW.out ⟨10, .data⟩ (by simp) rfl) rfl
            obtain rfl : x11 = .int .i64 ((c1 - a1) * (c1 - a1) + (c2 - a2) * (c2 - a2)) := box_get (HW.out ⟨11, .data⟩ (by simp) rfl) rfl
            simp only [putAll, Act.put, List.setIfInBounds_toArray, List.set_cons_succ, List.set_cons_zero]
            have mm3 := MM3.out
            clear HW
            go_wp2_with fail
            have fin := HK.out (.int .i64 ((b1 - a1) * ((c1 - a1) * (c1 - a1) + (c2 - a2) * (c2 - a2)))) W (Below.refl _ _) rfl
            simp only [putAll, Act.put, List.setIfInBounds_toArray, List.set_cons_succ, List.set_cons_zero] at fin
            exact fin
          · rintro vs W K hc hvl hw hK
            obtain ⟨x0, x1, x2, x3, x4, x5, x6, x7, x8, x9, x10, x11, x12, x13, x14, x15, x16, x17, x18, x19, rfl⟩ := len20 hvl
            have HK := Lib.hid hK
            have HC := Lib.hid hc
            have HW := Lib.hid hw
            clear hK hc hw hvl
            simp only [putAll, Act.put, List.setIfInBounds_toArray, List.set_cons_succ, List.set_cons_zero]
            clear HW
            go_wp2_with fail
            have fin := HK.out (.pointer (some ⟨b7, 0, none⟩)) W (Below.refl _ _) rfl
            simp only [putAll, Act.put, List.setIfInBounds_toArray, List.set_cons_succ, List.set_cons_zero] at fin
            exact fin
          · rintro vs W K hc hvl hw hK
            obtain ⟨x0, x1, x2, x3, x4, x5, x6, x7, x8, x9, x10, x11, x12, x13, x14, x15, x16, x17, x18, x19, rfl⟩ := len20 hvl
            have HK := Lib.hid hK
            have HC := Lib.hid hc
            have HW := Lib.hid hw
            clear hK hc hw hvl
            obtain rfl : x13 = .pointer (some ⟨b7, 0, none⟩) := box_get (HW.out ⟨13, .data⟩ (by simp) rfl) rfl
            simp only [putAll, Act.put, List.setIfInBounds_toArray, List.set_cons_succ, List.set_cons_zero]
            have rr := R74.out.below HC.out R74.out.lt
            have k0 : W.cell? ⟨_, 0, none⟩ = some (.int .i64 (c1 - a1)) := rr.cell 0
            clear rr
            clear HW
            go_wp2_with fail
            have fin := HK.out (.int .i64 (c1 - a1)) W (Below.refl _ _) rfl
            simp only [putAll, Act.put, List.setIfInBounds_toArray, List.set_cons_succ, List.set_cons_zero] at fin
            exact fin
          · rintro vs W K hc hvl hw hK
            obtain ⟨x0, x1, x2, x3, x4, x5, x6, x7, x8, x9, x10, x11, x12, x13, x14, x15, x16, x17, x18, x19, rfl⟩ := len20 hvl
            have HK := Lib.hid hK
            have HC := Lib.hid hc
            have HW := Lib.hid hw
            clear hK hc hw hvl
            simp only [putAll, Act.put, List.setIfInBounds_toArray, List.set_cons_succ, List.set_cons_zero]
            clear HW
            go_wp2_with fail
            have fin := HK.out (.int .i64 ((b1 - a1) * (b1 - a1) + (b2 - a2) * (b2 - a2))) W (Below.refl _ _) rfl
            simp only [putAll, Act.put, List.setIfInBounds_toArray, List.set_cons_succ, List.set_cons_zero] at fin
            exact fin
          · rintro vs W K hc hvl hw hK
            obtain ⟨x0, x1, x2, x3, x4, x5, x6, x7, x8, x9, x10, x11, x12, x13, x14, x15, x16, x17, x18, x19, rfl⟩ := len20 hvl
            have HK := Lib.hid hK
            have HC := Lib.hid hc
            have HW := Lib.hid hw
            clear hK hc hw hvl
            obtain rfl : x14 = .int .i64 (c1 - a1) := box_get (HW.out ⟨14, .data⟩ (by simp) rfl) rfl
            obtain rfl : x15 = .int .i64 ((b1 - a1) * (b1 - a1) + (b2 - a2) * (b2 - a2)) := box_get (HW.out ⟨15, .data⟩ (by simp) rfl) rfl
            simp only [putAll, Act.put, List.setIfInBounds_toArray, List.set_cons_succ, List.set_cons_zero]
            have mm4 := MM4.out
            clear HW
            go_wp2_with fail
            have fin := HK.out (.int .i64 ((c1 - a1) * ((b1 - a1) * (b1 - a1) + (b2 - a2) * (b2 - a2)))) W (Below.refl _ _) rfl
            simp only [putAll, Act.put, List.setIfInBounds_toArray, List.set_cons_succ, List.set_cons_zero] at fin
            exact fin
          · rintro vs W K hc hvl hw hK
            obtain ⟨x0, x1, x2, x3, x4, x5, x6, x7, x8, x9, x10, x11, x12, x13, x14, x15, x16, x17, x18, x19, rfl⟩ := len20 hvl
            have HK := Lib.hid hK
            have HC := Lib.hid hc
            have HW := Lib.hid hw
            clear hK hc hw hvl
            obtain rfl : x12 = .int .i64 ((b1 - a1) * ((c1 - a1) * (c1 - a1) + (c2 - a2) * (c2 - a2))) := box_get (HW.out ⟨12, .data⟩ (by simp) rfl) rfl
            obtain rfl : x16 = .int .i64 ((c1 - a1) * ((b1 - a1) * (b1 - a1) + (b2 - a2) * (b2 - a2))) := box_get (HW.out ⟨16, .data⟩ (by simp) rfl) rfl
            simp only [putAll, Act.put, List.setIfInBounds_toArray, List.set_cons_succ, List.set_cons_zero]
            have mm6 := MM6.out
            clear HW
            go_wp2_with fail
            have fin := HK.out (.int .i64 (TY)) W (Below.refl _ _) rfl
            simp only [putAll, Act.put, List.setIfInBounds_toArray, List.set_cons_succ, List.set_cons_zero] at fin
            exact fin
          · rintro vs W K hc hvl hw hK
            obtain ⟨x0, x1, x2, x3, x4, x5, x6, x7, x8, x9, x10, x11, x12, x13, x14, x15, x16, x17, x18, x19, rfl⟩ := len20 hvl
            have HK := Lib.hid hK
            have HC := Lib.hid hc
            have HW := Lib.hid hw
            clear hK hc hw hvl
            obtain rfl : x8 = .int .i64 (TX) := box_get (HW.out ⟨8, .data⟩ (by simp) rfl) rfl
            simp only [putAll, Act.put, List.setIfInBounds_toArray, List.set_cons_succ, List.set_cons_zero]
            clear HW
            go_wp2_with fail
            have fin := HK.out (.int .i64 (TX)) W (Below.refl _ _) rfl
            simp only [putAll, Act.put, List.setIfInBounds_toArray, List.set_cons_succ, List.set_cons_zero] at fin
            exact fin
          · rintro vs W K hc hvl hw hK
            obtain ⟨x0, x1, x2, x3, x4, x5, x6, x7, x8, x9, x10, x11, x12, x13, x14, x15, x16, x17, x18, x19, rfl⟩ := len20 hvl
            have HK := Lib.hid hK
            have HC := Lib.hid hc
            have HW := Lib.hid hw
            clear hK hc hw hvl
            obtain rfl : x17 = .int .i64 (TY) := box_get (HW.out ⟨17, .data⟩ (by simp) rfl) rfl
            simp only [putAll, Act.put, List.setIfInBounds_toArray, List.set_cons_succ, List.set_cons_zero]
            clear HW
            go_wp2_with fail
            have fin := HK.out (.int .i64 (TY)) W (Below.refl _ _) rfl
            simp only [putAll, Act.put, List.setIfInBounds_toArray, List.set_cons_succ, List.set_cons_zero] at fin
            exact fin
        case fin =>
          rintro vs W hJ
          obtain ⟨x0, x1, x2, x3, x4, x5, x6, x7, x8, x9, x10, x11, x12, x13, x14, x15, x16, x17, x18, x19, rfl⟩ := len20 hJ.ln
          obtain rfl : x18 = .int .i64 (TX) := box_get (hJ.val 18 rfl) rfl
          obtain rfl : x19 = .int .i64 (TY) := box_get (hJ.val 19 rfl) rfl
          have HC := Lib.hid hJ.bl
          clear hJ
          simp only [putAll, Act.put, List.setIfInBounds_toArray, List.set_cons_succ, List.set_cons_zero]
          have rA5 := RA4.out.below HC.out RA4.out.lt
          have RR5 := Lib.hid (RR4.out.below HC.out RR4.out.lt)
          have BW4 := Lib.hid (Below.andThen BW3.out HC.out (Nat.le_refl _))
          have a0' := rA5.cell 0
          have a1' := rA5.cell 1
          simp only [List.getElem?_cons_zero, List.getElem?_cons_succ] at a0' a1'
          clear rA5
          go_wp2_with fail
          refine (HRD.out _).mono ?_
          rintro e w5 ⟨rfl, hb5⟩
          have BW5 := Lib.hid (Below.andThen BW4.out hb5 (Nat.le_refl _))
          have rT := RR5.out.below hb5 RR5.out.lt
          have RT := Lib.hid rT
          have t0 := rT.cell 0
          have t1 := rT.cell 1
          have t2 := rT.cell 2
          have t3 := rT.cell 3
          have g0 := frozen_of_row _ (w.heap.size + 1 + 1 + 1) 0 _ _ rT
          have g1 := frozen_of_row _ (w.heap.size + 1 + 1 + 1) 1 _ _ rT
          have g2 := frozen_of_row _ (w.heap.size + 1 + 1 + 1) 2 _ _ rT
          have g3 := frozen_of_row _ (w.heap.size + 1 + 1 + 1) 3 _ _ rT
          simp only [List.getElem?_cons_zero, List.getElem?_cons_succ] at t0 t1 t2 t3
          clear rT hb5 a0' a1'
          go_wp2_with fail
          have hr := (((RT.out.set 0 (.int .i64 X)).set 1 (.int .i64 Y)).set 2 (.int .i64 Dd)).set 3 (.int .i64 R)
          have v0 := hr.cell 0
          have v1 := hr.cell 1
          have v2 := hr.cell 2
          have v3 := hr.cell 3
          simp only [List.set_cons_zero, List.set_cons_succ, List.getElem?_cons_zero, List.getElem?_cons_succ] at v0 v1 v2 v3
          refine bodyPost_ret (v := .tuple #[cirV X Y Dd R, .bool true]) (by simp [results, Try.results61, go_sem, v0, v1, v2, v3, cirV]) rfl ⟨by rw [HT2.out, decide_eq_false HD0.out]; rfl, ?_⟩
          exact (((BW5.out.setCell (p := ⟨w.heap.size + 1 + 1 + 1, 0, none⟩) (by dsimp only; omega) _).setCell (p := ⟨w.heap.size + 1 + 1 + 1, 1, none⟩) (by dsimp only; omega) _).setCell (p := ⟨w.heap.size + 1 + 1 + 1, 2, none⟩) (by dsimp only; omega) _).setCell (p := ⟨w.heap.size + 1 + 1 + 1, 3, none⟩) (by dsimp only; omega) _
end Go.Proofs.Ytlemipnplgbckaa
