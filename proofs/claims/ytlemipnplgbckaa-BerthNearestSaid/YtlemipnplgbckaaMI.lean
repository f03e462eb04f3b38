import Derived.Test.YtlemipnplgbckaaMG
import Derived.Test.YtlemipnplgbckaaMD
import Derived.Test.YtlemipnplgbckaaMA
import Derived.Test.YtlemipnplgbckaaME
import Derived.Test.YtlemipnplgbckaaMB
import Derived.Laws.AppendOwn
import Derived.ChangeKeysEq
import Derived.Maps.RangeWalk
import Derived.Maps.OwnIn
import Derived.Maps.AppendAt
import Derived.RangeFuncNested
import Derived.RangeFuncBound
import Derived.RangeFuncCalls
import Derived.RangeFuncLeaves
import Derived.Shelf.Abstract
import Derived.Shelf.RegionOpen
import Derived.WalkKit
import Derived.WalkMore
import Derived.OwnWalkIn
import Derived.TacticsInMore
import Derived.LoopNIn
import Derived.LoopIn
import Derived.WalkSpells
import Derived.WalkLawsBesides
import Derived.BigQuiet
import Derived.Deep.QuietTactic
import Derived.Lib.Hide
import Derived.Deep.RegionHeld3
import Derived.StillTailTactics
import Derived.Deep.LoopGhost
import Derived.Maps.OwnSet
import Derived.Lib.IndexAny
import Derived.Sort.QuietThIn
import Derived.Sort.QuietTacIn
import Derived.Sort.BigQuietIn
import Derived.Laws.OwnMore
import Derived.DeepKeys4
import Derived.Maps.Views
import Derived.Maps.OwnOps
import Derived.Deep.DeepCutAuto
namespace Go.Proofs.Ytlemipnplgbckaa
open Go.RowKit Go.Shelf
attribute [local go_sem] Oper.semAt_some
/-- is x no farther than m from zero -/
def wiF (x m : Int) : Bool := decide (-m ≤ x) && decide (x ≤ m)
set_option maxRecDepth 100000 in
set_option maxHeartbeats 400000 in
theorem within_any (x m : Int) (w : World) (hm : Bd 4000000000000000000 m) :
    Calls Try.prog 72 #[.int .i64 x, .int .i64 m] w fun e w' => e = .returned (.bool (wiF x m)) ∧ Below w.heap.size w w' := by
  have e1 : IntKind.i64.wrap (-m) = -m := i64_bd hm.neg (by omega)
  have hw : wiF x m = (decide (-m ≤ x) && decide (x ≤ m)) := rfl
  have HW := Lib.hid hw
  clear hw hm
  generalize wiF x m = W at *
  cases hA : decide (-m ≤ x) <;> cases hB : decide (x ≤ m) <;> (
    have a1 := hA
    have a2 := hB
    simp only [decide_eq_true_eq, decide_eq_false_iff_not] at a1 a2
    have hw := HW.out
    rw [hA, hB] at hw
    simp only [Bool.and_true, Bool.and_false] at hw
    subst hw
    have f1 : decide (x ≥ -m) = decide (-m ≤ x) := rfl
    rw [hA] at f1
    go_enter Try.func72, Try.ntmps72
    go_wp2_with fail
    go_ret
    exact ⟨rfl, Below.refl _ _⟩)
/-- is a circle as the document wants it -/
def vaF (c : Cir) : Bool := wiF c.X 1000000 && (wiF c.Y 1000000 && (wiF c.D 1000000 && (!decide (c.D < 1) && (!decide (c.R < 0) && (!decide (c.R > 1000000000000) && decide (Nat.gcd (Nat.gcd c.X.natAbs c.Y.natAbs) c.D.natAbs = 1))))))
theorem wiF_bd {x m : Int} (h : wiF x m = true) : -m ≤ x ∧ x ≤ m := by
  unfold wiF at h
  simpa using h
set_option maxRecDepth 100000 in
set_option maxHeartbeats 1000000 in
theorem Valid_any (X Y D R : Int) (w : World) :
    Calls Try.prog 29 #[.agg #[.int .i64 X, .int .i64 Y, .int .i64 D, .int .i64 R]] w fun e w' => e = .returned (.bool (vaF ⟨X, Y, D, R⟩)) ∧ Below w.heap.size w w' := by
  obtain ⟨ba, rb⟩ := box_start w 46 [.int .i64 X, .int .i64 Y, .int .i64 D, .int .i64 R]
  have HV := Lib.hid (show vaF ⟨X, Y, D, R⟩ = (wiF X 1000000 && (wiF Y 1000000 && (wiF D 1000000 && (!decide (D < 1) && (!decide (R < 0) && (!decide (R > 1000000000000) && decide (Nat.gcd (Nat.gcd X.natAbs Y.natAbs) D.natAbs = 1))))))) from rfl)
  have HWX := fun W : World => within_any X 1000000 W (by unfold Bd; omega)
  have HWY := fun W : World => within_any Y 1000000 W (by unfold Bd; omega)
  have HWD := fun W : World => within_any D 1000000 W (by unfold Bd; omega)
  have HG1 := Lib.hid (fun (hx : wiF X 1000000 = true) (hy : wiF Y 1000000 = true) (W : World) => rgcd_any X Y W (by have := wiF_bd hx; unfold Bd; omega) (by have := wiF_bd hy; unfold Bd; omega))
  have HGB := Lib.hid (fun (hx : wiF X 1000000 = true) (hy : wiF Y 1000000 = true) => (show Nat.gcd X.natAbs Y.natAbs ≤ 1000000 by
    have h1 := wiF_bd hx
    have h2 := wiF_bd hy
    by_cases h0 : X = 0
    · subst h0; simp; omega
    · have h := Nat.gcd_le_left (m := X.natAbs) Y.natAbs (by omega)
      omega))
  have HG2 := Lib.hid (fun (hx : wiF X 1000000 = true) (hy : wiF Y 1000000 = true) (hd : wiF D 1000000 = true) (W : World) => (by
    have := rgcd_any (Nat.gcd X.natAbs Y.natAbs : Nat) D W (by have := HGB.out hx hy; unfold Bd; omega) (by have := wiF_bd hd; unfold Bd; omega)
    rwa [Int.natAbs_natCast] at this : Calls Try.prog 73 #[.int .i64 (Nat.gcd X.natAbs Y.natAbs : Nat), .int .i64 D] W fun e w' => e = .returned (.int .i64 (Nat.gcd (Nat.gcd X.natAbs Y.natAbs) D.natAbs : Nat)) ∧ Below W.heap.size W w'))
  clear HGB
  generalize vaF ⟨X, Y, D, R⟩ = T at *
  obtain ⟨g1, hg1⟩ : ∃ g, Nat.gcd X.natAbs Y.natAbs = g := ⟨_, rfl⟩
  simp only [hg1] at HG1 HG2 HV
  obtain ⟨g2, hg2⟩ : ∃ g, Nat.gcd g1 D.natAbs = g := ⟨_, rfl⟩
  simp only [hg2] at HG2 HV
  clear hg1 hg2
  have F := Lib.hid (And.intro rb ba)
  clear rb ba
  cases hX : wiF X 1000000 with
  | false =>
    have HCX := HWX
    simp only [hX] at HCX
    have HCX := Lib.hid HCX
    clear HWX HWY HWD
    have hT : T = false := by rw [HV.out]; simp only [hX, Bool.false_and]
    subst hT
    clear HV
    have k0 := F.out.1.cell 0
    have k1 := F.out.1.cell 1
    have k2 := F.out.1.cell 2
    have k3 := F.out.1.cell 3
    simp only [List.getElem?_cons_zero, List.getElem?_cons_succ] at k0 k1 k2 k3
    go_enter Try.func29, Try.ntmps29
    go_wp2_with fail
    refine (HCX.out _).mono ?_
    rintro e w1 ⟨rfl, hb⟩
    have F := Lib.hid (And.intro (F.out.1.below hb F.out.1.lt) (Below.andThen F.out.2 hb (Nat.le_refl _)))
    clear hb k0 k1 k2 k3
    have k0 := F.out.1.cell 0
    have k1 := F.out.1.cell 1
    have k2 := F.out.1.cell 2
    have k3 := F.out.1.cell 3
    simp only [List.getElem?_cons_zero, List.getElem?_cons_succ] at k0 k1 k2 k3
    go_wp2_with fail
    go_ret
    exact ⟨rfl, F.out.2⟩
  | true =>
    cases hY : wiF Y 1000000 with
    | false =>
      have HCX := HWX
      simp only [hX] at HCX
      have HCX := Lib.hid HCX
      have HCY := HWY
      simp only [hY] at HCY
      have HCY := Lib.hid HCY
      clear HWX HWY HWD
      have hT : T = false := by rw [HV.out]; simp only [hX, hY, Bool.false_and, Bool.and_false]
      subst hT
      clear HV
      have k0 := F.out.1.cell 0
      have k1 := F.out.1.cell 1
      have k2 := F.out.1.cell 2
      have k3 := F.out.1.cell 3
      simp only [List.getElem?_cons_zero, List.getElem?_cons_succ] at k0 k1 k2 k3
      go_enter Try.func29, Try.ntmps29
      go_wp2_with fail
      refine (HCX.out _).mono ?_
      rintro e w1 ⟨rfl, hb⟩
      have F := Lib.hid (And.intro (F.out.1.below hb F.out.1.lt) (Below.andThen F.out.2 hb (Nat.le_refl _)))
      clear hb k0 k1 k2 k3
      have k0 := F.out.1.cell 0
      have k1 := F.out.1.cell 1
      have k2 := F.out.1.cell 2
      have k3 := F.out.1.cell 3
      simp only [List.getElem?_cons_zero, List.getElem?_cons_succ] at k0 k1 k2 k3
      go_wp2_with fail
      refine (HCY.out _).mono ?_
      rintro e w2 ⟨rfl, hb⟩
      have F := Lib.hid (And.intro (F.out.1.below hb F.out.1.lt) (Below.andThen F.out.2 hb (Nat.le_refl _)))
      clear hb k0 k1 k2 k3
      have k0 := F.out.1.cell 0
      have k1 := F.out.1.cell 1
      have k2 := F.out.1.cell 2
      have k3 := F.out.1.cell 3
      simp only [List.getElem?_cons_zero, List.getElem?_cons_succ] at k0 k1 k2 k3
      go_wp2_with fail
      go_ret
      exact ⟨rfl, F.out.2⟩
    | true =>
      cases hD : wiF D 1000000 with
      | false =>
        have HCX := HWX
        simp only [hX] at HCX
        have HCX := Lib.hid HCX
        have HCY := HWY
        simp only [hY] at HCY
        have HCY := Lib.hid HCY
        have HCD := HWD
        simp only [hD] at HCD
        have HCD := Lib.hid HCD
        clear HWX HWY HWD
        have hT : T = false := by rw [HV.out]; simp only [hX, hY, hD, Bool.false_and, Bool.and_false]
        subst hT
        clear HV
        have k0 := F.out.1.cell 0
        have k1 := F.out.1.cell 1
        have k2 := F.out.1.cell 2
        have k3 := F.out.1.cell 3
        simp only [List.getElem?_cons_zero, List.getElem?_cons_succ] at k0 k1 k2 k3
        go_enter Try.func29, Try.ntmps29
        go_wp2_with fail
        refine (HCX.out _).mono ?_
        rintro e w1 ⟨rfl, hb⟩
        have F := Lib.hid (And.intro (F.out.1.below hb F.out.1.lt) (Below.andThen F.out.2 hb (Nat.le_refl _)))
        clear hb k0 k1 k2 k3
        have k0 := F.out.1.cell 0
        have k1 := F.out.1.cell 1
        have k2 := F.out.1.cell 2
        have k3 := F.out.1.cell 3
        simp only [List.getElem?_cons_zero, List.getElem?_cons_succ] at k0 k1 k2 k3
        go_wp2_with fail
        refine (HCY.out _).mono ?_
        rintro e w2 ⟨rfl, hb⟩
        have F := Lib.hid (And.intro (F.out.1.below hb F.out.1.lt) (Below.andThen F.out.2 hb (Nat.le_refl _)))
        clear hb k0 k1 k2 k3
        have k0 := F.out.1.cell 0
        have k1 := F.out.1.cell 1
        have k2 := F.out.1.cell 2
        have k3 := F.out.1.cell 3
        simp only [List.getElem?_cons_zero, List.getElem?_cons_succ] at k0 k1 k2 k3
        go_wp2_with fail
        refine (HCD.out _).mono ?_
        rintro e w3 ⟨rfl, hb⟩
        have F := Lib.hid (And.intro (F.out.1.below hb F.out.1.lt) (Below.andThen F.out.2 hb (Nat.le_refl _)))
        clear hb k0 k1 k2 k3
        have k0 := F.out.1.cell 0
        have k1 := F.out.1.cell 1
        have k2 := F.out.1.cell 2
        have k3 := F.out.1.cell 3
        simp only [List.getElem?_cons_zero, List.getElem?_cons_succ] at k0 k1 k2 k3
        go_wp2_with fail
        go_ret
        exact ⟨rfl, F.out.2⟩
      | true =>
        cases c1 : decide (D < 1) with
        | true =>
          have HCX := HWX
          simp only [hX] at HCX
          have HCX := Lib.hid HCX
          have HCY := HWY
          simp only [hY] at HCY
          have HCY := Lib.hid HCY
          have HCD := HWD
          simp only [hD] at HCD
          have HCD := Lib.hid HCD
          clear HWX HWY HWD
          have hT : T = false := by rw [HV.out]; simp only [hX, hY, hD, c1, Bool.false_and, Bool.not_true, Bool.and_false]
          subst hT
          clear HV
          have k0 := F.out.1.cell 0
          have k1 := F.out.1.cell 1
          have k2 := F.out.1.cell 2
          have k3 := F.out.1.cell 3
          simp only [List.getElem?_cons_zero, List.getElem?_cons_succ] at k0 k1 k2 k3
          go_enter Try.func29, Try.ntmps29
          go_wp2_with fail
          refine (HCX.out _).mono ?_
          rintro e w1 ⟨rfl, hb⟩
          have F := Lib.hid (And.intro (F.out.1.below hb F.out.1.lt) (Below.andThen F.out.2 hb (Nat.le_refl _)))
          clear hb k0 k1 k2 k3
          have k0 := F.out.1.cell 0
          have k1 := F.out.1.cell 1
          have k2 := F.out.1.cell 2
          have k3 := F.out.1.cell 3
          simp only [List.getElem?_cons_zero, List.getElem?_cons_succ] at k0 k1 k2 k3
          go_wp2_with fail
          refine (HCY.out _).mono ?_
          rintro e w2 ⟨rfl, hb⟩
          have F := Lib.hid (And.intro (F.out.1.below hb F.out.1.lt) (Below.andThen F.out.2 hb (Nat.le_refl _)))
          clear hb k0 k1 k2 k3
          have k0 := F.out.1.cell 0
          have k1 := F.out.1.cell 1
          have k2 := F.out.1.cell 2
          have k3 := F.out.1.cell 3
          simp only [List.getElem?_cons_zero, List.getElem?_cons_succ] at k0 k1 k2 k3
          go_wp2_with fail
          refine (HCD.out _).mono ?_
          rintro e w3 ⟨rfl, hb⟩
          have F := Lib.hid (And.intro (F.out.1.below hb F.out.1.lt) (Below.andThen F.out.2 hb (Nat.le_refl _)))
          clear hb k0 k1 k2 k3
          have k0 := F.out.1.cell 0
          have k1 := F.out.1.cell 1
          have k2 := F.out.1.cell 2
          have k3 := F.out.1.cell 3
          simp only [List.getElem?_cons_zero, List.getElem?_cons_succ] at k0 k1 k2 k3
          go_wp2_with fail
          go_ret
          exact ⟨rfl, F.out.2⟩
        | false =>
          cases c2 : decide (R < 0) with
          | true =>
            have HCX := HWX
            simp only [hX] at HCX
            have HCX := Lib.hid HCX
            have HCY := HWY
            simp only [hY] at HCY
            have HCY := Lib.hid HCY
            have HCD := HWD
            simp only [hD] at HCD
            have HCD := Lib.hid HCD
            clear HWX HWY HWD
            have hT : T = false := by rw [HV.out]; simp only [hX, hY, hD, c1, c2, Bool.false_and, Bool.not_true, Bool.not_false, Bool.and_false]
            subst hT
            clear HV
            have k0 := F.out.1.cell 0
            have k1 := F.out.1.cell 1
            have k2 := F.out.1.cell 2
            have k3 := F.out.1.cell 3
            simp only [List.getElem?_cons_zero, List.getElem?_cons_succ] at k0 k1 k2 k3
            go_enter Try.func29, Try.ntmps29
            go_wp2_with fail
            refine (HCX.out _).mono ?_
            rintro e w1 ⟨rfl, hb⟩
            have F := Lib.hid (And.intro (F.out.1.below hb F.out.1.lt) (Below.andThen F.out.2 hb (Nat.le_refl _)))
            clear hb k0 k1 k2 k3
            have k0 := F.out.1.cell 0
            have k1 := F.out.1.cell 1
            have k2 := F.out.1.cell 2
            have k3 := F.out.1.cell 3
            simp only [List.getElem?_cons_zero, List.getElem?_cons_succ] at k0 k1 k2 k3
            go_wp2_with fail
            refine (HCY.out _).mono ?_
            rintro e w2 ⟨rfl, hb⟩
            have F := Lib.hid (And.intro (F.out.1.below hb F.out.1.lt) (Below.andThen F.out.2 hb (Nat.le_refl _)))
            clear hb k0 k1 k2 k3
            have k0 := F.out.1.cell 0
            have k1 := F.out.1.cell 1
            have k2 := F.out.1.cell 2
            have k3 := F.out.1.cell 3
            simp only [List.getElem?_cons_zero, List.getElem?_cons_succ] at k0 k1 k2 k3
            go_wp2_with fail
            refine (HCD.out _).mono ?_
            rintro e w3 ⟨rfl, hb⟩
            have F := Lib.hid (And.intro (F.out.1.below hb F.out.1.lt) (Below.andThen F.out.2 hb (Nat.le_refl _)))
            clear hb k0 k1 k2 k3
            have k0 := F.out.1.cell 0
            have k1 := F.out.1.cell 1
            have k2 := F.out.1.cell 2
            have k3 := F.out.1.cell 3
            simp only [List.getElem?_cons_zero, List.getElem?_cons_succ] at k0 k1 k2 k3
            go_wp2_with fail
            go_ret
            exact ⟨rfl, F.out.2⟩
          | false =>
            cases c3 : decide (R > 1000000000000) with
            | true =>
              have HCX := HWX
              simp only [hX] at HCX
              have HCX := Lib.hid HCX
              have HCY := HWY
              simp only [hY] at HCY
              have HCY := Lib.hid HCY
              have HCD := HWD
              simp only [hD] at HCD
              have HCD := Lib.hid HCD
              clear HWX HWY HWD
              have hT : T = false := by rw [HV.out]; simp only [hX, hY, hD, c1, c2, c3, Bool.false_and, Bool.not_true, Bool.not_false, Bool.and_false]
              subst hT
              clear HV
              have k0 := F.out.1.cell 0
              have k1 := F.out.1.cell 1
              have k2 := F.out.1.cell 2
              have k3 := F.out.1.cell 3
              simp only [List.getElem?_cons_zero, List.getElem?_cons_succ] at k0 k1 k2 k3
              go_enter Try.func29, Try.ntmps29
              go_wp2_with fail
              refine (HCX.out _).mono ?_
              rintro e w1 ⟨rfl, hb⟩
              have F := Lib.hid (And.intro (F.out.1.below hb F.out.1.lt) (Below.andThen F.out.2 hb (Nat.le_refl _)))
              clear hb k0 k1 k2 k3
              have k0 := F.out.1.cell 0
              have k1 := F.out.1.cell 1
              have k2 := F.out.1.cell 2
              have k3 := F.out.1.cell 3
              simp only [List.getElem?_cons_zero, List.getElem?_cons_succ] at k0 k1 k2 k3
              go_wp2_with fail
              refine (HCY.out _).mono ?_
              rintro e w2 ⟨rfl, hb⟩
              have F := Lib.hid (And.intro (F.out.1.below hb F.out.1.lt) (Below.andThen F.out.2 hb (Nat.le_refl _)))
              clear hb k0 k1 k2 k3
              have k0 := F.out.1.cell 0
              have k1 := F.out.1.cell 1
              have k2 := F.out.1.cell 2
              have k3 := F.out.1.cell 3
              simp only [List.getElem?_cons_zero, List.getElem?_cons_succ] at k0 k1 k2 k3
              go_wp2_with fail
              refine (HCD.out _).mono ?_
              rintro e w3 ⟨rfl, hb⟩
              have F := Lib.hid (And.intro (F.out.1.below hb F.out.1.lt) (Below.andThen F.out.2 hb (Nat.le_refl _)))
              clear hb k0 k1 k2 k3
              have k0 := F.out.1.cell 0
              have k1 := F.out.1.cell 1
              have k2 := F.out.1.cell 2
              have k3 := F.out.1.cell 3
              simp only [List.getElem?_cons_zero, List.getElem?_cons_succ] at k0 k1 k2 k3
              go_wp2_with fail
              go_ret
              exact ⟨rfl, F.out.2⟩
            | false =>
              have HCX := HWX
              simp only [hX] at HCX
              have HCX := Lib.hid HCX
              have HCY := HWY
              simp only [hY] at HCY
              have HCY := Lib.hid HCY
              have HCD := HWD
              simp only [hD] at HCD
              have HCD := Lib.hid HCD
              clear HWX HWY HWD
              have hT : T = decide ((g2 : Int) = 1) := by rw [HV.out]; simp only [hX, hY, hD, c1, c2, c3, Bool.true_and, Bool.not_false]; exact decide_eq_decide.2 (by omega)
              subst hT
              clear HV
              have HA1 := Lib.hid (HG1.out hX hY)
              have HA2 := Lib.hid (HG2.out hX hY hD)
              clear HG1 HG2
              have k0 := F.out.1.cell 0
              have k1 := F.out.1.cell 1
              have k2 := F.out.1.cell 2
              have k3 := F.out.1.cell 3
              simp only [List.getElem?_cons_zero, List.getElem?_cons_succ] at k0 k1 k2 k3
              go_enter Try.func29, Try.ntmps29
              go_wp2_with fail
              refine (HCX.out _).mono ?_
              rintro e w1 ⟨rfl, hb⟩
              have F := Lib.hid (And.intro (F.out.1.below hb F.out.1.lt) (Below.andThen F.out.2 hb (Nat.le_refl _)))
              clear hb k0 k1 k2 k3
              have k0 := F.out.1.cell 0
              have k1 := F.out.1.cell 1
              have k2 := F.out.1.cell 2
              have k3 := F.out.1.cell 3
              simp only [List.getElem?_cons_zero, List.getElem?_cons_succ] at k0 k1 k2 k3
              go_wp2_with fail
              refine (HCY.out _).mono ?_
              rintro e w2 ⟨rfl, hb⟩
              have F := Lib.hid (And.intro (F.out.1.below hb F.out.1.lt) (Below.andThen F.out.2 hb (Nat.le_refl _)))
              clear hb k0 k1 k2 k3
              have k0 := F.out.1.cell 0
              have k1 := F.out.1.cell 1
              have k2 := F.out.1.cell 2
              have k3 := F.out.1.cell 3
              simp only [List.getElem?_cons_zero, List.getElem?_cons_succ] at k0 k1 k2 k3
              go_wp2_with fail
              refine (HCD.out _).mono ?_
              rintro e w3 ⟨rfl, hb⟩
              have F := Lib.hid (And.intro (F.out.1.below hb F.out.1.lt) (Below.andThen F.out.2 hb (Nat.le_refl _)))
              clear hb k0 k1 k2 k3
              have k0 := F.out.1.cell 0
              have k1 := F.out.1.cell 1
              have k2 := F.out.1.cell 2
              have k3 := F.out.1.cell 3
              simp only [List.getElem?_cons_zero, List.getElem?_cons_succ] at k0 k1 k2 k3
              go_wp2_with fail
              clear k0 k1 k2 k3
              refine wp_region_box (by kernel_rfl) (by kernel_rfl) [34, 35, 36, 37, 38, 39, 40, 41, 42, 2] [(fun v => v = .pointer (some ⟨w.heap.size, 0, none⟩)), (fun v => v = .int .i64 X), (fun v => v = .pointer (some ⟨w.heap.size, 1, none⟩)), (fun v => v = .int .i64 Y), (fun v => v = .int .i64 (g1 : Int)), (fun v => v = .pointer (some ⟨w.heap.size, 2, none⟩)), (fun v => v = .int .i64 D), (fun v => v = .int .i64 (g2 : Int)), (fun v => v = .bool (decide ((g2 : Int) = 1))), (fun v => v = .bool (decide ((g2 : Int) = 1)))] [none, none, none, none, none, none, none, none, none, none] [none, none, none, none, none, none, none, none, none, none] 10 rfl (by kernel_rfl) ?tr ⟨[undef, undef, undef, undef, undef, undef, undef, undef, undef, .bool false], by simp only [putAll, Act.put, List.setIfInBounds_toArray, List.set_cons_succ, List.set_cons_zero], rfl⟩ ?steps ?fin
              case tr =>
                rintro i v h
                rcases i with _ | _ | _ | _ | _ | _ | _ | _ | _ | _ | i
                all_goals first | trivial | (exfalso; rcases h with h | h <;> simp at h)
              case steps =>
                simp only [boxSteps, Nat.reduceAdd, Nat.zero_add, List.getD_cons_succ, List.getD_cons_zero]
                refine ⟨?_, ?_, ?_, ?_, ?_, ?_, ?_, ?_, ?_, ?_, trivial⟩
                · rintro vs W K hc hvl hw hK
                  obtain ⟨x0, x1, x2, x3, x4, x5, x6, x7, x8, x9, rfl⟩ := len10 hvl
                  have HK := Lib.hid hK
                  have HC := Lib.hid hc
                  have HW := Lib.hid hw
                  clear hK hc hw hvl
                  simp only [putAll, Act.put, List.setIfInBounds_toArray, List.set_cons_succ, List.set_cons_zero]
                  clear HW
                  go_wp2_with fail
                  have fin := HK.out (.pointer (some ⟨w.heap.size, 0, none⟩)) W (Below.refl _ _) rfl
                  simp only [putAll, Act.put, List.setIfInBounds_toArray, List.set_cons_succ, List.set_cons_zero] at fin
                  exact fin
                · rintro vs W K hc hvl hw hK
                  obtain ⟨x0, x1, x2, x3, x4, x5, x6, x7, x8, x9, rfl⟩ := len10 hvl
                  have HK := Lib.hid hK
                  have HC := Lib.hid hc
                  have HW := Lib.hid hw
                  clear hK hc hw hvl
                  obtain rfl : x0 = .pointer (some ⟨w.heap.size, 0, none⟩) := box_get (HW.out ⟨0, .data⟩ (by simp) rfl) rfl
                  simp only [putAll, Act.put, List.setIfInBounds_toArray, List.set_cons_succ, List.set_cons_zero]
                  have rr := F.out.1.below HC.out F.out.1.lt
                  have d0 := rr.cell 0
                  simp only [List.getElem?_cons_zero] at d0
                  clear rr
                  clear HW
                  go_wp2_with fail
                  have fin := HK.out (.int .i64 X) W (Below.refl _ _) rfl
                  simp only [putAll, Act.put, List.setIfInBounds_toArray, List.set_cons_succ, List.set_cons_zero] at fin
                  exact fin
                · rintro vs W K hc hvl hw hK
                  obtain ⟨x0, x1, x2, x3, x4, x5, x6, x7, x8, x9, rfl⟩ := len10 hvl
                  have HK := Lib.hid hK
                  have HC := Lib.hid hc
                  have HW := Lib.hid hw
                  clear hK hc hw hvl
                  simp only [putAll, Act.put, List.setIfInBounds_toArray, List.set_cons_succ, List.set_cons_zero]
                  clear HW
                  go_wp2_with fail
                  have fin := HK.out (.pointer (some ⟨w.heap.size, 1, none⟩)) W (Below.refl _ _) rfl
                  simp only [putAll, Act.put, List.setIfInBounds_toArray, List.set_cons_succ, List.set_cons_zero] at fin
                  exact fin
                · rintro vs W K hc hvl hw hK
                  obtain ⟨x0, x1, x2, x3, x4, x5, x6, x7, x8, x9, rfl⟩ := len10 hvl
                  have HK := Lib.hid hK
                  have HC := Lib.hid hc
                  have HW := Lib.hid hw
                  clear hK hc hw hvl
                  obtain rfl : x2 = .pointer (some ⟨w.heap.size, 1, none⟩) := box_get (HW.out ⟨2, .data⟩ (by simp) rfl) rfl
                  simp only [putAll, Act.put, List.setIfInBounds_toArray, List.set_cons_succ, List.set_cons_zero]
                  have rr := F.out.1.below HC.out F.out.1.lt
                  have d0 := rr.cell 1
                  simp only [List.getElem?_cons_zero, List.getElem?_cons_succ] at d0
                  clear rr
                  clear HW
                  go_wp2_with fail
                  have fin := HK.out (.int .i64 Y) W (Below.refl _ _) rfl
                  simp only [putAll, Act.put, List.setIfInBounds_toArray, List.set_cons_succ, List.set_cons_zero] at fin
                  exact fin
                · rintro vs W K hc hvl hw hK
                  obtain ⟨x0, x1, x2, x3, x4, x5, x6, x7, x8, x9, rfl⟩ := len10 hvl
                  have HK := Lib.hid hK
                  have HC := Lib.hid hc
                  have HW := Lib.hid hw
                  clear hK hc hw hvl
                  obtain rfl : x1 = .int .i64 X := box_get (HW.out ⟨1, .data⟩ (by simp) rfl) rfl
                  obtain rfl : x3 = .int .i64 Y := box_get (HW.out ⟨3, .data⟩ (by simp) rfl) rfl
                  simp only [putAll, Act.put, List.setIfInBounds_toArray, List.set_cons_succ, List.set_cons_zero]
                  clear HW
                  go_wp2_with fail
                  refine (HA1.out W).mono ?_
                  rintro e W' ⟨rfl, hb'⟩
                  have HB' := Lib.hid hb'
                  clear hb'
                  go_wp2_with fail
                  have fin := HK.out (.int .i64 (g1 : Int)) W' HB'.out rfl
                  simp only [putAll, Act.put, List.setIfInBounds_toArray, List.set_cons_succ, List.set_cons_zero] at fin
                  exact fin
                · rintro vs W K hc hvl hw hK
                  obtain ⟨x0, x1, x2, x3, x4, x5, x6, x7, x8, x9, rfl⟩ := len10 hvl
                  have HK := Lib.hid hK
                  have HC := Lib.hid hc
                  have HW := Lib.hid hw
                  clear hK hc hw hvl
                  simp only [putAll, Act.put, List.setIfInBounds_toArray, List.set_cons_succ, List.set_cons_zero]
                  clear HW
                  go_wp2_with fail
                  have fin := HK.out (.pointer (some ⟨w.heap.size, 2, none⟩)) W (Below.refl _ _) rfl
                  simp only [putAll, Act.put, List.setIfInBounds_toArray, List.set_cons_succ, List.set_cons_zero] at fin
                  exact fin
                · rintro vs W K hc hvl hw hK
                  obtain ⟨x0, x1, x2, x3, x4, x5, x6, x7, x8, x9, rfl⟩ := len10 hvl
                  have HK := Lib.hid hK
                  have HC := Lib.hid hc
                  have HW := Lib.hid hw
                  clear hK hc hw hvl
                  obtain rfl : x5 = .pointer (some ⟨w.heap.size, 2, none⟩) := box_get (HW.out ⟨5, .data⟩ (by simp) rfl) rfl
                  simp only [putAll, Act.put, List.setIfInBounds_toArray, List.set_cons_succ, List.set_cons_zero]
                  have rr := F.out.1.below HC.out F.out.1.lt
                  have d0 := rr.cell 2
                  simp only [List.getElem?_cons_zero, List.getElem?_cons_succ] at d0
                  clear rr
                  clear HW
                  go_wp2_with fail
                  have fin := HK.out (.int .i64 D) W (Below.refl _ _) rfl
                  simp only [putAll, Act.put, List.setIfInBounds_toArray, List.set_cons_succ, List.set_cons_zero] at fin
                  exact fin
                · rintro vs W K hc hvl hw hK
                  obtain ⟨x0, x1, x2, x3, x4, x5, x6, x7, x8, x9, rfl⟩ := len10 hvl
                  have HK := Lib.hid hK
                  have HC := Lib.hid hc
                  have HW := Lib.hid hw
                  clear hK hc hw hvl
                  obtain rfl : x4 = .int .i64 (g1 : Int) := box_get (HW.out ⟨4, .data⟩ (by simp) rfl) rfl
                  obtain rfl : x6 = .int .i64 D := box_get (HW.out ⟨6, .data⟩ (by simp) rfl) rfl
                  simp only [putAll, Act.put, List.setIfInBounds_toArray, List.set_cons_succ, List.set_cons_zero]
                  clear HW
                  go_wp2_with fail
                  refine (HA2.out W).mono ?_
                  rintro e W' ⟨rfl, hb'⟩
                  have HB' := Lib.hid hb'
                  clear hb'
                  go_wp2_with fail
                  have fin := HK.out (.int .i64 (g2 : Int)) W' HB'.out rfl
                  simp only [putAll, Act.put, List.setIfInBounds_toArray, List.set_cons_succ, List.set_cons_zero] at fin
                  exact fin
                · rintro vs W K hc hvl hw hK
                  obtain ⟨x0, x1, x2, x3, x4, x5, x6, x7, x8, x9, rfl⟩ := len10 hvl
                  have HK := Lib.hid hK
                  have HC := Lib.hid hc
                  have HW := Lib.hid hw
                  clear hK hc hw hvl
                  obtain rfl : x7 = .int .i64 (g2 : Int) := box_get (HW.out ⟨7, .data⟩ (by simp) rfl) rfl
                  simp only [putAll, Act.put, List.setIfInBounds_toArray, List.set_cons_succ, List.set_cons_zero]
                  clear HW
                  go_wp2_with fail
                  have fin := HK.out (.bool (decide ((g2 : Int) = 1))) W (Below.refl _ _) rfl
                  simp only [putAll, Act.put, List.setIfInBounds_toArray, List.set_cons_succ, List.set_cons_zero] at fin
                  exact fin
                · rintro vs W K hc hvl hw hK
                  obtain ⟨x0, x1, x2, x3, x4, x5, x6, x7, x8, x9, rfl⟩ := len10 hvl
                  have HK := Lib.hid hK
                  have HC := Lib.hid hc
                  have HW := Lib.hid hw
                  clear hK hc hw hvl
                  obtain rfl : x8 = .bool (decide ((g2 : Int) = 1)) := box_get (HW.out ⟨8, .data⟩ (by simp) rfl) rfl
                  simp only [putAll, Act.put, List.setIfInBounds_toArray, List.set_cons_succ, List.set_cons_zero]
                  clear HW
                  go_wp2_with fail
                  have fin := HK.out (.bool (decide ((g2 : Int) = 1))) W (Below.refl _ _) rfl
                  simp only [putAll, Act.put, List.setIfInBounds_toArray, List.set_cons_succ, List.set_cons_zero] at fin
                  exact fin
              case fin =>
                rintro vs W hJ
                obtain ⟨x0, x1, x2, x3, x4, x5, x6, x7, x8, x9, rfl⟩ := len10 hJ.ln
                obtain rfl : x0 = .pointer (some ⟨w.heap.size, 0, none⟩) := box_get (hJ.val 0 rfl) rfl
                obtain rfl : x1 = .int .i64 X := box_get (hJ.val 1 rfl) rfl
                obtain rfl : x2 = .pointer (some ⟨w.heap.size, 1, none⟩) := box_get (hJ.val 2 rfl) rfl
                obtain rfl : x3 = .int .i64 Y := box_get (hJ.val 3 rfl) rfl
                obtain rfl : x4 = .int .i64 (g1 : Int) := box_get (hJ.val 4 rfl) rfl
                obtain rfl : x5 = .pointer (some ⟨w.heap.size, 2, none⟩) := box_get (hJ.val 5 rfl) rfl
                obtain rfl : x6 = .int .i64 D := box_get (hJ.val 6 rfl) rfl
                obtain rfl : x7 = .int .i64 (g2 : Int) := box_get (hJ.val 7 rfl) rfl
                obtain rfl : x8 = .bool (decide ((g2 : Int) = 1)) := box_get (hJ.val 8 rfl) rfl
                obtain rfl : x9 = .bool (decide ((g2 : Int) = 1)) := box_get (hJ.val 9 rfl) rfl
                have HC := Lib.hid hJ.bl
                clear hJ
                simp only [putAll, Act.put, List.setIfInBounds_toArray, List.set_cons_succ, List.set_cons_zero]
                have BW := Lib.hid (Below.andThen F.out.2 HC.out (Nat.le_refl _))
                clear HC
                go_wp2_with fail
                go_ret
                exact ⟨rfl, BW.out⟩
end Go.Proofs.Ytlemipnplgbckaa
namespace Go.Proofs.Ytlemipnplgbckaa
open Go.RowKit Go.Shelf
attribute [local go_sem] Oper.semAt_some
/-- what CheckCircle answers -/
def errC (c : Cir) : Int := if vaF c = true then 0 else 1
theorem vaF_iff {c : Cir} : vaF c = true ↔ (-1000000 ≤ c.X ∧ c.X ≤ 1000000 ∧ -1000000 ≤ c.Y ∧ c.Y ≤ 1000000 ∧ 1 ≤ c.D ∧ c.D ≤ 1000000) ∧ 0 ≤ c.R ∧ c.R ≤ 1000000000000 ∧ gcdL 0 [c.X, c.Y, c.D] = 1 := by
  unfold vaF wiF
  rw [gcdL3]
  simp only [Bool.and_eq_true, Bool.not_eq_true', decide_eq_true_eq, decide_eq_false_iff_not]
  omega
theorem vaF_cirB {c : Cir} (h : vaF c = true) : CirB c := by
  obtain ⟨h1, h2, h3, _⟩ := vaF_iff.1 h
  unfold CirB Bd
  omega
theorem errC_cases (X Y D R : Int) : errC ⟨X, Y, D, R⟩ = if (!decide (¬ (-1000000 ≤ X ∧ X ≤ 1000000 ∧ -1000000 ≤ Y ∧ Y ≤ 1000000 ∧ 1 ≤ D ∧ D ≤ 1000000)) && (!decide (R < 0) && (!decide (R > 1000000000000) && !decide ((gcdL 0 [X, Y, D] : Int) > 1)))) = true then 0 else 1 := by
  unfold errC
  congr 1
  apply propext
  rw [vaF_iff]
  simp only [Bool.and_eq_true, Bool.not_eq_true', decide_eq_false_iff_not, Classical.not_not]
  constructor
  · rintro ⟨h1, h2, h3, h4⟩
    exact ⟨h1, by omega, by omega, by omega⟩
  · rintro ⟨h1, h2, h3, h4⟩
    have hg : gcdL 0 [X, Y, D] ≠ 0 := by
      rw [gcdL3]
      intro h
      have := Nat.gcd_eq_zero_iff.1 h
      omega
    exact ⟨h1, by omega, by omega, by omega⟩
set_option maxRecDepth 100000 in
set_option maxHeartbeats 1000000 in
theorem CheckCircle_any (X Y D R : Int) (w : World) :
    Calls Try.prog 30 #[.agg #[.int .i64 X, .int .i64 Y, .int .i64 D, .int .i64 R]] w fun e w' => e = .returned (.int .i64 (errC ⟨X, Y, D, R⟩)) ∧ Below w.heap.size w w' := by
  obtain ⟨ba, rb⟩ := box_start w 30 [.int .i64 X, .int .i64 Y, .int .i64 D, .int .i64 R]
  have HE := Lib.hid (errC_cases X Y D R)
  have HG := Lib.hid (fun (h : -1000000 ≤ X ∧ X ≤ 1000000 ∧ -1000000 ≤ Y ∧ Y ≤ 1000000 ∧ 1 ≤ D ∧ D ≤ 1000000) (W : World) (N : Nat) (hN : W.heap.size = N) => show Calls Try.prog 74 #[.slice (some ⟨N, 0, none⟩) 3 3] (W.alloc (.cells #[.int .i64 X, .int .i64 Y, .int .i64 D] 3)) fun e w' => e = .returned (.int .i64 (gcdL 0 [X, Y, D] : Nat)) ∧ Below (W.alloc (.cells #[.int .i64 X, .int .i64 Y, .int .i64 D] 3)).heap.size (W.alloc (.cells #[.int .i64 X, .int .i64 Y, .int .i64 D] 3)) w' from hN ▸ gcd_any [X, Y, D] W.heap.size 0 3 _ (three_cells W X Y D) (by simp) (by
    intro z hz
    simp only [List.mem_cons, List.not_mem_nil, or_false] at hz
    rcases hz with rfl | rfl | rfl <;> unfold Bd <;> omega))
  have HBAD : ∃ bad, decide (¬ (-1000000 ≤ X ∧ X ≤ 1000000 ∧ -1000000 ≤ Y ∧ Y ≤ 1000000 ∧ 1 ≤ D ∧ D ≤ 1000000)) = bad := ⟨_, rfl⟩
  obtain ⟨bad, hbad⟩ := HBAD
  rw [hbad] at HE
  have HBAD := Lib.hid hbad
  clear hbad
  generalize errC ⟨X, Y, D, R⟩ = E at *
  obtain ⟨g2, hg2⟩ : ∃ g, gcdL 0 [X, Y, D] = g := ⟨_, rfl⟩
  simp only [hg2] at HG HE
  clear hg2
  have k0 := rb.cell 0
  have k1 := rb.cell 1
  have k2 := rb.cell 2
  have k3 := rb.cell 3
  simp only [List.getElem?_cons_zero, List.getElem?_cons_succ] at k0 k1 k2 k3
  have F := Lib.hid (And.intro rb ba)
  clear rb ba
  go_enter Try.func30, Try.ntmps30
  go_upto_region 1 with fail
  go_cut [23] (fun t wx => t = .bool bad ∧ wx = w.alloc (.cells [.int .i64 X, .int .i64 Y, .int .i64 D, .int .i64 R].toArray 30))
  case first =>
    go_wp2_with fail
    all_goals go_meet
    all_goals
      refine ⟨congrArg _ ?_, rfl⟩
      rw [← HBAD.out, Bool.eq_iff_iff]
      simp only [Bool.or_eq_true, decide_eq_true_eq]
      first | omega | (simp; omega)
  case rest =>
    obtain ⟨rfl, rfl⟩ := hcut
    cases bad with
    | true =>
      have hT : E = 1 := by rw [HE.out]; simp
      subst hT
      go_wp2_with fail
      go_ret
      exact ⟨rfl, F.out.2⟩
    | false =>
      have hin := of_decide_eq_false HBAD.out
      rw [Classical.not_not] at hin
      have HC := Lib.hid (HG.out hin)
      clear hin HG
      cases c2 : decide (R < 0) with
      | true =>
        have hT : E = 1 := by rw [HE.out, c2]; simp
        subst hT
        go_wp2_with fail
        go_ret
        exact ⟨rfl, F.out.2⟩
      | false =>
        cases c3 : decide (R > 1000000000000) with
        | true =>
          have hT : E = 1 := by rw [HE.out, c2, c3]; simp
          subst hT
          go_wp2_with fail
          go_ret
          exact ⟨rfl, F.out.2⟩
        | false =>
          cases c4 : decide ((g2 : Int) > 1) with
          | true =>
            have hT : E = 1 := by rw [HE.out, c2, c3, c4]; simp
            subst hT
            clear HE
            go_wp2_with fail
            refine (HC.out _ _ (size_al _ _)).mono ?_
            rintro e w1 ⟨rfl, hb⟩
            have BW := Lib.hid (Below.andThen F.out.2 (Below.andThen (Below.al (Below.refl _ _) (Nat.le_refl _) _) hb (Nat.le_refl _)) (Nat.le_refl _))
            clear hb
            go_wp2_with fail
            go_ret
            exact ⟨rfl, BW.out⟩
          | false =>
            have hT : E = 0 := by rw [HE.out, c2, c3, c4]; simp
            subst hT
            clear HE
            go_wp2_with fail
            refine (HC.out _ _ (size_al _ _)).mono ?_
            rintro e w1 ⟨rfl, hb⟩
            have BW := Lib.hid (Below.andThen F.out.2 (Below.andThen (Below.al (Below.refl _ _) (Nat.le_refl _) _) hb (Nat.le_refl _)) (Nat.le_refl _))
            clear hb
            go_wp2_with fail
            go_ret
            exact ⟨rfl, BW.out⟩
end Go.Proofs.Ytlemipnplgbckaa
namespace Go.Proofs.Ytlemipnplgbckaa
open Go.RowKit Go.Shelf
attribute [local go_sem] Oper.semAt_some
/-- what Where answers -/
def wherE (c : Cir) (p : Pt) : Int := if vaF c && okP p then 0 else 1
def wherV (c : Cir) (p : Pt) : Int := if vaF c && okP p then whF c p else 0
set_option maxRecDepth 100000 in
set_option maxHeartbeats 1000000 in
theorem Where_any (X Y D R p q : Int) (w : World) :
    Calls Try.prog 33 #[.agg #[.int .i64 X, .int .i64 Y, .int .i64 D, .int .i64 R], .agg #[.int .i64 p, .int .i64 q]] w fun e w' => e = .returned (.tuple #[.int .i64 (wherV ⟨X, Y, D, R⟩ (p, q)), .int .i64 (wherE ⟨X, Y, D, R⟩ (p, q))]) ∧ Below w.heap.size w w' := by
  obtain ⟨V, hV, ra, rb, bV, hsz⟩ := two_start w 30 28 [.int .i64 X, .int .i64 Y, .int .i64 D, .int .i64 R] [.int .i64 p, .int .i64 q]
  have HA := Lib.hid (fun W : World => CheckCircle_any X Y D R W)
  have HB := Lib.hid (fun W : World => by
    have := checkPairs_any [(p, q)] _ _ (slp_one W p q) (by simp)
    rwa [show ([(p, q)].all okP) = okP (p, q) by simp] at this)
  have HW := Lib.hid (fun (h1 : vaF ⟨X, Y, D, R⟩ = true) (h2 : okP (p, q) = true) (W : World) => (by
    obtain ⟨hx, hy, hd, hr⟩ := vaF_cirB h1
    have hd' : 1 ≤ D ∧ D ≤ 1000000 := hd
    rw [okP_iff] at h2
    exact where_any X Y D R p q W hx hy (by unfold Bd; omega) h2.1 h2.2 : Calls Try.prog 63 #[.agg #[.int .i64 X, .int .i64 Y, .int .i64 D, .int .i64 R], .agg #[.int .i64 p, .int .i64 q]] W fun e w' => e = .returned (.int .i64 (whF ⟨X, Y, D, R⟩ (p, q))) ∧ Below W.heap.size W w'))
  have HE := Lib.hid (show wherE ⟨X, Y, D, R⟩ (p, q) = if vaF ⟨X, Y, D, R⟩ && okP (p, q) then 0 else 1 from rfl)
  have HT := Lib.hid (show wherV ⟨X, Y, D, R⟩ (p, q) = if vaF ⟨X, Y, D, R⟩ && okP (p, q) then whF ⟨X, Y, D, R⟩ (p, q) else 0 from rfl)
  have HC := Lib.hid (show errC ⟨X, Y, D, R⟩ = if vaF ⟨X, Y, D, R⟩ = true then 0 else 1 from rfl)
  generalize wherE ⟨X, Y, D, R⟩ (p, q) = E at *
  generalize wherV ⟨X, Y, D, R⟩ (p, q) = T at *
  generalize errC ⟨X, Y, D, R⟩ = C at *
  generalize whF ⟨X, Y, D, R⟩ (p, q) = M at *
  generalize vaF ⟨X, Y, D, R⟩ = va at *
  generalize okP (p, q) = ok at *
  have RA := Lib.hid ra
  have RB := Lib.hid rb
  have BV := Lib.hid bV
  have k0 := ra.cell 0
  have k1 := ra.cell 1
  have k2 := ra.cell 2
  have k3 := ra.cell 3
  simp only [List.getElem?_cons_zero, List.getElem?_cons_succ] at k0 k1 k2 k3
  clear ra rb bV hsz
  go_enter Try.func33, Try.ntmps33
  go_wp2_with fail
  rw [← hV]
  clear hV
  cases va with
  | false =>
    have e1 : C = 1 := HC.out
    have e2 : E = 1 := HE.out
    have e3 : T = 0 := HT.out
    subst e1 e2 e3
    refine (HA.out V).mono ?_
    rintro e w1 ⟨rfl, hb⟩
    have BW := Lib.hid (Below.andThen BV.out hb (Nat.le_refl _))
    clear hb k0 k1 k2 k3
    go_wp2_with fail
    exact bodyPost_ret (v := .tuple #[.int .i64 0, .int .i64 1]) (by simp [results, Try.results33, go_sem]) rfl ⟨rfl, BW.out⟩
  | true =>
    have e1 : C = 0 := HC.out
    subst e1
    refine (HA.out V).mono ?_
    rintro e w1 ⟨rfl, hb⟩
    have BW := Lib.hid (Below.andThen BV.out hb (Nat.le_refl _))
    have RA1 := Lib.hid (RA.out.below hb RA.out.lt)
    have RB1 := Lib.hid (RB.out.below hb RB.out.lt)
    clear hb k0 k1 k2 k3 RA RB BV HC
    have d0 := RB1.out.cell 0
    have d1 := RB1.out.cell 1
    simp only [List.getElem?_cons_zero, List.getElem?_cons_succ] at d0 d1
    cases ok with
    | false =>
      have e2 : E = 1 := HE.out
      have e3 : T = 0 := HT.out
      subst e2 e3
      go_wp2_with fail
      refine (HB.out w1).mono ?_
      rintro e w2 ⟨rfl, hb⟩
      have BW2 := Lib.hid (Below.andThen BW.out (Below.andThen (Below.al (Below.refl _ _) (Nat.le_refl _) _) hb (Nat.le_refl _)) (Nat.le_refl _))
      clear hb d0 d1
      go_wp2_with fail
      exact bodyPost_ret (v := .tuple #[.int .i64 0, .int .i64 1]) (by simp [results, Try.results33, go_sem]) rfl ⟨rfl, BW2.out⟩
    | true =>
      have e2 : E = 0 := HE.out
      have e3 : T = M := HT.out
      subst e2 e3
      go_wp2_with fail
      refine (HB.out w1).mono ?_
      rintro e w2 ⟨rfl, hb⟩
      have b1 := Below.andThen (Below.al (Below.refl w1.heap.size w1) (Nat.le_refl _) (.cells #[.int .i64 p, .int .i64 q] 28)) hb (Nat.le_refl _)
      have BW2 := Lib.hid (Below.andThen BW.out b1 (Nat.le_refl _))
      have RA2 := Lib.hid (RA1.out.below b1 RA1.out.lt)
      have RB2 := Lib.hid (RB1.out.below b1 RB1.out.lt)
      clear hb b1 d0 d1 RA1 RB1 BW
      have k0 := RA2.out.cell 0
      have k1 := RA2.out.cell 1
      have k2 := RA2.out.cell 2
      have k3 := RA2.out.cell 3
      have d0 := RB2.out.cell 0
      have d1 := RB2.out.cell 1
      simp only [List.getElem?_cons_zero, List.getElem?_cons_succ] at k0 k1 k2 k3 d0 d1
      go_wp2_with fail
      refine (HW.out trivial trivial w2).mono ?_
      rintro e w3 ⟨rfl, hb⟩
      have BW3 := Lib.hid (Below.andThen BW2.out hb (Nat.le_refl _))
      clear hb k0 k1 k2 k3 d0 d1
      go_wp2_with fail
      exact bodyPost_ret (v := .tuple #[.int .i64 T, .int .i64 0]) (by simp [results, Try.results33, go_sem]) rfl ⟨rfl, BW3.out⟩
end Go.Proofs.Ytlemipnplgbckaa
namespace Go.Proofs.Ytlemipnplgbckaa
open Go.RowKit Go.Shelf
attribute [local go_sem] Oper.semAt_some
/-- what Compare answers -/
def cmpE (a b : Cir) : Int := if vaF a && vaF b then 0 else 1
def cmpW (a b : Cir) : Int := if vaF a && vaF b then cmpC a.D a.R b.D b.R else 0
set_option maxRecDepth 100000 in
set_option maxHeartbeats 1000000 in
theorem Compare_any (X Y D R X' Y' D' R' : Int) (w : World) :
    Calls Try.prog 31 #[.agg #[.int .i64 X, .int .i64 Y, .int .i64 D, .int .i64 R], .agg #[.int .i64 X', .int .i64 Y', .int .i64 D', .int .i64 R']] w fun e w' => e = .returned (.tuple #[.int .i64 (cmpW ⟨X, Y, D, R⟩ ⟨X', Y', D', R'⟩), .int .i64 (cmpE ⟨X, Y, D, R⟩ ⟨X', Y', D', R'⟩)]) ∧ Below w.heap.size w w' := by
  obtain ⟨V, hV, ra, rb, bV, hsz⟩ := two_start w 30 30 [.int .i64 X, .int .i64 Y, .int .i64 D, .int .i64 R] [.int .i64 X', .int .i64 Y', .int .i64 D', .int .i64 R']
  have HA := Lib.hid (fun W : World => CheckCircle_any X Y D R W)
  have HB := Lib.hid (fun W : World => CheckCircle_any X' Y' D' R' W)
  have HW := Lib.hid (fun (h1 : vaF ⟨X, Y, D, R⟩ = true) (h2 : vaF ⟨X', Y', D', R'⟩ = true) (W : World) => (by
    obtain ⟨hx, hy, hd, hr⟩ := vaF_cirB h1
    obtain ⟨hx', hy', hd', hr'⟩ := vaF_cirB h2
    dsimp only at hd hr hd' hr'
    obtain ⟨d, rfl⟩ := Int.eq_ofNat_of_zero_le (show 0 ≤ D by omega)
    obtain ⟨r, rfl⟩ := Int.eq_ofNat_of_zero_le (show 0 ≤ R by omega)
    obtain ⟨d', rfl⟩ := Int.eq_ofNat_of_zero_le (show 0 ≤ D' by omega)
    obtain ⟨r', rfl⟩ := Int.eq_ofNat_of_zero_le (show 0 ≤ R' by omega)
    exact compare_any X Y X' Y' d r d' r' W (by omega) (by omega) (by omega) (by omega) : Calls Try.prog 75 #[.agg #[.int .i64 X, .int .i64 Y, .int .i64 D, .int .i64 R], .agg #[.int .i64 X', .int .i64 Y', .int .i64 D', .int .i64 R']] W fun e w' => e = .returned (.int .i64 (cmpC D R D' R')) ∧ Below W.heap.size W w'))
  have HE := Lib.hid (show cmpE ⟨X, Y, D, R⟩ ⟨X', Y', D', R'⟩ = if vaF ⟨X, Y, D, R⟩ && vaF ⟨X', Y', D', R'⟩ then 0 else 1 from rfl)
  have HT := Lib.hid (show cmpW ⟨X, Y, D, R⟩ ⟨X', Y', D', R'⟩ = if vaF ⟨X, Y, D, R⟩ && vaF ⟨X', Y', D', R'⟩ then cmpC D R D' R' else 0 from rfl)
  have HCA := Lib.hid (show errC ⟨X, Y, D, R⟩ = if vaF ⟨X, Y, D, R⟩ = true then 0 else 1 from rfl)
  have HCB := Lib.hid (show errC ⟨X', Y', D', R'⟩ = if vaF ⟨X', Y', D', R'⟩ = true then 0 else 1 from rfl)
  generalize cmpE ⟨X, Y, D, R⟩ ⟨X', Y', D', R'⟩ = E at *
  generalize cmpW ⟨X, Y, D, R⟩ ⟨X', Y', D', R'⟩ = T at *
  generalize errC ⟨X, Y, D, R⟩ = C at *
  generalize errC ⟨X', Y', D', R'⟩ = C' at *
  generalize cmpC D R D' R' = M at *
  generalize vaF ⟨X, Y, D, R⟩ = va at *
  generalize vaF ⟨X', Y', D', R'⟩ = vb at *
  have RA := Lib.hid ra
  have RB := Lib.hid rb
  have BV := Lib.hid bV
  have k0 := ra.cell 0
  have k1 := ra.cell 1
  have k2 := ra.cell 2
  have k3 := ra.cell 3
  have d0 := rb.cell 0
  have d1 := rb.cell 1
  have d2 := rb.cell 2
  have d3 := rb.cell 3
  simp only [List.getElem?_cons_zero, List.getElem?_cons_succ] at k0 k1 k2 k3 d0 d1 d2 d3
  clear ra rb bV hsz
  go_enter Try.func31, Try.ntmps31
  go_wp2_with fail
  rw [← hV]
  clear hV
  go_wp2_with fail
  have hi0 : ∀ W : World, Sem.run Try.prog (Instr.index 102 (.agg #[.int .i64 X, .int .i64 Y, .int .i64 D, .int .i64 R, .int .i64 X', .int .i64 Y', .int .i64 D', .int .i64 R']) (.int .i64 0)) W = .ok (.agg #[.int .i64 X, .int .i64 Y, .int .i64 D, .int .i64 R]) W := fun W => by rfl
  have hi1 : ∀ W : World, Sem.run Try.prog (Instr.index 102 (.agg #[.int .i64 X, .int .i64 Y, .int .i64 D, .int .i64 R, .int .i64 X', .int .i64 Y', .int .i64 D', .int .i64 R']) (.int .i64 1)) W = .ok (.agg #[.int .i64 X', .int .i64 Y', .int .i64 D', .int .i64 R']) W := fun W => by rfl
  have FB := Lib.hid (Below.refl V.heap.size V)
  go_loopw [12] (fun kv wx => (kv = .int .i64 0 ∨ (kv = .int .i64 1 ∧ va = true) ∨ (kv = .int .i64 2 ∧ va = true ∧ vb = true)) ∧ Hid (Below V.heap.size V wx)) (fun kv _ => 2 - (intOf kv).toNat)
  case atStart => exact ⟨.inl rfl, FB⟩
  case round =>
    obtain ⟨hk3, HBX⟩ := hrel
    clear k0 k1 k2 k3 d0 d1 d2 d3
    rcases hk3 with rfl | ⟨rfl, rfl⟩ | ⟨rfl, rfl, rfl⟩
    · cases va with
      | false =>
        have e1 : C = 1 := HCA.out
        have e2 : E = 1 := HE.out
        have e3 : T = 0 := HT.out
        subst e1 e2 e3
        clear HE HT
        obtain ⟨b7, r7⟩ := box_start wr 30 [.int .i64 X, .int .i64 Y, .int .i64 D, .int .i64 R]
        have z0 := r7.cell 0
        have z1 := r7.cell 1
        have z2 := r7.cell 2
        have z3 := r7.cell 3
        simp only [List.getElem?_cons_zero, List.getElem?_cons_succ] at z0 z1 z2 z3
        have B7 := Lib.hid b7
        clear r7 b7
        go_wp2_with fail
        refine (HA.out _).mono ?_
        rintro e w1 ⟨rfl, hb⟩
        have BW := Lib.hid (Below.andThen HBX.out (Below.andThen B7.out hb (Nat.le_refl _)) (Nat.le_refl _))
        clear hb z0 z1 z2 z3 B7
        go_wp2_with fail
        exact bodyPost_ret (v := .tuple #[.int .i64 0, .int .i64 1]) (by simp [results, Try.results31, go_sem]) rfl ⟨rfl, Below.andThen BV.out BW.out (Nat.le_refl _)⟩
      | true =>
        have e1 : C = 0 := HCA.out
        subst e1
        obtain ⟨b7, r7⟩ := box_start wr 30 [.int .i64 X, .int .i64 Y, .int .i64 D, .int .i64 R]
        have z0 := r7.cell 0
        have z1 := r7.cell 1
        have z2 := r7.cell 2
        have z3 := r7.cell 3
        simp only [List.getElem?_cons_zero, List.getElem?_cons_succ] at z0 z1 z2 z3
        have B7 := Lib.hid b7
        clear r7 b7
        go_wp2_with fail
        refine (HA.out _).mono ?_
        rintro e w1 ⟨rfl, hb⟩
        have BW := Lib.hid (Below.andThen HBX.out (Below.andThen B7.out hb (Nat.le_refl _)) (Nat.le_refl _))
        clear hb z0 z1 z2 z3 B7
        go_wp2_with fail
        exact ⟨⟨.inr (.inl ⟨rfl, trivial⟩), Lib.hid BW.out⟩, by simp [intOf]⟩
    · cases vb with
      | false =>
        have e1 : C' = 1 := HCB.out
        have e2 : E = 1 := HE.out
        have e3 : T = 0 := HT.out
        subst e1 e2 e3
        clear HE HT
        obtain ⟨b7, r7⟩ := box_start wr 30 [.int .i64 X', .int .i64 Y', .int .i64 D', .int .i64 R']
        have z0 := r7.cell 0
        have z1 := r7.cell 1
        have z2 := r7.cell 2
        have z3 := r7.cell 3
        simp only [List.getElem?_cons_zero, List.getElem?_cons_succ] at z0 z1 z2 z3
        have B7 := Lib.hid b7
        clear r7 b7
        go_wp2_with fail
        refine (HB.out _).mono ?_
        rintro e w1 ⟨rfl, hb⟩
        have BW := Lib.hid (Below.andThen HBX.out (Below.andThen B7.out hb (Nat.le_refl _)) (Nat.le_refl _))
        clear hb z0 z1 z2 z3 B7
        go_wp2_with fail
        exact bodyPost_ret (v := .tuple #[.int .i64 0, .int .i64 1]) (by simp [results, Try.results31, go_sem]) rfl ⟨rfl, Below.andThen BV.out BW.out (Nat.le_refl _)⟩
      | true =>
        have e1 : C' = 0 := HCB.out
        subst e1
        obtain ⟨b7, r7⟩ := box_start wr 30 [.int .i64 X', .int .i64 Y', .int .i64 D', .int .i64 R']
        have z0 := r7.cell 0
        have z1 := r7.cell 1
        have z2 := r7.cell 2
        have z3 := r7.cell 3
        simp only [List.getElem?_cons_zero, List.getElem?_cons_succ] at z0 z1 z2 z3
        have B7 := Lib.hid b7
        clear r7 b7
        go_wp2_with fail
        refine (HB.out _).mono ?_
        rintro e w1 ⟨rfl, hb⟩
        have BW := Lib.hid (Below.andThen HBX.out (Below.andThen B7.out hb (Nat.le_refl _)) (Nat.le_refl _))
        clear hb z0 z1 z2 z3 B7
        go_wp2_with fail
        exact ⟨⟨.inr (.inr ⟨rfl, trivial, trivial⟩), Lib.hid BW.out⟩, by simp [intOf]⟩
    · have e2 : E = 0 := HE.out
      have e3 : T = M := HT.out
      subst e2 e3
      have qa := RA.out.below HBX.out RA.out.lt
      have qb := RB.out.below HBX.out RB.out.lt
      have k0 := qa.cell 0
      have k1 := qa.cell 1
      have k2 := qa.cell 2
      have k3 := qa.cell 3
      have d0 := qb.cell 0
      have d1 := qb.cell 1
      have d2 := qb.cell 2
      have d3 := qb.cell 3
      simp only [List.getElem?_cons_zero, List.getElem?_cons_succ] at k0 k1 k2 k3 d0 d1 d2 d3
      clear qa qb
      go_wp2_with fail
      refine (HW.out trivial trivial wr).mono ?_
      rintro e w1 ⟨rfl, hb⟩
      have BW := Lib.hid (Below.andThen BV.out (Below.andThen HBX.out hb (Nat.le_refl _)) (Nat.le_refl _))
      clear hb k0 k1 k2 k3 d0 d1 d2 d3
      go_wp2_with fail
      exact bodyPost_ret (v := .tuple #[.int .i64 T, .int .i64 0]) (by simp [results, Try.results31, go_sem]) rfl ⟨rfl, BW.out⟩
end Go.Proofs.Ytlemipnplgbckaa
namespace Go.Proofs.Ytlemipnplgbckaa
open Go.RowKit Go.Shelf
attribute [local go_sem] Oper.semAt_some
set_option maxRecDepth 100000 in
set_option maxHeartbeats 600000 in
theorem checkAll_err (ps : List Pt) (v : Value) (X Y D R : Int) (w : World) (hv : SlP w v ps) (hl : ps.length ≤ 1000000) (k : Int) (he : errP ps = k) (hk : k ≠ 0) :
    Calls Try.prog 56 #[v, .agg #[.int .i64 X, .int .i64 Y, .int .i64 D, .int .i64 R]] w fun e w' => e = .returned (.int .i64 k) ∧ Below w.heap.size w w' := by
  obtain ⟨ba, rb⟩ := box_start w 30 [.int .i64 X, .int .i64 Y, .int .i64 D, .int .i64 R]
  have HC := Lib.hid (Check_any ps v _ (hv.grow ba) hl)
  rw [he] at HC
  have hd : (k != 0) = true := by simp; exact hk
  obtain ⟨a, c, rfl, _⟩ := hv
  generalize ps.length = n at *
  have BA := Lib.hid ba
  clear ba rb he hl hk
  go_enter Try.func56, Try.ntmps56
  go_wp2_with fail
  refine HC.out.mono ?_
  rintro e w1 ⟨rfl, hb⟩
  have BB := Lib.hid (Below.andThen BA.out hb (Nat.le_refl _))
  clear hb HC BA
  go_wp2_with fail
  refine bodyPost_ret (v := .int .i64 k) (by simp [results, Try.results56, go_sem]) rfl ⟨rfl, BB.out⟩
set_option maxRecDepth 100000 in
set_option maxHeartbeats 600000 in
theorem IsSmallest_err (ps : List Pt) (v : Value) (X Y D R : Int) (w : World) (hv : SlP w v ps) (hl : ps.length ≤ 1000000) (k : Int) (he : errP ps = k) (hk : k ≠ 0) :
    Calls Try.prog 20 #[v, .agg #[.int .i64 X, .int .i64 Y, .int .i64 D, .int .i64 R]] w fun e w' => e = .returned (.tuple #[.bool false, .int .i64 k]) ∧ Below w.heap.size w w' := by
  obtain ⟨ba, rb⟩ := box_start w 30 [.int .i64 X, .int .i64 Y, .int .i64 D, .int .i64 R]
  have HC := Lib.hid (checkAll_err ps v X Y D R _ (hv.grow ba) hl k he hk)
  have hd : (k != 0) = true := by simp; exact hk
  obtain ⟨a, c, rfl, _⟩ := hv
  generalize ps.length = n at *
  have BA := Lib.hid ba
  have k0 := rb.cell 0
  have k1 := rb.cell 1
  have k2 := rb.cell 2
  have k3 := rb.cell 3
  simp only [List.getElem?_cons_zero, List.getElem?_cons_succ] at k0 k1 k2 k3
  clear ba rb he hl hk
  go_enter Try.func20, Try.ntmps20
  go_wp2_with fail
  refine HC.out.mono ?_
  rintro e w1 ⟨rfl, hb⟩
  have BB := Lib.hid (Below.andThen BA.out hb (Nat.le_refl _))
  clear hb HC BA k0 k1 k2 k3
  go_wp2_with fail
  refine bodyPost_ret (v := .tuple #[.bool false, .int .i64 k]) (by simp [results, Try.results20, go_sem]) rfl ⟨rfl, BB.out⟩
set_option maxRecDepth 100000 in
set_option maxHeartbeats 600000 in
theorem On_err (ps : List Pt) (v : Value) (X Y D R : Int) (w : World) (hv : SlP w v ps) (hl : ps.length ≤ 1000000) (k : Int) (he : errP ps = k) (hk : k ≠ 0) :
    Calls Try.prog 27 #[v, .agg #[.int .i64 X, .int .i64 Y, .int .i64 D, .int .i64 R]] w fun e w' => e = .returned (.tuple #[.slice none 0 0, .int .i64 k]) ∧ Below w.heap.size w w' := by
  obtain ⟨ba, rb⟩ := box_start w 30 [.int .i64 X, .int .i64 Y, .int .i64 D, .int .i64 R]
  have HC := Lib.hid (checkAll_err ps v X Y D R _ (hv.grow ba) hl k he hk)
  have hd : (k != 0) = true := by simp; exact hk
  obtain ⟨a, c, rfl, _⟩ := hv
  generalize ps.length = n at *
  have BA := Lib.hid ba
  have k0 := rb.cell 0
  have k1 := rb.cell 1
  have k2 := rb.cell 2
  have k3 := rb.cell 3
  simp only [List.getElem?_cons_zero, List.getElem?_cons_succ] at k0 k1 k2 k3
  clear ba rb he hl hk
  go_enter Try.func27, Try.ntmps27
  go_wp2_with fail
  refine HC.out.mono ?_
  rintro e w1 ⟨rfl, hb⟩
  have BB := Lib.hid (Below.andThen BA.out hb (Nat.le_refl _))
  clear hb HC BA k0 k1 k2 k3
  go_wp2_with fail
  refine bodyPost_ret (v := .tuple #[.slice none 0 0, .int .i64 k]) (by simp [results, Try.results27, go_sem]) rfl ⟨rfl, BB.out⟩
set_option maxRecDepth 100000 in
set_option maxHeartbeats 600000 in
theorem Force_err (ps : List Pt) (v : Value) (w : World) (hv : SlP w v ps) (hl : ps.length ≤ 1000000) (k : Int) (he : errP ps = k) (hk : k ≠ 0) :
    Calls Try.prog 21 #[v] w fun e w' => e = .returned (.tuple #[.slice none 0 0, .int .i64 k]) ∧ Below w.heap.size w w' := by
  have HC := Lib.hid (Check_any ps v w hv hl)
  rw [he] at HC
  have hd : (k != 0) = true := by simp; exact hk
  obtain ⟨a, c, rfl, _⟩ := hv
  generalize ps.length = n at *
  clear he hl hk
  go_enter Try.func21, Try.ntmps21
  go_wp2_with fail
  go_step3
  go_wp2_with fail
  refine HC.out.mono ?_
  rintro e w1 ⟨rfl, hb⟩
  have BB := Lib.hid hb
  clear hb HC
  go_wp2_with fail
  rw [Exit.noGoto_ret]
  refine bodyPost_ret (v := .tuple #[.slice none 0 0, .int .i64 k]) (by simp [results, Try.results21, go_sem]) rfl ⟨rfl, BB.out⟩
set_option maxRecDepth 100000 in
set_option maxHeartbeats 600000 in
theorem IsForce_err (ps : List Pt) (v u : Value) (w : World) (hv : SlP w v ps) (hl : ps.length ≤ 1000000) (k : Int) (he : errP ps = k) (hk : k ≠ 0) (zs : List Int) (hu : SlI w u zs) :
    Calls Try.prog 22 #[v, u] w fun e w' => e = .returned (.tuple #[.bool false, .int .i64 k]) ∧ Below w.heap.size w w' := by
  have HC := Lib.hid (Check_any ps v w hv hl)
  rw [he] at HC
  have hd : (k != 0) = true := by simp; exact hk
  obtain ⟨a, c, rfl, _⟩ := hv
  obtain ⟨a', c', rfl, _⟩ := hu
  generalize ps.length = n at *
  generalize zs.length = n' at *
  clear he hl hk
  go_enter Try.func22, Try.ntmps22
  go_wp2_with fail
  refine HC.out.mono ?_
  rintro e w1 ⟨rfl, hb⟩
  have BB := Lib.hid hb
  clear hb HC
  go_wp2_with fail
  refine bodyPost_ret (v := .tuple #[.bool false, .int .i64 k]) (by simp [results, Try.results22, go_sem]) rfl ⟨rfl, BB.out⟩
end Go.Proofs.Ytlemipnplgbckaa
namespace Go.Proofs.Ytlemipnplgbckaa
open Go.RowKit Go.Shelf
attribute [local go_sem] Oper.semAt_some
theorem pr_start (w : World) (v : Value) : ∃ V, V = ((w.alloc (.cells #[v] 22)).alloc (.cells #[.int .i64 0, .int .i64 0] 28)).alloc (.cells #[.int .i64 0, .int .i64 0] 28) ∧
    Row V w.heap.size 22 [v] ∧ Row V (w.heap.size + 1) 28 [.int .i64 0, .int .i64 0] ∧ Row V (w.heap.size + 1 + 1) 28 [.int .i64 0, .int .i64 0] ∧ Below w.heap.size w V := by
  obtain ⟨V1, hV, r1, r2, b1', hs⟩ := two_start w 22 28 [v] [.int .i64 0, .int .i64 0]
  obtain ⟨b2', r3⟩ := box_start V1 28 [.int .i64 0, .int .i64 0]
  exact ⟨V1.alloc (.cells [.int .i64 0, .int .i64 0].toArray 28), by rw [hV], r1.below b2' r1.lt, r2.below b2' r2.lt, by rw [← hs]; exact r3, Below.andThen b1' b2' (Nat.le_refl _)⟩
set_option maxRecDepth 100000 in
set_option maxHeartbeats 1000000 in
theorem Pairs_err (ps : List Pt) (v : Value) (w : World) (hv : SlP w v ps) (hl : ps.length ≤ 1000000) (k : Int) (he : errP ps = k) (hk : k ≠ 0) :
    Calls Try.prog 26 #[v] w fun e w' => e = .returned (.tuple #[.agg #[.int .i64 0, .int .i64 0], .agg #[.int .i64 0, .int .i64 0], .int .i64 k]) ∧ Below w.heap.size w w' := by
  obtain ⟨V, hV, r1, r2, r3, bV⟩ := pr_start w v
  have HC := Lib.hid (Check_any ps v V (hv.grow bV) hl)
  rw [he] at HC
  have hd : (k != 0) = true := by simp; exact hk
  obtain ⟨a, c, rfl, _⟩ := hv
  generalize ps.length = n at *
  have BV := Lib.hid bV
  have R2 := Lib.hid r2
  have R3 := Lib.hid r3
  have k0 := r1.cell 0
  simp only [List.getElem?_cons_zero] at k0
  clear r1 r2 r3 bV he hl hk
  refine callsIn_wide.1 (callsIn_of_wp_marks (F := Fence.wide) (n := 4) Try.func26 rfl trivial ?_ rfl)
  simp only [Try.ntmps26, List.size_toArray, List.length_cons, List.length_nil, Nat.reduceAdd, Nat.reduceSub, Array.replicate_succ, Array.replicate_zero, List.push_toArray, List.append_toArray, List.nil_append, List.cons_append]
  gi_wp2_with fail
  rw [← hV]
  refine ⟨trivial, (callsIn_wide.2 HC.out).mono ?_⟩
  rintro e w1 ⟨rfl, hb⟩
  have BB := Lib.hid (Below.andThen BV.out hb (Nat.le_refl _))
  have R21 := Lib.hid (R2.out.below hb R2.out.lt)
  have R31 := Lib.hid (R3.out.below hb R3.out.lt)
  clear hb HC k0 hV BV R2 R3
  have q2 := R21.out
  have q3 := R31.out
  have s0 := q2.cell 0
  have s1 := q2.cell 1
  have t0 := q3.cell 0
  have t1 := q3.cell 1
  have f0 := frozen_of_row _ (w.heap.size + 1) 0 _ _ q2
  have f1 := frozen_of_row _ (w.heap.size + 1) 1 _ _ q2
  have g0 := frozen_of_row _ (w.heap.size + 1 + 1) 0 _ _ q3
  have g1 := frozen_of_row _ (w.heap.size + 1 + 1) 1 _ _ q3
  simp only [List.getElem?_cons_zero, List.getElem?_cons_succ] at s0 s1 t0 t1
  clear q2 q3
  gi_wp2_with fail
  have hw : Below w.heap.size w ((((w1.setCell ⟨w.heap.size + 1, 0, none⟩ (.int .i64 0)).setCell ⟨w.heap.size + 1, 1, none⟩ (.int .i64 0)).setCell ⟨w.heap.size + 1 + 1, 0, none⟩ (.int .i64 0)).setCell ⟨w.heap.size + 1 + 1, 1, none⟩ (.int .i64 0)) :=
    (((BB.out.setCell (p := ⟨w.heap.size + 1, 0, none⟩) (by dsimp only; omega) _).setCell (p := ⟨w.heap.size + 1, 1, none⟩) (by dsimp only; omega) _).setCell (p := ⟨w.heap.size + 1 + 1, 0, none⟩) (by dsimp only; omega) _).setCell (p := ⟨w.heap.size + 1 + 1, 1, none⟩) (by dsimp only; omega) _
  have hr2 := ((((R21.out.set 0 (.int .i64 0)).set 1 (.int .i64 0)).other 0 (.int .i64 0) (show w.heap.size + 1 ≠ w.heap.size + 1 + 1 by omega)).other 1 (.int .i64 0) (show w.heap.size + 1 ≠ w.heap.size + 1 + 1 by omega))
  have hr3 := ((((R31.out.other 0 (.int .i64 0) (show w.heap.size + 1 + 1 ≠ w.heap.size + 1 by omega)).other 1 (.int .i64 0) (show w.heap.size + 1 + 1 ≠ w.heap.size + 1 by omega)).set 0 (.int .i64 0)).set 1 (.int .i64 0))
  simp only [List.set_cons_zero, List.set_cons_succ] at hr2 hr3
  refine leaves_marks (B := w.heap.size) (fun X => Below w.heap.size w X ∧ (Row X (w.heap.size + 1) 28 [.int .i64 0, .int .i64 0] ∧ Row X (w.heap.size + 1 + 1) 28 [.int .i64 0, .int .i64 0])) ((lasts_below _ _ _ (Nat.le_refl _) (Nat.le_refl _)).and ((lasts_row _ _ _ _).and (lasts_row _ _ _ _))) ?_ [] _ (marks_nil _ _) ⟨hw, hr2, hr3⟩
  rintro X ⟨hX, x2, x3⟩
  have v0 := x2.cell 0
  have v1 := x2.cell 1
  have u0 := x3.cell 0
  have u1 := x3.cell 1
  simp only [List.getElem?_cons_zero, List.getElem?_cons_succ] at v0 v1 u0 u1
  refine ⟨.tuple #[.agg #[.int .i64 0, .int .i64 0], .agg #[.int .i64 0, .int .i64 0], .int .i64 k], ?_, rfl, hX⟩
  simp [results, Try.results26, go_sem, v0, v1, u0, u1]
end Go.Proofs.Ytlemipnplgbckaa
