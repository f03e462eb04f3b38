import Derived.Test.YtlemipnplgbckaaPV
import Derived.Test.YtlemipnplgbckaaPQ
import Derived.Laws.AppendOwn
import Derived.ChangeKeysEq
import Derived.Maps.RangeWalk
import Derived.Maps.OwnIn
import Derived.Maps.AppendAt
import Derived.RangeFuncNested
import Derived.RangeFuncBound
import Derived.RangeFuncCalls
import Derived.RangeFuncLeaves
import Derived.Shelf.Abstract
import Derived.Shelf.RegionOpen
import Derived.WalkKit
import Derived.WalkMore
import Derived.OwnWalkIn
import Derived.TacticsInMore
import Derived.LoopNIn
import Derived.LoopIn
import Derived.WalkSpells
import Derived.WalkLawsBesides
import Derived.BigQuiet
import Derived.Deep.QuietTactic
import Derived.Lib.Hide
import Derived.Deep.RegionHeld3
import Derived.StillTailTactics
import Derived.Deep.LoopGhost
import Derived.Maps.OwnSet
import Derived.Lib.IndexAny
import Derived.Sort.QuietThIn
import Derived.Sort.QuietTacIn
import Derived.Sort.BigQuietIn
import Derived.Laws.OwnMore
import Derived.DeepKeys4
import Derived.Maps.Views
import Derived.Maps.OwnOps
import Derived.Laws.OwnMore
import Derived.Deep.DeepCutAuto
import Derived.ChangeKeysEq
namespace Go.Proofs.Ytlemipnplgbckaa
open Go.RowKit Go.Shelf
attribute [local go_sem] Oper.semAt_some
theorem w64 {a b : Int} (h : IntKind.i64.wrap a = b) : wrap64 a = b := by rw [← IntWalk.i64_left]; exact h
set_option maxRecDepth 100000 in
set_option maxHeartbeats 1000000 in
theorem rround_any (x y d px py : Int) (w : World) (h1 : Bd 1000000 x) (h2 : Bd 1000000 y) (h3 : Bd 1000000 d) (h0 : d ≠ 0) (h4 : Bd 20 px) (h5 : Bd 20 py) :
    Calls Try.prog 77 #[.int .i64 x, .int .i64 y, .int .i64 d, .agg #[.int .i64 px, .int .i64 py]] w fun e w' => e = .returned (rndC x y d (px, py)).V ∧ Below w.heap.size w w' := by
  obtain ⟨hg0, hgn⟩ := gS_ne (x := x) (y := y) h0
  obtain ⟨V0, hV, rP, rR, bV, hs⟩ := two_start w 28 46 [.int .i64 px, .int .i64 py] [.int .i64 0, .int .i64 0, .int .i64 0, .int .i64 0]
  have RP := Lib.hid rP
  have RR := Lib.hid rR
  have BV := Lib.hid bV
  have HX : Bd 1000000 (rX x y d) := h1.tdiv
  have HY : Bd 1000000 (rY x y d) := h2.tdiv
  have HD : Bd 1000000 (rD x y d) := h3.tdiv
  have hgb : gcdL 0 [x, y, d] ≤ 1000000 := by
    rw [gcdL3]
    have h := Nat.gcd_le_right (m := Nat.gcd x.natAbs y.natAbs) (n := d.natAbs) (by omega)
    unfold Bd at h3
    omega
  have hG1 : Nat.gcd x.natAbs y.natAbs ≤ 1000000 := by
    unfold Bd at h1 h2
    by_cases hx : x = 0
    · subst hx; simp; omega
    · have h := Nat.gcd_le_left (m := x.natAbs) y.natAbs (by omega)
      omega
  have HS1 := Lib.hid (fun (W : World) (x' y' : Int) (hx : x'.natAbs = x.natAbs) (hy : y'.natAbs = y.natAbs) => (by
    have := rgcd_any x' y' W (by unfold Bd at *; omega) (by unfold Bd at *; omega)
    rwa [hx, hy] at this : Calls Try.prog 73 #[.int .i64 x', .int .i64 y'] W fun e w' => e = .returned (.int .i64 (Nat.gcd x.natAbs y.natAbs : Nat)) ∧ Below W.heap.size W w'))
  have HS2 := Lib.hid (fun (W : World) (d' : Int) (hd : d'.natAbs = d.natAbs) => (by
    have := rgcd_any (Nat.gcd x.natAbs y.natAbs : Nat) d' W (by unfold Bd; omega) (by unfold Bd at *; omega)
    rwa [Int.natAbs_natCast, hd, ← gcdL3] at this : Calls Try.prog 73 #[.int .i64 (Nat.gcd x.natAbs y.natAbs : Nat), .int .i64 d'] W fun e w' => e = .returned (.int .i64 (gcdL 0 [x, y, d] : Nat)) ∧ Below W.heap.size W w'))
  have HN := Lib.hid (rnd_neg x y d)
  have HP := Lib.hid (rnd_pos x y d)
  have HV : (rndC x y d (px, py)).V = cirV (rX x y d) (rY x y d) (rD x y d) (apF (rX x y d) (rY x y d) (rD x y d) (px, py)) := rfl
  have HA := ap_alt (rX x y d) (rY x y d) (rD x y d) px py
  rw [HV, ← HA]
  clear HV HA
  generalize rX x y d = X at *
  generalize rY x y d = Y at *
  generalize rD x y d = D at *
  generalize gcdL 0 [x, y, d] = g at *
  generalize Nat.gcd x.natAbs y.natAbs = g1 at *
  have kx := i64_bd HX (by omega)
  have ky := i64_bd HY (by omega)
  have kd := i64_bd HD (by omega)
  have n1 : IntKind.i64.wrap (-x) = -x := i64_bd h1.neg (by omega)
  have n2 : IntKind.i64.wrap (-y) = -y := i64_bd h2.neg (by omega)
  have n3 : IntKind.i64.wrap (-d) = -d := i64_bd h3.neg (by omega)
  obtain ⟨PD, hPD⟩ : ∃ t, px * D = t := ⟨_, rfl⟩
  obtain ⟨QD, hQD⟩ : ∃ t, py * D = t := ⟨_, rfl⟩
  have bPD := h4.mul HD
  have bQD := h5.mul HD
  have e1 : IntKind.i64.wrap (px * D) = PD := by rw [i64_bd bPD (by omega)]; exact hPD
  have e2 : IntKind.i64.wrap (py * D) = QD := by rw [i64_bd bQD (by omega)]; exact hQD
  rw [hPD] at bPD ⊢
  rw [hQD] at bQD ⊢
  obtain ⟨U, hU⟩ : ∃ t, X - PD = t := ⟨_, rfl⟩
  obtain ⟨Z, hZ⟩ : ∃ t, Y - QD = t := ⟨_, rfl⟩
  have bU := HX.sub bPD
  have bZ := HY.sub bQD
  have e3 : IntKind.i64.wrap (X - PD) = U := by rw [i64_bd bU (by omega)]; exact hU
  have e4 : IntKind.i64.wrap (Y - QD) = Z := by rw [i64_bd bZ (by omega)]; exact hZ
  rw [hU] at bU ⊢
  rw [hZ] at bZ ⊢
  obtain ⟨UU, hUU⟩ : ∃ t, U * U = t := ⟨_, rfl⟩
  obtain ⟨ZZ, hZZ⟩ : ∃ t, Z * Z = t := ⟨_, rfl⟩
  have bUU := bU.mul bU
  have bZZ := bZ.mul bZ
  have e5 : IntKind.i64.wrap (U * U) = UU := by rw [i64_bd bUU (by omega)]; exact hUU
  have e6 : IntKind.i64.wrap (Z * Z) = ZZ := by rw [i64_bd bZZ (by omega)]; exact hZZ
  rw [hUU] at bUU ⊢
  rw [hZZ] at bZZ ⊢
  obtain ⟨R, hR⟩ : ∃ t, UU + ZZ = t := ⟨_, rfl⟩
  have e7 : IntKind.i64.wrap (UU + ZZ) = R := by rw [i64_bd (bUU.add bZZ) (by omega)]; exact hR
  rw [hR]
  have HE := Lib.hid (And.intro e1 (And.intro e2 (And.intro e3 (And.intro e4 (And.intro e5 (And.intro e6 e7))))))
  have HK := Lib.hid (And.intro kx (And.intro ky kd))
  have HNE := Lib.hid (And.intro n1 (And.intro n2 n3))
  have HGN := Lib.hid (show ¬ ((g : Int) = 0) by omega)
  clear hPD hQD bPD bQD hU hZ bU bZ hUU hZZ bUU bZZ hR e1 e2 e3 e4 e5 e6 e7 kx ky kd n1 n2 n3 rP rR bV hs h1 h2 h3 h4 h5 hg0 hgn HX HY HD hgb hG1
  unfold cirV
  have hws : w.heap.size + 1 < V0.heap.size := RR.out.lt
  have HWS := Lib.hid hws
  clear hws
  by_cases hneg : d < 0
  · have hd : decide (d < 0) = true := decide_eq_true hneg
    obtain ⟨n1, n2, n3⟩ := HNE.out
    obtain ⟨r1, r2, r3⟩ := HN.out hneg
    have HQ := Lib.hid (show IntKind.i64.wrap ((-x).tdiv (g : Int)) = X ∧ IntKind.i64.wrap ((-y).tdiv (g : Int)) = Y ∧ IntKind.i64.wrap ((-d).tdiv (g : Int)) = D by
      rw [← r1, ← r2, ← r3]; exact HK.out)
    clear r1 r2 r3 HK
    go_enter Try.func77, Try.ntmps77
    go_wp2_with fail
    rw [show (w.alloc (.cells #[.int .i64 px, .int .i64 py] 28)).alloc (.cells #[.int .i64 0, .int .i64 0, .int .i64 0, .int .i64 0] 46) = V0 from hV.symm]
    refine (HS1.out V0 (-x) (-y) (Int.natAbs_neg _) (Int.natAbs_neg _)).mono ?_
    rintro e w1 ⟨rfl, hb1⟩
    have B1 := Lib.hid hb1
    clear hb1 HS1
    go_wp2_with fail
    refine (HS2.out w1 (-d) (Int.natAbs_neg _)).mono ?_
    rintro e w2 ⟨rfl, hb2⟩
    have B2 := Lib.hid (Below.andThen B1.out hb2 (Nat.le_refl _))
    have RP2 := Lib.hid (RP.out.below B2.out RP.out.lt)
    have RR2 := Lib.hid (RR.out.below B2.out RR.out.lt)
    clear hb2 HS2 B1
    go_wp2_with fail
    refine wp_region_box (by kernel_rfl) (by kernel_rfl) [26, 27, 28, 29, 30, 31, 32, 33, 34, 35, 10, 1000] [(fun v => v = .int .i64 (-x)), (fun v => v = .int .i64 (g : Int)), (fun v => v = .int .i64 X), (fun v => v = .int .i64 (-y)), (fun v => v = .int .i64 (g : Int)), (fun v => v = .int .i64 Y), (fun v => v = .int .i64 (-d)), (fun v => v = .int .i64 (g : Int)), (fun v => v = .int .i64 D), (fun v => v = .agg #[.int .i64 X, .int .i64 Y, .int .i64 D, .int .i64 0]), (fun _ => True), (fun _ => True)] [none, none, none, none, none, none, none, none, none, none, some (46, [.int .i64 0, .int .i64 0, .int .i64 0, .int .i64 0], [.int .i64 X, .int .i64 Y, .int .i64 D, .int .i64 0]), none] [none, none, none, none, none, none, none, none, none, none, none, some 10] 12 rfl (by kernel_rfl) ?tr ⟨[undef, undef, undef, undef, undef, undef, undef, undef, undef, undef, undef, undef], by simp only [putAll, Act.put, List.setIfInBounds_toArray, List.set_cons_succ, List.set_cons_zero, List.set_nil], rfl⟩ ?steps ?fin
    case tr =>
      rintro i v h
      rcases i with _ | _ | _ | _ | _ | _ | _ | _ | _ | _ | _ | _ | i
      all_goals first | trivial | (exfalso; rcases h with h | h <;> simp at h)
    case steps =>
      simp only [boxSteps, Nat.reduceAdd, Nat.zero_add, List.getD_cons_succ, List.getD_cons_zero]
      refine ⟨?_, ?_, ?_, ?_, ?_, ?_, ?_, ?_, ?_, ?_, ?_, ?_, trivial⟩
      · rintro vs W K hc hvl hw hK
        obtain ⟨x0, x1, x2, x3, x4, x5, x6, x7, x8, x9, x10, x11, rfl⟩ := len12 hvl
        have HK := Lib.hid hK
        have HC := Lib.hid hc
        have HW := Lib.hid hw
        clear hK hc hw hvl
        simp only [putAll, Act.put, List.setIfInBounds_toArray, List.set_cons_succ, List.set_cons_zero, List.set_nil]
        clear HW
        go_wp2_with fail
        have fin := HK.out (.int .i64 (-x)) W (Below.refl _ _) rfl
        simp only [putAll, Act.put, List.setIfInBounds_toArray, List.set_cons_succ, List.set_cons_zero, List.set_nil] at fin
        exact fin
      · rintro vs W K hc hvl hw hK
        obtain ⟨x0, x1, x2, x3, x4, x5, x6, x7, x8, x9, x10, x11, rfl⟩ := len12 hvl
        have HK := Lib.hid hK
        have HC := Lib.hid hc
        have HW := Lib.hid hw
        clear hK hc hw hvl
        simp only [putAll, Act.put, List.setIfInBounds_toArray, List.set_cons_succ, List.set_cons_zero, List.set_nil]
        clear HW
        go_wp2_with fail
        have fin := HK.out (.int .i64 (g : Int)) W (Below.refl _ _) rfl
        simp only [putAll, Act.put, List.setIfInBounds_toArray, List.set_cons_succ, List.set_cons_zero, List.set_nil] at fin
        exact fin
      · rintro vs W K hc hvl hw hK
        obtain ⟨x0, x1, x2, x3, x4, x5, x6, x7, x8, x9, x10, x11, rfl⟩ := len12 hvl
        have HK := Lib.hid hK
        have HC := Lib.hid hc
        have HW := Lib.hid hw
        clear hK hc hw hvl
        obtain rfl : x0 = .int .i64 (-x) := box_get (HW.out ⟨0, .data⟩ (by simp) rfl) rfl
        obtain rfl : x1 = .int .i64 (g : Int) := box_get (HW.out ⟨1, .data⟩ (by simp) rfl) rfl
        simp only [putAll, Act.put, List.setIfInBounds_toArray, List.set_cons_succ, List.set_cons_zero, List.set_nil]
        obtain ⟨k1, k2, k3⟩ := HQ.out
        have k1w := w64 k1
        have k2w := w64 k2
        have k3w := w64 k3
        have hgn := HGN.out
        rw [Int.neg_tdiv] at k1 k2 k3 k1w k2w k3w
        clear HW
        go_wp2_with fail
        have fin := HK.out (.int .i64 X) W (Below.refl _ _) rfl
        simp only [putAll, Act.put, List.setIfInBounds_toArray, List.set_cons_succ, List.set_cons_zero, List.set_nil] at fin
        exact fin
      · rintro vs W K hc hvl hw hK
        obtain ⟨x0, x1, x2, x3, x4, x5, x6, x7, x8, x9, x10, x11, rfl⟩ := len12 hvl
        have HK := Lib.hid hK
        have HC := Lib.hid hc
        have HW := Lib.hid hw
        clear hK hc hw hvl
        simp only [putAll, Act.put, List.setIfInBounds_toArray, List.set_cons_succ, List.set_cons_zero, List.set_nil]
        clear HW
        go_wp2_with fail
        have fin := HK.out (.int .i64 (-y)) W (Below.refl _ _) rfl
        simp only [putAll, Act.put, List.setIfInBounds_toArray, List.set_cons_succ, List.set_cons_zero, List.set_nil] at fin
        exact fin
      · rintro vs W K hc hvl hw hK
        obtain ⟨x0, x1, x2, x3, x4, x5, x6, x7, x8, x9, x10, x11, rfl⟩ := len12 hvl
        have HK := Lib.hid hK
        have HC := Lib.hid hc
        have HW := Lib.hid hw
        clear hK hc hw hvl
        simp only [putAll, Act.put, List.setIfInBounds_toArray, List.set_cons_succ, List.set_cons_zero, List.set_nil]
        clear HW
        go_wp2_with fail
        have fin := HK.out (.int .i64 (g : Int)) W (Below.refl _ _) rfl
        simp only [putAll, Act.put, List.setIfInBounds_toArray, List.set_cons_succ, List.set_cons_zero, List.set_nil] at fin
        exact fin
      · rintro vs W K hc hvl hw hK
        obtain ⟨x0, x1, x2, x3, x4, x5, x6, x7, x8, x9, x10, x11, rfl⟩ := len12 hvl
        have HK := Lib.hid hK
        have HC := Lib.hid hc
        have HW := Lib.hid hw
        clear hK hc hw hvl
        obtain rfl : x3 = .int .i64 (-y) := box_get (HW.out ⟨3, .data⟩ (by simp) rfl) rfl
        obtain rfl : x4 = .int .i64 (g : Int) := box_get (HW.out ⟨4, .data⟩ (by simp) rfl) rfl
        simp only [putAll, Act.put, List.setIfInBounds_toArray, List.set_cons_succ, List.set_cons_zero, List.set_nil]
        obtain ⟨k1, k2, k3⟩ := HQ.out
        have k1w := w64 k1
        have k2w := w64 k2
        have k3w := w64 k3
        have hgn := HGN.out
        rw [Int.neg_tdiv] at k1 k2 k3 k1w k2w k3w
        clear HW
        go_wp2_with fail
        have fin := HK.out (.int .i64 Y) W (Below.refl _ _) rfl
        simp only [putAll, Act.put, List.setIfInBounds_toArray, List.set_cons_succ, List.set_cons_zero, List.set_nil] at fin
        exact fin
      · rintro vs W K hc hvl hw hK
        obtain ⟨x0, x1, x2, x3, x4, x5, x6, x7, x8, x9, x10, x11, rfl⟩ := len12 hvl
        have HK := Lib.hid hK
        have HC := Lib.hid hc
        have HW := Lib.hid hw
        clear hK hc hw hvl
        simp only [putAll, Act.put, List.setIfInBounds_toArray, List.set_cons_succ, List.set_cons_zero, List.set_nil]
        clear HW
        go_wp2_with fail
        have fin := HK.out (.int .i64 (-d)) W (Below.refl _ _) rfl
        simp only [putAll, Act.put, List.setIfInBounds_toArray, List.set_cons_succ, List.set_cons_zero, List.set_nil] at fin
        exact fin
      · rintro vs W K hc hvl hw hK
        obtain ⟨x0, x1, x2, x3, x4, x5, x6, x7, x8, x9, x10, x11, rfl⟩ := len12 hvl
        have HK := Lib.hid hK
        have HC := Lib.hid hc
        have HW := Lib.hid hw
        clear hK hc hw hvl
        simp only [putAll, Act.put, List.setIfInBounds_toArray, List.set_cons_succ, List.set_cons_zero, List.set_nil]
        clear HW
        go_wp2_with fail
        have fin := HK.out (.int .i64 (g : Int)) W (Below.refl _ _) rfl
        simp only [putAll, Act.put, List.setIfInBounds_toArray, List.set_cons_succ, List.set_cons_zero, List.set_nil] at fin
        exact fin
      · rintro vs W K hc hvl hw hK
        obtain ⟨x0, x1, x2, x3, x4, x5, x6, x7, x8, x9, x10, x11, rfl⟩ := len12 hvl
        have HK := Lib.hid hK
        have HC := Lib.hid hc
        have HW := Lib.hid hw
        clear hK hc hw hvl
        obtain rfl : x6 = .int .i64 (-d) := box_get (HW.out ⟨6, .data⟩ (by simp) rfl) rfl
        obtain rfl : x7 = .int .i64 (g : Int) := box_get (HW.out ⟨7, .data⟩ (by simp) rfl) rfl
        simp only [putAll, Act.put, List.setIfInBounds_toArray, List.set_cons_succ, List.set_cons_zero, List.set_nil]
        obtain ⟨k1, k2, k3⟩ := HQ.out
        have k1w := w64 k1
        have k2w := w64 k2
        have k3w := w64 k3
        have hgn := HGN.out
        rw [Int.neg_tdiv] at k1 k2 k3 k1w k2w k3w
        clear HW
        go_wp2_with fail
        have fin := HK.out (.int .i64 D) W (Below.refl _ _) rfl
        simp only [putAll, Act.put, List.setIfInBounds_toArray, List.set_cons_succ, List.set_cons_zero, List.set_nil] at fin
        exact fin
      · rintro vs W K hc hvl hw hK
        obtain ⟨x0, x1, x2, x3, x4, x5, x6, x7, x8, x9, x10, x11, rfl⟩ := len12 hvl
        have HK := Lib.hid hK
        have HC := Lib.hid hc
        have HW := Lib.hid hw
        clear hK hc hw hvl
        obtain rfl : x2 = .int .i64 X := box_get (HW.out ⟨2, .data⟩ (by simp) rfl) rfl
        obtain rfl : x5 = .int .i64 Y := box_get (HW.out ⟨5, .data⟩ (by simp) rfl) rfl
        obtain rfl : x8 = .int .i64 D := box_get (HW.out ⟨8, .data⟩ (by simp) rfl) rfl
        simp only [putAll, Act.put, List.setIfInBounds_toArray, List.set_cons_succ, List.set_cons_zero, List.set_nil]
        clear HW
        go_wp2_with fail
        have fin := HK.out (.agg #[.int .i64 X, .int .i64 Y, .int .i64 D, .int .i64 0]) W (Below.refl _ _) rfl
        simp only [putAll, Act.put, List.setIfInBounds_toArray, List.set_cons_succ, List.set_cons_zero, List.set_nil] at fin
        exact fin
      · rintro vs W K hc hvl hw hK
        obtain ⟨x0, x1, x2, x3, x4, x5, x6, x7, x8, x9, x10, x11, rfl⟩ := len12 hvl
        have HK := Lib.hid hK
        have HC := Lib.hid hc
        have HW := Lib.hid hw
        clear hK hc hw hvl
        simp only [putAll, Act.put, List.setIfInBounds_toArray, List.set_cons_succ, List.set_cons_zero, List.set_nil]
        clear HW
        go_wp2_with fail
        have fin := HK.out
        simp only [putAll, Act.put, List.setIfInBounds_toArray, List.set_cons_succ, List.set_cons_zero, List.set_nil] at fin
        exact fin
      · rintro vs W K hc hvl hw b E z f hia hva hb0 hr hK
        cases hia
        obtain ⟨x0, x1, x2, x3, x4, x5, x6, x7, x8, x9, x10, x11, rfl⟩ := len12 hvl
        have HK := Lib.hid hK
        have HC := Lib.hid hc
        have HW := Lib.hid hw
        clear hK hc hw hvl
        obtain rfl : x9 = .agg #[.int .i64 X, .int .i64 Y, .int .i64 D, .int .i64 0] := box_get (HW.out ⟨9, .data⟩ (by simp) rfl) rfl
        obtain rfl : x10 = .pointer (some ⟨b, 0, none⟩) := Option.some.inj hva
        simp only [putAll, Act.put, List.setIfInBounds_toArray, List.set_cons_succ, List.set_cons_zero, List.set_nil]
        have kf0 := frozen_of_row W b 0 _ _ hr
        have kc0 : W.cell? ⟨b, 0, none⟩ = some (.int .i64 0) := hr.cell 0
        have kf1 := frozen_of_row W b 1 _ _ hr
        have kc1 : W.cell? ⟨b, 1, none⟩ = some (.int .i64 0) := hr.cell 1
        have kf2 := frozen_of_row W b 2 _ _ hr
        have kc2 : W.cell? ⟨b, 2, none⟩ = some (.int .i64 0) := hr.cell 2
        have kf3 := frozen_of_row W b 3 _ _ hr
        have kc3 : W.cell? ⟨b, 3, none⟩ = some (.int .i64 0) := hr.cell 3
        have HRW := Lib.hid hr
        clear HW hr hva
        go_wp2_with fail
        have fin := HK.out _ (show Row _ b 46 [.int .i64 X, .int .i64 Y, .int .i64 D, .int .i64 0] from by simpa using (show Row _ b 46 _ from ((((HRW.out.set 0 (.int .i64 X)).set 1 (.int .i64 Y)).set 2 (.int .i64 D)).set 3 (.int .i64 0)))) (grown_put (grown_put (grown_put (grown_put (grown_self W _)))))
        simp only [putAll, Act.put, List.setIfInBounds_toArray, List.set_cons_succ, List.set_cons_zero, List.set_nil] at fin
        exact fin
    case fin =>
      rintro vs W hJ
      obtain ⟨x0, x1, x2, x3, x4, x5, x6, x7, x8, x9, x10, x11, rfl⟩ := len12 hJ.ln
      obtain rfl : x0 = .int .i64 (-x) := box_get (hJ.val 0 rfl) rfl
      obtain rfl : x1 = .int .i64 (g : Int) := box_get (hJ.val 1 rfl) rfl
      obtain rfl : x2 = .int .i64 X := box_get (hJ.val 2 rfl) rfl
      obtain rfl : x3 = .int .i64 (-y) := box_get (hJ.val 3 rfl) rfl
      obtain rfl : x4 = .int .i64 (g : Int) := box_get (hJ.val 4 rfl) rfl
      obtain rfl : x5 = .int .i64 Y := box_get (hJ.val 5 rfl) rfl
      obtain rfl : x6 = .int .i64 (-d) := box_get (hJ.val 6 rfl) rfl
      obtain rfl : x7 = .int .i64 (g : Int) := box_get (hJ.val 7 rfl) rfl
      obtain rfl : x8 = .int .i64 D := box_get (hJ.val 8 rfl) rfl
      obtain rfl : x9 = .agg #[.int .i64 X, .int .i64 Y, .int .i64 D, .int .i64 0] := box_get (hJ.val 9 rfl) rfl
      obtain ⟨b10, e10, hb10, hr10⟩ := hJ.box 10 _ _ _ rfl rfl
      obtain rfl : x10 = .pointer (some ⟨b10, 0, none⟩) := Option.some.inj e10
      replace hr10 : Row W b10 46 [.int .i64 X, .int .i64 Y, .int .i64 D, .int .i64 0] := hr10
      have HR10 := Lib.hid hr10
      clear e10 hr10
      have HC := Lib.hid hJ.bl
      clear hJ
      simp only [putAll, Act.put, List.setIfInBounds_toArray, List.set_cons_succ, List.set_cons_zero, List.set_nil]
      have RP3 := Lib.hid (RP2.out.below HC.out RP2.out.lt)
      have RR3 := Lib.hid (RR2.out.below HC.out RR2.out.lt)
      have B3 := Lib.hid (Below.andThen B2.out HC.out (Nat.le_refl _))
      have HB10 := Lib.hid (show w.heap.size + 1 < b10 by have h1 := hb10; have h2 := B2.out.size; have h3 := HWS.out; omega)
      clear hb10
      clear HC RP2 RR2 B2 HQ
      go_wp2_with fail
      refine wp_region_box (by kernel_rfl) (by kernel_rfl) [36, 37, 38, 39, 40, 41, 42, 43, 44, 45, 46, 47, 48, 49, 50, 51, 11, 12] [(fun v => v = .pointer (some ⟨b10, 0, none⟩)), (fun v => v = .int .i64 X), (fun v => v = .pointer (some ⟨w.heap.size, 0, none⟩)), (fun v => v = .int .i64 px), (fun v => v = .pointer (some ⟨b10, 2, none⟩)), (fun v => v = .int .i64 D), (fun v => v = .int .i64 PD), (fun v => v = .int .i64 U), (fun v => v = .pointer (some ⟨b10, 1, none⟩)), (fun v => v = .int .i64 Y), (fun v => v = .pointer (some ⟨w.heap.size, 1, none⟩)), (fun v => v = .int .i64 py), (fun v => v = .pointer (some ⟨b10, 2, none⟩)), (fun v => v = .int .i64 D), (fun v => v = .int .i64 QD), (fun v => v = .int .i64 Z), (fun v => v = .int .i64 U), (fun v => v = .int .i64 Z)] [none, none, none, none, none, none, none, none, none, none, none, none, none, none, none, none, none, none] [none, none, none, none, none, none, none, none, none, none, none, none, none, none, none, none, none, none] 18 rfl (by kernel_rfl) ?tr ⟨[undef, undef, undef, undef, undef, undef, undef, undef, undef, undef, undef, undef, undef, undef, undef, undef, undef, undef], by simp only [putAll, Act.put, List.setIfInBounds_toArray, List.set_cons_succ, List.set_cons_zero], rfl⟩ ?steps ?fin
      case tr =>
        rintro i v h
        rcases i with _ | _ | _ | _ | _ | _ | _ | _ | _ | _ | _ | _ | _ | _ | _ | _ | _ | _ | i
        all_goals first | trivial | (exfalso; rcases h with h | h <;> simp at h)
      case steps =>
        simp only [boxSteps, Nat.reduceAdd, Nat.zero_add, List.getD_cons_succ, List.getD_cons_zero]
        refine ⟨?_, ?_, ?_, ?_, ?_, ?_, ?_, ?_, ?_, ?_, ?_, ?_, ?_, ?_, ?_, ?_, ?_, ?_, trivial⟩
        · rintro vs W K hc hvl hw hK
          obtain ⟨x0, x1, x2, x3, x4, x5, x6, x7, x8, x9, x10, x11, x12, x13, x14, x15, x16, x17, rfl⟩ := len18 hvl
          have HK := Lib.hid hK
          have HC := Lib.hid hc
          have HW := Lib.hid hw
          clear hK hc hw hvl
          simp only [putAll, Act.put, List.setIfInBounds_toArray, List.set_cons_succ, List.set_cons_zero]
          clear HW
          go_wp2_with fail
          have fin := HK.out (.pointer (some ⟨b10, 0, none⟩)) W (Below.refl _ _) rfl
          simp only [putAll, Act.put, List.setIfInBounds_toArray, List.set_cons_succ, List.set_cons_zero] at fin
          exact fin
        · rintro vs W K hc hvl hw hK
          obtain ⟨x0, x1, x2, x3, x4, x5, x6, x7, x8, x9, x10, x11, x12, x13, x14, x15, x16, x17, rfl⟩ := len18 hvl
          have HK := Lib.hid hK
          have HC := Lib.hid hc
          have HW := Lib.hid hw
          clear hK hc hw hvl
          obtain rfl : x0 = .pointer (some ⟨b10, 0, none⟩) := box_get (HW.out ⟨0, .data⟩ (by simp) rfl) rfl
          simp only [putAll, Act.put, List.setIfInBounds_toArray, List.set_cons_succ, List.set_cons_zero]
          have rr := HR10.out.below HC.out HR10.out.lt
          have d0 := rr.cell 0
          simp only [List.getElem?_cons_zero] at d0
          clear rr
          clear HW
          go_wp2_with fail
          have fin := HK.out (.int .i64 X) W (Below.refl _ _) rfl
          simp only [putAll, Act.put, List.setIfInBounds_toArray, List.set_cons_succ, List.set_cons_zero] at fin
          exact fin
        · rintro vs W K hc hvl hw hK
          obtain ⟨x0, x1, x2, x3, x4, x5, x6, x7, x8, x9, x10, x11, x12, x13, x14, x15, x16, x17, rfl⟩ := len18 hvl
          have HK := Lib.hid hK
          have HC := Lib.hid hc
          have HW := Lib.hid hw
          clear hK hc hw hvl
          simp only [putAll, Act.put, List.setIfInBounds_toArray, List.set_cons_succ, List.set_cons_zero]
          clear HW
          go_wp2_with fail
          have fin := HK.out (.pointer (some ⟨w.heap.size, 0, none⟩)) W (Below.refl _ _) rfl
          simp only [putAll, Act.put, List.setIfInBounds_toArray, List.set_cons_succ, List.set_cons_zero] at fin
          exact fin
        · rintro vs W K hc hvl hw hK
          obtain ⟨x0, x1, x2, x3, x4, x5, x6, x7, x8, x9, x10, x11, x12, x13, x14, x15, x16, x17, rfl⟩ := len18 hvl
          have HK := Lib.hid hK
          have HC := Lib.hid hc
          have HW := Lib.hid hw
          clear hK hc hw hvl
          obtain rfl : x2 = .pointer (some ⟨w.heap.size, 0, none⟩) := box_get (HW.out ⟨2, .data⟩ (by simp) rfl) rfl
          simp only [putAll, Act.put, List.setIfInBounds_toArray, List.set_cons_succ, List.set_cons_zero]
          have rr := RP3.out.below HC.out RP3.out.lt
          have d0 := rr.cell 0
          simp only [List.getElem?_cons_zero] at d0
          clear rr
          clear HW
          go_wp2_with fail
          have fin := HK.out (.int .i64 px) W (Below.refl _ _) rfl
          simp only [putAll, Act.put, List.setIfInBounds_toArray, List.set_cons_succ, List.set_cons_zero] at fin
          exact fin
        · rintro vs W K hc hvl hw hK
          obtain ⟨x0, x1, x2, x3, x4, x5, x6, x7, x8, x9, x10, x11, x12, x13, x14, x15, x16, x17, rfl⟩ := len18 hvl
          have HK := Lib.hid hK
          have HC := Lib.hid hc
          have HW := Lib.hid hw
          clear hK hc hw hvl
          simp only [putAll, Act.put, List.setIfInBounds_toArray, List.set_cons_succ, List.set_cons_zero]
          clear HW
          go_wp2_with fail
          have fin := HK.out (.pointer (some ⟨b10, 2, none⟩)) W (Below.refl _ _) rfl
          simp only [putAll, Act.put, List.setIfInBounds_toArray, List.set_cons_succ, List.set_cons_zero] at fin
          exact fin
        · rintro vs W K hc hvl hw hK
          obtain ⟨x0, x1, x2, x3, x4, x5, x6, x7, x8, x9, x10, x11, x12, x13, x14, x15, x16, x17, rfl⟩ := len18 hvl
          have HK := Lib.hid hK
          have HC := Lib.hid hc
          have HW := Lib.hid hw
          clear hK hc hw hvl
          obtain rfl : x4 = .pointer (some ⟨b10, 2, none⟩) := box_get (HW.out ⟨4, .data⟩ (by simp) rfl) rfl
          simp only [putAll, Act.put, List.setIfInBounds_toArray, List.set_cons_succ, List.set_cons_zero]
          have rr := HR10.out.below HC.out HR10.out.lt
          have d0 := rr.cell 2
          simp only [List.getElem?_cons_zero, List.getElem?_cons_succ] at d0
          clear rr
          clear HW
          go_wp2_with fail
          have fin := HK.out (.int .i64 D) W (Below.refl _ _) rfl
          simp only [putAll, Act.put, List.setIfInBounds_toArray, List.set_cons_succ, List.set_cons_zero] at fin
          exact fin
        · rintro vs W K hc hvl hw hK
          obtain ⟨x0, x1, x2, x3, x4, x5, x6, x7, x8, x9, x10, x11, x12, x13, x14, x15, x16, x17, rfl⟩ := len18 hvl
          have HK := Lib.hid hK
          have HC := Lib.hid hc
          have HW := Lib.hid hw
          clear hK hc hw hvl
          obtain rfl : x3 = .int .i64 px := box_get (HW.out ⟨3, .data⟩ (by simp) rfl) rfl
          obtain rfl : x5 = .int .i64 D := box_get (HW.out ⟨5, .data⟩ (by simp) rfl) rfl
          simp only [putAll, Act.put, List.setIfInBounds_toArray, List.set_cons_succ, List.set_cons_zero]
          have e1 := HE.out.1
          have e1w := w64 e1
          clear HW
          go_wp2_with fail
          have fin := HK.out (.int .i64 PD) W (Below.refl _ _) rfl
          simp only [putAll, Act.put, List.setIfInBounds_toArray, List.set_cons_succ, List.set_cons_zero] at fin
          exact fin
        · rintro vs W K hc hvl hw hK
          obtain ⟨x0, x1, x2, x3, x4, x5, x6, x7, x8, x9, x10, x11, x12, x13, x14, x15, x16, x17, rfl⟩ := len18 hvl
          have HK := Lib.hid hK
          have HC := Lib.hid hc
          have HW := Lib.hid hw
          clear hK hc hw hvl
          obtain rfl : x1 = .int .i64 X := box_get (HW.out ⟨1, .data⟩ (by simp) rfl) rfl
          obtain rfl : x6 = .int .i64 PD := box_get (HW.out ⟨6, .data⟩ (by simp) rfl) rfl
          simp only [putAll, Act.put, List.setIfInBounds_toArray, List.set_cons_succ, List.set_cons_zero]
          have e3 := HE.out.2.2.1
          have e3w := w64 e3
          clear HW
          go_wp2_with fail
          have fin := HK.out (.int .i64 U) W (Below.refl _ _) rfl
          simp only [putAll, Act.put, List.setIfInBounds_toArray, List.set_cons_succ, List.set_cons_zero] at fin
          exact fin
        · rintro vs W K hc hvl hw hK
          obtain ⟨x0, x1, x2, x3, x4, x5, x6, x7, x8, x9, x10, x11, x12, x13, x14, x15, x16, x17, rfl⟩ := len18 hvl
          have HK := Lib.hid hK
          have HC := Lib.hid hc
          have HW := Lib.hid hw
          clear hK hc hw hvl
          simp only [putAll, Act.put, List.setIfInBounds_toArray, List.set_cons_succ, List.set_cons_zero]
          clear HW
          go_wp2_with fail
          have fin := HK.out (.pointer (some ⟨b10, 1, none⟩)) W (Below.refl _ _) rfl
          simp only [putAll, Act.put, List.setIfInBounds_toArray, List.set_cons_succ, List.set_cons_zero] at fin
          exact fin
        · rintro vs W K hc hvl hw hK
          obtain ⟨x0, x1, x2, x3, x4, x5, x6, x7, x8, x9, x10, x11, x12, x13, x14, x15, x16, x17, rfl⟩ := len18 hvl
          have HK := Lib.hid hK
          have HC := Lib.hid hc
          have HW := Lib.hid hw
          clear hK hc hw hvl
          obtain rfl : x8 = .pointer (some ⟨b10, 1, none⟩) := box_get (HW.out ⟨8, .data⟩ (by simp) rfl) rfl
          simp only [putAll, Act.put, List.setIfInBounds_toArray, List.set_cons_succ, List.set_cons_zero]
          have rr := HR10.out.below HC.out HR10.out.lt
          have d0 := rr.cell 1
          simp only [List.getElem?_cons_zero, List.getElem?_cons_succ] at d0
          clear rr
          clear HW
          go_wp2_with fail
          have fin := HK.out (.int .i64 Y) W (Below.refl _ _) rfl
          simp only [putAll, Act.put, List.setIfInBounds_toArray, List.set_cons_succ, List.set_cons_zero] at fin
          exact fin
        · rintro vs W K hc hvl hw hK
          obtain ⟨x0, x1, x2, x3, x4, x5, x6, x7, x8, x9, x10, x11, x12, x13, x14, x15, x16, x17, rfl⟩ := len18 hvl
          have HK := Lib.hid hK
          have HC := Lib.hid hc
          have HW := Lib.hid hw
          clear hK hc hw hvl
          simp only [putAll, Act.put, List.setIfInBounds_toArray, List.set_cons_succ, List.set_cons_zero]
          clear HW
          go_wp2_with fail
          have fin := HK.out (.pointer (some ⟨w.heap.size, 1, none⟩)) W (Below.refl _ _) rfl
          simp only [putAll, Act.put, List.setIfInBounds_toArray, List.set_cons_succ, List.set_cons_zero] at fin
          exact fin
        · rintro vs W K hc hvl hw hK
          obtain ⟨x0, x1, x2, x3, x4, x5, x6, x7, x8, x9, x10, x11, x12, x13, x14, x15, x16, x17, rfl⟩ := len18 hvl
          have HK := Lib.hid hK
          have HC := Lib.hid hc
          have HW := Lib.hid hw
          clear hK hc hw hvl
          obtain rfl : x10 = .pointer (some ⟨w.heap.size, 1, none⟩) := box_get (HW.out ⟨10, .data⟩ (by simp) rfl) rfl
          simp only [putAll, Act.put, List.setIfInBounds_toArray, List.set_cons_succ, List.set_cons_zero]
          have rr := RP3.out.below HC.out RP3.out.lt
          have d0 := rr.cell 1
          simp only [List.getElem?_cons_zero, List.getElem?_cons_succ] at d0
          clear rr
          clear HW
          go_wp2_with fail
          have fin := HK.out (.int .i64 py) W (Below.refl _ _) rfl
          simp only [putAll, Act.put, List.setIfInBounds_toArray, List.set_cons_succ, List.set_cons_zero] at fin
          exact fin
        · rintro vs W K hc hvl hw hK
          obtain ⟨x0, x1, x2, x3, x4, x5, x6, x7, x8, x9, x10, x11, x12, x13, x14, x15, x16, x17, rfl⟩ := len18 hvl
          have HK := Lib.hid hK
          have HC := Lib.hid hc
          have HW := Lib.hid hw
          clear hK hc hw hvl
          simp only [putAll, Act.put, List.setIfInBounds_toArray, List.set_cons_succ, List.set_cons_zero]
          clear HW
          go_wp2_with fail
          have fin := HK.out (.pointer (some ⟨b10, 2, none⟩)) W (Below.refl _ _) rfl
          simp only [putAll, Act.put, List.setIfInBounds_toArray, List.set_cons_succ, List.set_cons_zero] at fin
          exact fin
        · rintro vs W K hc hvl hw hK
          obtain ⟨x0, x1, x2, x3, x4, x5, x6, x7, x8, x9, x10, x11, x12, x13, x14, x15, x16, x17, rfl⟩ := len18 hvl
          have HK := Lib.hid hK
          have HC := Lib.hid hc
          have HW := Lib.hid hw
          clear hK hc hw hvl
          obtain rfl : x12 = .pointer (some ⟨b10, 2, none⟩) := box_get (HW.out ⟨12, .data⟩ (by simp) rfl) rfl
          simp only [putAll, Act.put, List.setIfInBounds_toArray, List.set_cons_succ, List.set_cons_zero]
          have rr := HR10.out.below HC.out HR10.out.lt
          have d0 := rr.cell 2
          simp only [List.getElem?_cons_zero, List.getElem?_cons_succ] at d0
          clear rr
          clear HW
          go_wp2_with fail
          have fin := HK.out (.int .i64 D) W (Below.refl _ _) rfl
          simp only [putAll, Act.put, List.setIfInBounds_toArray, List.set_cons_succ, List.set_cons_zero] at fin
          exact fin
        · rintro vs W K hc hvl hw hK
          obtain ⟨x0, x1, x2, x3, x4, x5, x6, x7, x8, x9, x10, x11, x12, x13, x14, x15, x16, x17, rfl⟩ := len18 hvl
          have HK := Lib.hid hK
          have HC := Lib.hid hc
          have HW := Lib.hid hw
          clear hK hc hw hvl
          obtain rfl : x11 = .int .i64 py := box_get (HW.out ⟨11, .data⟩ (by simp) rfl) rfl
          obtain rfl : x13 = .int .i64 D := box_get (HW.out ⟨13, .data⟩ (by simp) rfl) rfl
          simp only [putAll, Act.put, List.setIfInBounds_toArray, List.set_cons_succ, List.set_cons_zero]
          have e2 := HE.out.2.1
          have e2w := w64 e2
          clear HW
          go_wp2_with fail
          have fin := HK.out (.int .i64 QD) W (Below.refl _ _) rfl
          simp only [putAll, Act.put, List.setIfInBounds_toArray, List.set_cons_succ, List.set_cons_zero] at fin
          exact fin
        · rintro vs W K hc hvl hw hK
          obtain ⟨x0, x1, x2, x3, x4, x5, x6, x7, x8, x9, x10, x11, x12, x13, x14, x15, x16, x17, rfl⟩ := len18 hvl
          have HK := Lib.hid hK
          have HC := Lib.hid hc
          have HW := Lib.hid hw
          clear hK hc hw hvl
          obtain rfl : x9 = .int .i64 Y := box_get (HW.out ⟨9, .data⟩ (by simp) rfl) rfl
          obtain rfl : x14 = .int .i64 QD := box_get (HW.out ⟨14, .data⟩ (by simp) rfl) rfl
          simp only [putAll, Act.put, List.setIfInBounds_toArray, List.set_cons_succ, List.set_cons_zero]
          have e4 := HE.out.2.2.2.1
          have e4w := w64 e4
          clear HW
          go_wp2_with fail
          have fin := HK.out (.int .i64 Z) W (Below.refl _ _) rfl
          simp only [putAll, Act.put, List.setIfInBounds_toArray, List.set_cons_succ, List.set_cons_zero] at fin
          exact fin
        · rintro vs W K hc hvl hw hK
          obtain ⟨x0, x1, x2, x3, x4, x5, x6, x7, x8, x9, x10, x11, x12, x13, x14, x15, x16, x17, rfl⟩ := len18 hvl
          have HK := Lib.hid hK
          have HC := Lib.hid hc
          have HW := Lib.hid hw
          clear hK hc hw hvl
          obtain rfl : x7 = .int .i64 U := box_get (HW.out ⟨7, .data⟩ (by simp) rfl) rfl
          simp only [putAll, Act.put, List.setIfInBounds_toArray, List.set_cons_succ, List.set_cons_zero]
          clear HW
          go_wp2_with fail
          have fin := HK.out (.int .i64 U) W (Below.refl _ _) rfl
          simp only [putAll, Act.put, List.setIfInBounds_toArray, List.set_cons_succ, List.set_cons_zero] at fin
          exact fin
        · rintro vs W K hc hvl hw hK
          obtain ⟨x0, x1, x2, x3, x4, x5, x6, x7, x8, x9, x10, x11, x12, x13, x14, x15, x16, x17, rfl⟩ := len18 hvl
          have HK := Lib.hid hK
          have HC := Lib.hid hc
          have HW := Lib.hid hw
          clear hK hc hw hvl
          obtain rfl : x15 = .int .i64 Z := box_get (HW.out ⟨15, .data⟩ (by simp) rfl) rfl
          simp only [putAll, Act.put, List.setIfInBounds_toArray, List.set_cons_succ, List.set_cons_zero]
          clear HW
          go_wp2_with fail
          have fin := HK.out (.int .i64 Z) W (Below.refl _ _) rfl
          simp only [putAll, Act.put, List.setIfInBounds_toArray, List.set_cons_succ, List.set_cons_zero] at fin
          exact fin
      case fin =>
        rintro vs W hJ
        obtain ⟨x0, x1, x2, x3, x4, x5, x6, x7, x8, x9, x10, x11, x12, x13, x14, x15, x16, x17, rfl⟩ := len18 hJ.ln
        obtain rfl : x16 = .int .i64 U := box_get (hJ.val 16 rfl) rfl
        obtain rfl : x17 = .int .i64 Z := box_get (hJ.val 17 rfl) rfl
        have HC := Lib.hid hJ.bl
        clear hJ
        simp only [putAll, Act.put, List.setIfInBounds_toArray, List.set_cons_succ, List.set_cons_zero]
        have RC := Lib.hid (HR10.out.below HC.out HR10.out.lt)
        have RRC := Lib.hid (RR3.out.below HC.out RR3.out.lt)
        have BC := Lib.hid (Below.andThen B3.out HC.out (Nat.le_refl _))
        clear HC HR10 RP3 RR3 B3
        obtain ⟨e1, e2, e3, e4, e5, e6, e7⟩ := HE.out
        have hcR := RC.out.set 3 (.int .i64 R)
        have hrR := RRC.out.other 3 (.int .i64 R) (show w.heap.size + 1 ≠ b10 by have := HB10.out; omega)
        simp only [List.set_cons_succ, List.set_cons_zero] at hcR
        have a0 := RC.out.cell 3
        have a1 := frozen_of_row _ b10 3 _ _ RC.out
        have c0 := hcR.cell 0
        have c1 := hcR.cell 1
        have c2 := hcR.cell 2
        have c3 := hcR.cell 3
        have t0 := hrR.cell 0
        have t1 := hrR.cell 1
        have t2 := hrR.cell 2
        have t3 := hrR.cell 3
        have g0 := frozen_of_row _ (w.heap.size + 1) 0 _ _ hrR
        have g1 := frozen_of_row _ (w.heap.size + 1) 1 _ _ hrR
        have g2 := frozen_of_row _ (w.heap.size + 1) 2 _ _ hrR
        have g3 := frozen_of_row _ (w.heap.size + 1) 3 _ _ hrR
        simp only [List.getElem?_cons_zero, List.getElem?_cons_succ] at a0 c0 c1 c2 c3 t0 t1 t2 t3
        have HRR := Lib.hid hrR
        have BS := Lib.hid (show Below w.heap.size w (W.setCell ⟨b10, 3, none⟩ (.int .i64 R)) from (Below.andThen BV.out BC.out (Nat.le_refl _)).setCell (p := ⟨b10, 3, none⟩) (by have := HB10.out; dsimp only; omega) _)
        clear e1 e2 e3 e4 hcR hrR
        have e5w := w64 e5
        have e6w := w64 e6
        have e7w := w64 e7
        go_wp2_with fail
        have hr := (((HRR.out.set 0 (.int .i64 X)).set 1 (.int .i64 Y)).set 2 (.int .i64 D)).set 3 (.int .i64 R)
        have v0 := hr.cell 0
        have v1 := hr.cell 1
        have v2 := hr.cell 2
        have v3 := hr.cell 3
        simp only [List.set_cons_zero, List.set_cons_succ, List.getElem?_cons_zero, List.getElem?_cons_succ] at v0 v1 v2 v3
        refine bodyPost_ret (v := .agg #[.int .i64 X, .int .i64 Y, .int .i64 D, .int .i64 R]) (by simp [results, Try.results77, go_sem, v0, v1, v2, v3]) rfl ⟨rfl, ?_⟩
        exact (((BS.out.setCell (p := ⟨w.heap.size + 1, 0, none⟩) (by dsimp only; omega) _).setCell (p := ⟨w.heap.size + 1, 1, none⟩) (by dsimp only; omega) _).setCell (p := ⟨w.heap.size + 1, 2, none⟩) (by dsimp only; omega) _).setCell (p := ⟨w.heap.size + 1, 3, none⟩) (by dsimp only; omega) _
  · have hd : decide (d < 0) = false := decide_eq_false hneg
    obtain ⟨r1, r2, r3⟩ := HP.out hneg
    have HQ := Lib.hid (show IntKind.i64.wrap (x.tdiv (g : Int)) = X ∧ IntKind.i64.wrap (y.tdiv (g : Int)) = Y ∧ IntKind.i64.wrap (d.tdiv (g : Int)) = D by
      rw [← r1, ← r2, ← r3]; exact HK.out)
    clear r1 r2 r3 HK
    go_enter Try.func77, Try.ntmps77
    go_wp2_with fail
    rw [show (w.alloc (.cells #[.int .i64 px, .int .i64 py] 28)).alloc (.cells #[.int .i64 0, .int .i64 0, .int .i64 0, .int .i64 0] 46) = V0 from hV.symm]
    refine (HS1.out V0 x y rfl rfl).mono ?_
    rintro e w1 ⟨rfl, hb1⟩
    have B1 := Lib.hid hb1
    clear hb1 HS1
    go_wp2_with fail
    refine (HS2.out w1 d rfl).mono ?_
    rintro e w2 ⟨rfl, hb2⟩
    have B2 := Lib.hid (Below.andThen B1.out hb2 (Nat.le_refl _))
    have RP2 := Lib.hid (RP.out.below B2.out RP.out.lt)
    have RR2 := Lib.hid (RR.out.below B2.out RR.out.lt)
    clear hb2 HS2 B1
    go_wp2_with fail
    refine wp_region_box (by kernel_rfl) (by kernel_rfl) [26, 27, 28, 29, 30, 31, 32, 33, 34, 35, 10, 1000] [(fun v => v = .int .i64 x), (fun v => v = .int .i64 (g : Int)), (fun v => v = .int .i64 X), (fun v => v = .int .i64 y), (fun v => v = .int .i64 (g : Int)), (fun v => v = .int .i64 Y), (fun v => v = .int .i64 d), (fun v => v = .int .i64 (g : Int)), (fun v => v = .int .i64 D), (fun v => v = .agg #[.int .i64 X, .int .i64 Y, .int .i64 D, .int .i64 0]), (fun _ => True), (fun _ => True)] [none, none, none, none, none, none, none, none, none, none, some (46, [.int .i64 0, .int .i64 0, .int .i64 0, .int .i64 0], [.int .i64 X, .int .i64 Y, .int .i64 D, .int .i64 0]), none] [none, none, none, none, none, none, none, none, none, none, none, some 10] 12 rfl (by kernel_rfl) ?tr ⟨[undef, undef, undef, undef, undef, undef, undef, undef, undef, undef, undef, undef], by simp only [putAll, Act.put, List.setIfInBounds_toArray, List.set_cons_succ, List.set_cons_zero, List.set_nil], rfl⟩ ?steps ?fin
    case tr =>
      rintro i v h
      rcases i with _ | _ | _ | _ | _ | _ | _ | _ | _ | _ | _ | _ | i
      all_goals first | trivial | (exfalso; rcases h with h | h <;> simp at h)
    case steps =>
      simp only [boxSteps, Nat.reduceAdd, Nat.zero_add, List.getD_cons_succ, List.getD_cons_zero]
      refine ⟨?_, ?_, ?_, ?_, ?_, ?_, ?_, ?_, ?_, ?_, ?_, ?_, trivial⟩
      · rintro vs W K hc hvl hw hK
        obtain ⟨x0, x1, x2, x3, x4, x5, x6, x7, x8, x9, x10, x11, rfl⟩ := len12 hvl
        have HK := Lib.hid hK
        have HC := Lib.hid hc
        have HW := Lib.hid hw
        clear hK hc hw hvl
        simp only [putAll, Act.put, List.setIfInBounds_toArray, List.set_cons_succ, List.set_cons_zero, List.set_nil]
        clear HW
        go_wp2_with fail
        have fin := HK.out (.int .i64 x) W (Below.refl _ _) rfl
        simp only [putAll, Act.put, List.setIfInBounds_toArray, List.set_cons_succ, List.set_cons_zero, List.set_nil] at fin
        exact fin
      · rintro vs W K hc hvl hw hK
        obtain ⟨x0, x1, x2, x3, x4, x5, x6, x7, x8, x9, x10, x11, rfl⟩ := len12 hvl
        have HK := Lib.hid hK
        have HC := Lib.hid hc
        have HW := Lib.hid hw
        clear hK hc hw hvl
        simp only [putAll, Act.put, List.setIfInBounds_toArray, List.set_cons_succ, List.set_cons_zero, List.set_nil]
        clear HW
        go_wp2_with fail
        have fin := HK.out (.int .i64 (g : Int)) W (Below.refl _ _) rfl
        simp only [putAll, Act.put, List.setIfInBounds_toArray, List.set_cons_succ, List.set_cons_zero, List.set_nil] at fin
        exact fin
      · rintro vs W K hc hvl hw hK
        obtain ⟨x0, x1, x2, x3, x4, x5, x6, x7, x8, x9, x10, x11, rfl⟩ := len12 hvl
        have HK := Lib.hid hK
        have HC := Lib.hid hc
        have HW := Lib.hid hw
        clear hK hc hw hvl
        obtain rfl : x0 = .int .i64 x := box_get (HW.out ⟨0, .data⟩ (by simp) rfl) rfl
        obtain rfl : x1 = .int .i64 (g : Int) := box_get (HW.out ⟨1, .data⟩ (by simp) rfl) rfl
        simp only [putAll, Act.put, List.setIfInBounds_toArray, List.set_cons_succ, List.set_cons_zero, List.set_nil]
        obtain ⟨k1, k2, k3⟩ := HQ.out
        have k1w := w64 k1
        have k2w := w64 k2
        have k3w := w64 k3
        have hgn := HGN.out
        clear HW
        go_wp2_with fail
        have fin := HK.out (.int .i64 X) W (Below.refl _ _) rfl
        simp only [putAll, Act.put, List.setIfInBounds_toArray, List.set_cons_succ, List.set_cons_zero, List.set_nil] at fin
        exact fin
      · rintro vs W K hc hvl hw hK
        obtain ⟨x0, x1, x2, x3, x4, x5, x6, x7, x8, x9, x10, x11, rfl⟩ := len12 hvl
        have HK := Lib.hid hK
        have HC := Lib.hid hc
        have HW := Lib.hid hw
        clear hK hc hw hvl
        simp only [putAll, Act.put, List.setIfInBounds_toArray, List.set_cons_succ, List.set_cons_zero, List.set_nil]
        clear HW
        go_wp2_with fail
        have fin := HK.out (.int .i64 y) W (Below.refl _ _) rfl
        simp only [putAll, Act.put, List.setIfInBounds_toArray, List.set_cons_succ, List.set_cons_zero, List.set_nil] at fin
        exact fin
      · rintro vs W K hc hvl hw hK
        obtain ⟨x0, x1, x2, x3, x4, x5, x6, x7, x8, x9, x10, x11, rfl⟩ := len12 hvl
        have HK := Lib.hid hK
        have HC := Lib.hid hc
        have HW := Lib.hid hw
        clear hK hc hw hvl
        simp only [putAll, Act.put, List.setIfInBounds_toArray, List.set_cons_succ, List.set_cons_zero, List.set_nil]
        clear HW
        go_wp2_with fail
        have fin := HK.out (.int .i64 (g : Int)) W (Below.refl _ _) rfl
        simp only [putAll, Act.put, List.setIfInBounds_toArray, List.set_cons_succ, List.set_cons_zero, List.set_nil] at fin
        exact fin
      · rintro vs W K hc hvl hw hK
        obtain ⟨x0, x1, x2, x3, x4, x5, x6, x7, x8, x9, x10, x11, rfl⟩ := len12 hvl
        have HK := Lib.hid hK
        have HC := Lib.hid hc
        have HW := Lib.hid hw
        clear hK hc hw hvl
        obtain rfl : x3 = .int .i64 y := box_get (HW.out ⟨3, .data⟩ (by simp) rfl) rfl
        obtain rfl : x4 = .int .i64 (g : Int) := box_get (HW.out ⟨4, .data⟩ (by simp) rfl) rfl
        simp only [putAll, Act.put, List.setIfInBounds_toArray, List.set_cons_succ, List.set_cons_zero, List.set_nil]
        obtain ⟨k1, k2, k3⟩ := HQ.out
        have k1w := w64 k1
        have k2w := w64 k2
        have k3w := w64 k3
        have hgn := HGN.out
        clear HW
        go_wp2_with fail
        have fin := HK.out (.int .i64 Y) W (Below.refl _ _) rfl
        simp only [putAll, Act.put, List.setIfInBounds_toArray, List.set_cons_succ, List.set_cons_zero, List.set_nil] at fin
        exact fin
      · rintro vs W K hc hvl hw hK
        obtain ⟨x0, x1, x2, x3, x4, x5, x6, x7, x8, x9, x10, x11, rfl⟩ := len12 hvl
        have HK := Lib.hid hK
        have HC := Lib.hid hc
        have HW := Lib.hid hw
        clear hK hc hw hvl
        simp only [putAll, Act.put, List.setIfInBounds_toArray, List.set_cons_succ, List.set_cons_zero, List.set_nil]
        clear HW
        go_wp2_with fail
        have fin := HK.out (.int .i64 d) W (Below.refl _ _) rfl
        simp only [putAll, Act.put, List.setIfInBounds_toArray, List.set_cons_succ, List.set_cons_zero, List.set_nil] at fin
        exact fin
      · rintro vs W K hc hvl hw hK
        obtain ⟨x0, x1, x2, x3, x4, x5, x6, x7, x8, x9, x10, x11, rfl⟩ := len12 hvl
        have HK := Lib.hid hK
        have HC := Lib.hid hc
        have HW := Lib.hid hw
        clear hK hc hw hvl
        simp only [putAll, Act.put, List.setIfInBounds_toArray, List.set_cons_succ, List.set_cons_zero, List.set_nil]
        clear HW
        go_wp2_with fail
        have fin := HK.out (.int .i64 (g : Int)) W (Below.refl _ _) rfl
        simp only [putAll, Act.put, List.setIfInBounds_toArray, List.set_cons_succ, List.set_cons_zero, List.set_nil] at fin
        exact fin
      · rintro vs W K hc hvl hw hK
        obtain ⟨x0, x1, x2, x3, x4, x5, x6, x7, x8, x9, x10, x11, rfl⟩ := len12 hvl
        have HK := Lib.hid hK
        have HC := Lib.hid hc
        have HW := Lib.hid hw
        clear hK hc hw hvl
        obtain rfl : x6 = .int .i64 d := box_get (HW.out ⟨6, .data⟩ (by simp) rfl) rfl
        obtain rfl : x7 = .int .i64 (g : Int) := box_get (HW.out ⟨7, .data⟩ (by simp) rfl) rfl
        simp only [putAll, Act.put, List.setIfInBounds_toArray, List.set_cons_succ, List.set_cons_zero, List.set_nil]
        obtain ⟨k1, k2, k3⟩ := HQ.out
        have k1w := w64 k1
        have k2w := w64 k2
        have k3w := w64 k3
        have hgn := HGN.out
        clear HW
        go_wp2_with fail
        have fin := HK.out (.int .i64 D) W (Below.refl _ _) rfl
        simp only [putAll, Act.put, List.setIfInBounds_toArray, List.set_cons_succ, List.set_cons_zero, List.set_nil] at fin
        exact fin
      · rintro vs W K hc hvl hw hK
        obtain ⟨x0, x1, x2, x3, x4, x5, x6, x7, x8, x9, x10, x11, rfl⟩ := len12 hvl
        have HK := Lib.hid hK
        have HC := Lib.hid hc
        have HW := Lib.hid hw
        clear hK hc hw hvl
        obtain rfl : x2 = .int .i64 X := box_get (HW.out ⟨2, .data⟩ (by simp) rfl) rfl
        obtain rfl : x5 = .int .i64 Y := box_get (HW.out ⟨5, .data⟩ (by simp) rfl) rfl
        obtain rfl : x8 = .int .i64 D := box_get (HW.out ⟨8, .data⟩ (by simp) rfl) rfl
        simp only [putAll, Act.put, List.setIfInBounds_toArray, List.set_cons_succ, List.set_cons_zero, List.set_nil]
        clear HW
        go_wp2_with fail
        have fin := HK.out (.agg #[.int .i64 X, .int .i64 Y, .int .i64 D, .int .i64 0]) W (Below.refl _ _) rfl
        simp only [putAll, Act.put, List.setIfInBounds_toArray, List.set_cons_succ, List.set_cons_zero, List.set_nil] at fin
        exact fin
      · rintro vs W K hc hvl hw hK
        obtain ⟨x0, x1, x2, x3, x4, x5, x6, x7, x8, x9, x10, x11, rfl⟩ := len12 hvl
        have HK := Lib.hid hK
        have HC := Lib.hid hc
        have HW := Lib.hid hw
        clear hK hc hw hvl
        simp only [putAll, Act.put, List.setIfInBounds_toArray, List.set_cons_succ, List.set_cons_zero, List.set_nil]
        clear HW
        go_wp2_with fail
        have fin := HK.out
        simp only [putAll, Act.put, List.setIfInBounds_toArray, List.set_cons_succ, List.set_cons_zero, List.set_nil] at fin
        exact fin
      · rintro vs W K hc hvl hw b E z f hia hva hb0 hr hK
        cases hia
        obtain ⟨x0, x1, x2, x3, x4, x5, x6, x7, x8, x9, x10, x11, rfl⟩ := len12 hvl
        have HK := Lib.hid hK
        have HC := Lib.hid hc
        have HW := Lib.hid hw
        clear hK hc hw hvl
        obtain rfl : x9 = .agg #[.int .i64 X, .int .i64 Y, .int .i64 D, .int .i64 0] := box_get (HW.out ⟨9, .data⟩ (by simp) rfl) rfl
        obtain rfl : x10 = .pointer (some ⟨b, 0, none⟩) := Option.some.inj hva
        simp only [putAll, Act.put, List.setIfInBounds_toArray, List.set_cons_succ, List.set_cons_zero, List.set_nil]
        have kf0 := frozen_of_row W b 0 _ _ hr
        have kc0 : W.cell? ⟨b, 0, none⟩ = some (.int .i64 0) := hr.cell 0
        have kf1 := frozen_of_row W b 1 _ _ hr
        have kc1 : W.cell? ⟨b, 1, none⟩ = some (.int .i64 0) := hr.cell 1
        have kf2 := frozen_of_row W b 2 _ _ hr
        have kc2 : W.cell? ⟨b, 2, none⟩ = some (.int .i64 0) := hr.cell 2
        have kf3 := frozen_of_row W b 3 _ _ hr
        have kc3 : W.cell? ⟨b, 3, none⟩ = some (.int .i64 0) := hr.cell 3
        have HRW := Lib.hid hr
        clear HW hr hva
        go_wp2_with fail
        have fin := HK.out _ (show Row _ b 46 [.int .i64 X, .int .i64 Y, .int .i64 D, .int .i64 0] from by simpa using (show Row _ b 46 _ from ((((HRW.out.set 0 (.int .i64 X)).set 1 (.int .i64 Y)).set 2 (.int .i64 D)).set 3 (.int .i64 0)))) (grown_put (grown_put (grown_put (grown_put (grown_self W _)))))
        simp only [putAll, Act.put, List.setIfInBounds_toArray, List.set_cons_succ, List.set_cons_zero, List.set_nil] at fin
        exact fin
    case fin =>
      rintro vs W hJ
      obtain ⟨x0, x1, x2, x3, x4, x5, x6, x7, x8, x9, x10, x11, rfl⟩ := len12 hJ.ln
      obtain rfl : x0 = .int .i64 x := box_get (hJ.val 0 rfl) rfl
      obtain rfl : x1 = .int .i64 (g : Int) := box_get (hJ.val 1 rfl) rfl
      obtain rfl : x2 = .int .i64 X := box_get (hJ.val 2 rfl) rfl
      obtain rfl : x3 = .int .i64 y := box_get (hJ.val 3 rfl) rfl
      obtain rfl : x4 = .int .i64 (g : Int) := box_get (hJ.val 4 rfl) rfl
      obtain rfl : x5 = .int .i64 Y := box_get (hJ.val 5 rfl) rfl
      obtain rfl : x6 = .int .i64 d := box_get (hJ.val 6 rfl) rfl
      obtain rfl : x7 = .int .i64 (g : Int) := box_get (hJ.val 7 rfl) rfl
      obtain rfl : x8 = .int .i64 D := box_get (hJ.val 8 rfl) rfl
      obtain rfl : x9 = .agg #[.int .i64 X, .int .i64 Y, .int .i64 D, .int .i64 0] := box_get (hJ.val 9 rfl) rfl
      obtain ⟨b10, e10, hb10, hr10⟩ := hJ.box 10 _ _ _ rfl rfl
      obtain rfl : x10 = .pointer (some ⟨b10, 0, none⟩) := Option.some.inj e10
      replace hr10 : Row W b10 46 [.int .i64 X, .int .i64 Y, .int .i64 D, .int .i64 0] := hr10
      have HR10 := Lib.hid hr10
      clear e10 hr10
      have HC := Lib.hid hJ.bl
      clear hJ
      simp only [putAll, Act.put, List.setIfInBounds_toArray, List.set_cons_succ, List.set_cons_zero, List.set_nil]
      have RP3 := Lib.hid (RP2.out.below HC.out RP2.out.lt)
      have RR3 := Lib.hid (RR2.out.below HC.out RR2.out.lt)
      have B3 := Lib.hid (Below.andThen B2.out HC.out (Nat.le_refl _))
      have HB10 := Lib.hid (show w.heap.size + 1 < b10 by have h1 := hb10; have h2 := B2.out.size; have h3 := HWS.out; omega)
      clear hb10
      clear HC RP2 RR2 B2 HQ
      go_wp2_with fail
      refine wp_region_box (by kernel_rfl) (by kernel_rfl) [36, 37, 38, 39, 40, 41, 42, 43, 44, 45, 46, 47, 48, 49, 50, 51, 11, 12] [(fun v => v = .pointer (some ⟨b10, 0, none⟩)), (fun v => v = .int .i64 X), (fun v => v = .pointer (some ⟨w.heap.size, 0, none⟩)), (fun v => v = .int .i64 px), (fun v => v = .pointer (some ⟨b10, 2, none⟩)), (fun v => v = .int .i64 D), (fun v => v = .int .i64 PD), (fun v => v = .int .i64 U), (fun v => v = .pointer (some ⟨b10, 1, none⟩)), (fun v => v = .int .i64 Y), (fun v => v = .pointer (some ⟨w.heap.size, 1, none⟩)), (fun v => v = .int .i64 py), (fun v => v = .pointer (some ⟨b10, 2, none⟩)), (fun v => v = .int .i64 D), (fun v => v = .int .i64 QD), (fun v => v = .int .i64 Z), (fun v => v = .int .i64 U), (fun v => v = .int .i64 Z)] [none, none, none, none, none, none, none, none, none, none, none, none, none, none, none, none, none, none] [none, none, none, none, none, none, none, none, none, none, none, none, none, none, none, none, none, none] 18 rfl (by kernel_rfl) ?tr ⟨[undef, undef, undef, undef, undef, undef, undef, undef, undef, undef, undef, undef, undef, undef, undef, undef, undef, undef], by simp only [putAll, Act.put, List.setIfInBounds_toArray, List.set_cons_succ, List.set_cons_zero], rfl⟩ ?steps ?fin
      case tr =>
        rintro i v h
        rcases i with _ | _ | _ | _ | _ | _ | _ | _ | _ | _ | _ | _ | _ | _ | _ | _ | _ | _ | i
        all_goals first | trivial | (exfalso; rcases h with h | h <;> simp at h)
      case steps =>
        simp only [boxSteps, Nat.reduceAdd, Nat.zero_add, List.getD_cons_succ, List.getD_cons_zero]
        refine ⟨?_, ?_, ?_, ?_, ?_, ?_, ?_, ?_, ?_, ?_, ?_, ?_, ?_, ?_, ?_, ?_, ?_, ?_, trivial⟩
        · rintro vs W K hc hvl hw hK
          obtain ⟨x0, x1, x2, x3, x4, x5, x6, x7, x8, x9, x10, x11, x12, x13, x14, x15, x16, x17, rfl⟩ := len18 hvl
          have HK := Lib.hid hK
          have HC := Lib.hid hc
          have HW := Lib.hid hw
          clear hK hc hw hvl
          simp only [putAll, Act.put, List.setIfInBounds_toArray, List.set_cons_succ, List.set_cons_zero]
          clear HW
          go_wp2_with fail
          have fin := HK.out (.pointer (some ⟨b10, 0, none⟩)) W (Below.refl _ _) rfl
          simp only [putAll, Act.put, List.setIfInBounds_toArray, List.set_cons_succ, List.set_cons_zero] at fin
          exact fin
        · rintro vs W K hc hvl hw hK
          obtain ⟨x0, x1, x2, x3, x4, x5, x6, x7, x8, x9, x10, x11, x12, x13, x14, x15, x16, x17, rfl⟩ := len18 hvl
          have HK := Lib.hid hK
          have HC := Lib.hid hc
          have HW := Lib.hid hw
          clear hK hc hw hvl
          obtain rfl : x0 = .pointer (some ⟨b10, 0, none⟩) := box_get (HW.out ⟨0, .data⟩ (by simp) rfl) rfl
          simp only [putAll, Act.put, List.setIfInBounds_toArray, List.set_cons_succ, List.set_cons_zero]
          have rr := HR10.out.below HC.out HR10.out.lt
          have d0 := rr.cell 0
          simp only [List.getElem?_cons_zero] at d0
          clear rr
          clear HW
          go_wp2_with fail
          have fin := HK.out (.int .i64 X) W (Below.refl _ _) rfl
          simp only [putAll, Act.put, List.setIfInBounds_toArray, List.set_cons_succ, List.set_cons_zero] at fin
          exact fin
        · rintro vs W K hc hvl hw hK
          obtain ⟨x0, x1, x2, x3, x4, x5, x6, x7, x8, x9, x10, x11, x12, x13, x14, x15, x16, x17, rfl⟩ := len18 hvl
          have HK := Lib.hid hK
          have HC := Lib.hid hc
          have HW := Lib.hid hw
          clear hK hc hw hvl
          simp only [putAll, Act.put, List.setIfInBounds_toArray, List.set_cons_succ, List.set_cons_zero]
          clear HW
          go_wp2_with fail
          have fin := HK.out (.pointer (some ⟨w.heap.size, 0, none⟩)) W (Below.refl _ _) rfl
          simp only [putAll, Act.put, List.setIfInBounds_toArray, List.set_cons_succ, List.set_cons_zero] at fin
          exact fin
        · rintro vs W K hc hvl hw hK
          obtain ⟨x0, x1, x2, x3, x4, x5, x6, x7, x8, x9, x10, x11, x12, x13, x14, x15, x16, x17, rfl⟩ := len18 hvl
          have HK := Lib.hid hK
          have HC := Lib.hid hc
          have HW := Lib.hid hw
          clear hK hc hw hvl
          obtain rfl : x2 = .pointer (some ⟨w.heap.size, 0, none⟩) := box_get (HW.out ⟨2, .data⟩ (by simp) rfl) rfl
          simp only [putAll, Act.put, List.setIfInBounds_toArray, List.set_cons_succ, List.set_cons_zero]
          have rr := RP3.out.below HC.out RP3.out.lt
          have d0 := rr.cell 0
          simp only [List.getElem?_cons_zero] at d0
          clear rr
          clear HW
          go_wp2_with fail
          have fin := HK.out (.int .i64 px) W (Below.refl _ _) rfl
          simp only [putAll, Act.put, List.setIfInBounds_toArray, List.set_cons_succ, List.set_cons_zero] at fin
          exact fin
        · rintro vs W K hc hvl hw hK
          obtain ⟨x0, x1, x2, x3, x4, x5, x6, x7, x8, x9, x10, x11, x12, x13, x14, x15, x16, x17, rfl⟩ := len18 hvl
          have HK := Lib.hid hK
          have HC := Lib.hid hc
          have HW := Lib.hid hw
          clear hK hc hw hvl
          simp only [putAll, Act.put, List.setIfInBounds_toArray, List.set_cons_succ, List.set_cons_zero]
          clear HW
          go_wp2_with fail
          have fin := HK.out (.pointer (some ⟨b10, 2, none⟩)) W (Below.refl _ _) rfl
          simp only [putAll, Act.put, List.setIfInBounds_toArray, List.set_cons_succ, List.set_cons_zero] at fin
          exact fin
        · rintro vs W K hc hvl hw hK
          obtain ⟨x0, x1, x2, x3, x4, x5, x6, x7, x8, x9, x10, x11, x12, x13, x14, x15, x16, x17, rfl⟩ := len18 hvl
          have HK := Lib.hid hK
          have HC := Lib.hid hc
          have HW := Lib.hid hw
          clear hK hc hw hvl
          obtain rfl : x4 = .pointer (some ⟨b10, 2, none⟩) := box_get (HW.out ⟨4, .data⟩ (by simp) rfl) rfl
          simp only [putAll, Act.put, List.setIfInBounds_toArray, List.set_cons_succ, List.set_cons_zero]
          have rr := HR10.out.below HC.out HR10.out.lt
          have d0 := rr.cell 2
          simp only [List.getElem?_cons_zero, List.getElem?_cons_succ] at d0
          clear rr
          clear HW
          go_wp2_with fail
          have fin := HK.out (.int .i64 D) W (Below.refl _ _) rfl
          simp only [putAll, Act.put, List.setIfInBounds_toArray, List.set_cons_succ, List.set_cons_zero] at fin
          exact fin
        · rintro vs W K hc hvl hw hK
          obtain ⟨x0, x1, x2, x3, x4, x5, x6, x7, x8, x9, x10, x11, x12, x13, x14, x15, x16, x17, rfl⟩ := len18 hvl
          have HK := Lib.hid hK
          have HC := Lib.hid hc
          have HW := Lib.hid hw
          clear hK hc hw hvl
          obtain rfl : x3 = .int .i64 px := box_get (HW.out ⟨3, .data⟩ (by simp) rfl) rfl
          obtain rfl : x5 = .int .i64 D := box_get (HW.out ⟨5, .data⟩ (by simp) rfl) rfl
          simp only [putAll, Act.put, List.setIfInBounds_toArray, List.set_cons_succ, List.set_cons_zero]
          have e1 := HE.out.1
          have e1w := w64 e1
          clear HW
          go_wp2_with fail
          have fin := HK.out (.int .i64 PD) W (Below.refl _ _) rfl
          simp only [putAll, Act.put, List.setIfInBounds_toArray, List.set_cons_succ, List.set_cons_zero] at fin
          exact fin
        · rintro vs W K hc hvl hw hK
          obtain ⟨x0, x1, x2, x3, x4, x5, x6, x7, x8, x9, x10, x11, x12, x13, x14, x15, x16, x17, rfl⟩ := len18 hvl
          have HK := Lib.hid hK
          have HC := Lib.hid hc
          have HW := Lib.hid hw
          clear hK hc hw hvl
          obtain rfl : x1 = .int .i64 X := box_get (HW.out ⟨1, .data⟩ (by simp) rfl) rfl
          obtain rfl : x6 = .int .i64 PD := box_get (HW.out ⟨6, .data⟩ (by simp) rfl) rfl
          simp only [putAll, Act.put, List.setIfInBounds_toArray, List.set_cons_succ, List.set_cons_zero]
          have e3 := HE.out.2.2.1
          have e3w := w64 e3
          clear HW
          go_wp2_with fail
          have fin := HK.out (.int .i64 U) W (Below.refl _ _) rfl
          simp only [putAll, Act.put, List.setIfInBounds_toArray, List.set_cons_succ, List.set_cons_zero] at fin
          exact fin
        · rintro vs W K hc hvl hw hK
          obtain ⟨x0, x1, x2, x3, x4, x5, x6, x7, x8, x9, x10, x11, x12, x13, x14, x15, x16, x17, rfl⟩ := len18 hvl
          have HK := Lib.hid hK
          have HC := Lib.hid hc
          have HW := Lib.hid hw
          clear hK hc hw hvl
          simp only [putAll, Act.put, List.setIfInBounds_toArray, List.set_cons_succ, List.set_cons_zero]
          clear HW
          go_wp2_with fail
          have fin := HK.out (.pointer (some ⟨b10, 1, none⟩)) W (Below.refl _ _) rfl
          simp only [putAll, Act.put, List.setIfInBounds_toArray, List.set_cons_succ, List.set_cons_zero] at fin
          exact fin
        · rintro vs W K hc hvl hw hK
          obtain ⟨x0, x1, x2, x3, x4, x5, x6, x7, x8, x9, x10, x11, x12, x13, x14, x15, x16, x17, rfl⟩ := len18 hvl
          have HK := Lib.hid hK
          have HC := Lib.hid hc
          have HW := Lib.hid hw
          clear hK hc hw hvl
          obtain rfl : x8 = .pointer (some ⟨b10, 1, none⟩) := box_get (HW.out ⟨8, .data⟩ (by simp) rfl) rfl
          simp only [putAll, Act.put, List.setIfInBounds_toArray, List.set_cons_succ, List.set_cons_zero]
          have rr := HR10.out.below HC.out HR10.out.lt
          have d0 := rr.cell 1
          simp only [List.getElem?_cons_zero, List.getElem?_cons_succ] at d0
          clear rr
          clear HW
          go_wp2_with fail
          have fin := HK.out (.int .i64 Y) W (Below.refl _ _) rfl
          simp only [putAll, Act.put, List.setIfInBounds_toArray, List.set_cons_succ, List.set_cons_zero] at fin
          exact fin
        · rintro vs W K hc hvl hw hK
          obtain ⟨x0, x1, x2, x3, x4, x5, x6, x7, x8, x9, x10, x11, x12, x13, x14, x15, x16, x17, rfl⟩ := len18 hvl
          have HK := Lib.hid hK
          have HC := Lib.hid hc
          have HW := Lib.hid hw
          clear hK hc hw hvl
          simp only [putAll, Act.put, List.setIfInBounds_toArray, List.set_cons_succ, List.set_cons_zero]
          clear HW
          go_wp2_with fail
          have fin := HK.out (.pointer (some ⟨w.heap.size, 1, none⟩)) W (Below.refl _ _) rfl
          simp only [putAll, Act.put, List.setIfInBounds_toArray, List.set_cons_succ, List.set_cons_zero] at fin
          exact fin
        · rintro vs W K hc hvl hw hK
          obtain ⟨x0, x1, x2, x3, x4, x5, x6, x7, x8, x9, x10, x11, x12, x13, x14, x15, x16, x17, rfl⟩ := len18 hvl
          have HK := Lib.hid hK
          have HC := Lib.hid hc
          have HW := Lib.hid hw
          clear hK hc hw hvl
          obtain rfl : x10 = .pointer (some ⟨w.heap.size, 1, none⟩) := box_get (HW.out ⟨10, .data⟩ (by simp) rfl) rfl
          simp only [putAll, Act.put, List.setIfInBounds_toArray, List.set_cons_succ, List.set_cons_zero]
          have rr := RP3.out.below HC.out RP3.out.lt
          have d0 := rr.cell 1
          simp only [List.getElem?_cons_zero, List.getElem?_cons_succ] at d0
          clear rr
          clear HW
          go_wp2_with fail
          have fin := HK.out (.int .i64 py) W (Below.refl _ _) rfl
          simp only [putAll, Act.put, List.setIfInBounds_toArray, List.set_cons_succ, List.set_cons_zero] at fin
          exact fin
        · rintro vs W K hc hvl hw hK
          obtain ⟨x0, x1, x2, x3, x4, x5, x6, x7, x8, x9, x10, x11, x12, x13, x14, x15, x16, x17, rfl⟩ := len18 hvl
          have HK := Lib.hid hK
          have HC := Lib.hid hc
          have HW := Lib.hid hw
          clear hK hc hw hvl
          simp only [putAll, Act.put, List.setIfInBounds_toArray, List.set_cons_succ, List.set_cons_zero]
          clear HW
          go_wp2_with fail
          have fin := HK.out (.pointer (some ⟨b10, 2, none⟩)) W (Below.refl _ _) rfl
          simp only [putAll, Act.put, List.setIfInBounds_toArray, List.set_cons_succ, List.set_cons_zero] at fin
          exact fin
        · rintro vs W K hc hvl hw hK
          obtain ⟨x0, x1, x2, x3, x4, x5, x6, x7, x8, x9, x10, x11, x12, x13, x14, x15, x16, x17, rfl⟩ := len18 hvl
          have HK := Lib.hid hK
          have HC := Lib.hid hc
          have HW := Lib.hid hw
          clear hK hc hw hvl
          obtain rfl : x12 = .pointer (some ⟨b10, 2, none⟩) := box_get (HW.out ⟨12, .data⟩ (by simp) rfl) rfl
          simp only [putAll, Act.put, List.setIfInBounds_toArray, List.set_cons_succ, List.set_cons_zero]
          have rr := HR10.out.below HC.out HR10.out.lt
          have d0 := rr.cell 2
          simp only [List.getElem?_cons_zero, List.getElem?_cons_succ] at d0
          clear rr
          clear HW
          go_wp2_with fail
          have fin := HK.out (.int .i64 D) W (Below.refl _ _) rfl
          simp only [putAll, Act.put, List.setIfInBounds_toArray, List.set_cons_succ, List.set_cons_zero] at fin
          exact fin
        · rintro vs W K hc hvl hw hK
          obtain ⟨x0, x1, x2, x3, x4, x5, x6, x7, x8, x9, x10, x11, x12, x13, x14, x15, x16, x17, rfl⟩ := len18 hvl
          have HK := Lib.hid hK
          have HC := Lib.hid hc
          have HW := Lib.hid hw
          clear hK hc hw hvl
          obtain rfl : x11 = .int .i64 py := box_get (HW.out ⟨11, .data⟩ (by simp) rfl) rfl
          obtain rfl : x13 = .int .i64 D := box_get (HW.out ⟨13, .data⟩ (by simp) rfl) rfl
          simp only [putAll, Act.put, List.setIfInBounds_toArray, List.set_cons_succ, List.set_cons_zero]
          have e2 := HE.out.2.1
          have e2w := w64 e2
          clear HW
          go_wp2_with fail
          have fin := HK.out (.int .i64 QD) W (Below.refl _ _) rfl
          simp only [putAll, Act.put, List.setIfInBounds_toArray, List.set_cons_succ, List.set_cons_zero] at fin
          exact fin
        · rintro vs W K hc hvl hw hK
          obtain ⟨x0, x1, x2, x3, x4, x5, x6, x7, x8, x9, x10, x11, x12, x13, x14, x15, x16, x17, rfl⟩ := len18 hvl
          have HK := Lib.hid hK
          have HC := Lib.hid hc
          have HW := Lib.hid hw
          clear hK hc hw hvl
          obtain rfl : x9 = .int .i64 Y := box_get (HW.out ⟨9, .data⟩ (by simp) rfl) rfl
          obtain rfl : x14 = .int .i64 QD := box_get (HW.out ⟨14, .data⟩ (by simp) rfl) rfl
          simp only [putAll, Act.put, List.setIfInBounds_toArray, List.set_cons_succ, List.set_cons_zero]
          have e4 := HE.out.2.2.2.1
          have e4w := w64 e4
          clear HW
          go_wp2_with fail
          have fin := HK.out (.int .i64 Z) W (Below.refl _ _) rfl
          simp only [putAll, Act.put, List.setIfInBounds_toArray, List.set_cons_succ, List.set_cons_zero] at fin
          exact fin
        · rintro vs W K hc hvl hw hK
          obtain ⟨x0, x1, x2, x3, x4, x5, x6, x7, x8, x9, x10, x11, x12, x13, x14, x15, x16, x17, rfl⟩ := len18 hvl
          have HK := Lib.hid hK
          have HC := Lib.hid hc
          have HW := Lib.hid hw
          clear hK hc hw hvl
          obtain rfl : x7 = .int .i64 U := box_get (HW.out ⟨7, .data⟩ (by simp) rfl) rfl
          simp only [putAll, Act.put, List.setIfInBounds_toArray, List.set_cons_succ, List.set_cons_zero]
          clear HW
          go_wp2_with fail
          have fin := HK.out (.int .i64 U) W (Below.refl _ _) rfl
          simp only [putAll, Act.put, List.setIfInBounds_toArray, List.set_cons_succ, List.set_cons_zero] at fin
          exact fin
        · rintro vs W K hc hvl hw hK
          obtain ⟨x0, x1, x2, x3, x4, x5, x6, x7, x8, x9, x10, x11, x12, x13, x14, x15, x16, x17, rfl⟩ := len18 hvl
          have HK := Lib.hid hK
          have HC := Lib.hid hc
          have HW := Lib.hid hw
          clear hK hc hw hvl
          obtain rfl : x15 = .int .i64 Z := box_get (HW.out ⟨15, .data⟩ (by simp) rfl) rfl
          simp only [putAll, Act.put, List.setIfInBounds_toArray, List.set_cons_succ, List.set_cons_zero]
          clear HW
          go_wp2_with fail
          have fin := HK.out (.int .i64 Z) W (Below.refl _ _) rfl
          simp only [putAll, Act.put, List.setIfInBounds_toArray, List.set_cons_succ, List.set_cons_zero] at fin
          exact fin
      case fin =>
        rintro vs W hJ
        obtain ⟨x0, x1, x2, x3, x4, x5, x6, x7, x8, x9, x10, x11, x12, x13, x14, x15, x16, x17, rfl⟩ := len18 hJ.ln
        obtain rfl : x16 = .int .i64 U := box_get (hJ.val 16 rfl) rfl
        obtain rfl : x17 = .int .i64 Z := box_get (hJ.val 17 rfl) rfl
        have HC := Lib.hid hJ.bl
        clear hJ
        simp only [putAll, Act.put, List.setIfInBounds_toArray, List.set_cons_succ, List.set_cons_zero]
        have RC := Lib.hid (HR10.out.below HC.out HR10.out.lt)
        have RRC := Lib.hid (RR3.out.below HC.out RR3.out.lt)
        have BC := Lib.hid (Below.andThen B3.out HC.out (Nat.le_refl _))
        clear HC HR10 RP3 RR3 B3
        obtain ⟨e1, e2, e3, e4, e5, e6, e7⟩ := HE.out
        have hcR := RC.out.set 3 (.int .i64 R)
        have hrR := RRC.out.other 3 (.int .i64 R) (show w.heap.size + 1 ≠ b10 by have := HB10.out; omega)
        simp only [List.set_cons_succ, List.set_cons_zero] at hcR
        have a0 := RC.out.cell 3
        have a1 := frozen_of_row _ b10 3 _ _ RC.out
        have c0 := hcR.cell 0
        have c1 := hcR.cell 1
        have c2 := hcR.cell 2
        have c3 := hcR.cell 3
        have t0 := hrR.cell 0
        have t1 := hrR.cell 1
        have t2 := hrR.cell 2
        have t3 := hrR.cell 3
        have g0 := frozen_of_row _ (w.heap.size + 1) 0 _ _ hrR
        have g1 := frozen_of_row _ (w.heap.size + 1) 1 _ _ hrR
        have g2 := frozen_of_row _ (w.heap.size + 1) 2 _ _ hrR
        have g3 := frozen_of_row _ (w.heap.size + 1) 3 _ _ hrR
        simp only [List.getElem?_cons_zero, List.getElem?_cons_succ] at a0 c0 c1 c2 c3 t0 t1 t2 t3
        have HRR := Lib.hid hrR
        have BS := Lib.hid (show Below w.heap.size w (W.setCell ⟨b10, 3, none⟩ (.int .i64 R)) from (Below.andThen BV.out BC.out (Nat.le_refl _)).setCell (p := ⟨b10, 3, none⟩) (by have := HB10.out; dsimp only; omega) _)
        clear e1 e2 e3 e4 hcR hrR
        have e5w := w64 e5
        have e6w := w64 e6
        have e7w := w64 e7
        go_wp2_with fail
        have hr := (((HRR.out.set 0 (.int .i64 X)).set 1 (.int .i64 Y)).set 2 (.int .i64 D)).set 3 (.int .i64 R)
        have v0 := hr.cell 0
        have v1 := hr.cell 1
        have v2 := hr.cell 2
        have v3 := hr.cell 3
        simp only [List.set_cons_zero, List.set_cons_succ, List.getElem?_cons_zero, List.getElem?_cons_succ] at v0 v1 v2 v3
        refine bodyPost_ret (v := .agg #[.int .i64 X, .int .i64 Y, .int .i64 D, .int .i64 R]) (by simp [results, Try.results77, go_sem, v0, v1, v2, v3]) rfl ⟨rfl, ?_⟩
        exact (((BS.out.setCell (p := ⟨w.heap.size + 1, 0, none⟩) (by dsimp only; omega) _).setCell (p := ⟨w.heap.size + 1, 1, none⟩) (by dsimp only; omega) _).setCell (p := ⟨w.heap.size + 1, 2, none⟩) (by dsimp only; omega) _).setCell (p := ⟨w.heap.size + 1, 3, none⟩) (by dsimp only; omega) _
end Go.Proofs.Ytlemipnplgbckaa
