import Derived.Test.YtlemipnplgbckaaBY
import Derived.Laws.AppendOwn
import Derived.ChangeKeysEq
import Derived.Maps.RangeWalk
import Derived.Maps.OwnIn
import Derived.Maps.AppendAt
import Derived.RangeFuncNested
import Derived.RangeFuncBound
import Derived.RangeFuncCalls
import Derived.RangeFuncLeaves
import Derived.Shelf.Abstract
import Derived.Shelf.RegionOpen
import Derived.WalkKit
import Derived.WalkMore
import Derived.OwnWalkIn
import Derived.TacticsInMore
import Derived.LoopNIn
import Derived.LoopIn
import Derived.WalkSpells
import Derived.WalkLawsBesides
import Derived.BigQuiet
import Derived.Deep.QuietTactic
import Derived.Lib.Hide
import Derived.Deep.RegionHeld3
import Derived.StillTailTactics
import Derived.Deep.LoopGhost
import Derived.Maps.OwnSet
import Derived.Lib.IndexAny
import Derived.Sort.QuietThIn
import Derived.Sort.QuietTacIn
import Derived.Sort.BigQuietIn
import Derived.Laws.OwnMore
import Derived.DeepKeys4
import Derived.Maps.Views
import Derived.Maps.OwnOps
import Derived.Laws.OwnMore
import Derived.Deep.DeepCutAuto
import Derived.ChangeKeysEq
namespace Go.Proofs.Ytlemipnplgbckaa
open Go.RowKit Go.Shelf
attribute [local go_sem] Oper.semAt_some
/-- what divides all, with d's sign -/
def gS (x y d : Int) : Int := if d < 0 then -((gcdL 0 [x, y, d] : Nat) : Int) else ((gcdL 0 [x, y, d] : Nat) : Int)
theorem gS_ne {x y d : Int} (hd : d ≠ 0) : gS x y d ≠ 0 ∧ (gcdL 0 [x, y, d] : Nat) ≠ 0 := by
  have h : gcdL 0 [x, y, d] ≠ 0 := by
    simp only [gcdL]
    intro h
    have := Nat.eq_zero_of_gcd_eq_zero_right h
    omega
  refine ⟨?_, h⟩
  unfold gS; split <;> omega
theorem tdiv_bd {B x g : Int} (h : Bd B x) (_h0 : 0 ≤ B) : Bd B (x.tdiv g) := h.tdiv
def rX (x y d : Int) : Int := x.tdiv (gS x y d)
def rY (x y d : Int) : Int := y.tdiv (gS x y d)
def rD (x y d : Int) : Int := d.tdiv (gS x y d)
def rndV (x y d : Int) (p : Pt) : Value := cirV (rX x y d) (rY x y d) (rD x y d) (apF (rX x y d) (rY x y d) (rD x y d) p)
theorem three_cells (W : World) (x y d : Int) : IntsAt (W.alloc (.cells #[.int .i64 x, .int .i64 y, .int .i64 d] 3)) W.heap.size 0 [x, y, d] := by
  refine ⟨.inr (by rw [size_al]; omega), fun i hi => ?_⟩
  rw [cell_al, if_pos rfl]
  rcases i with _ | _ | _ | i
  · rfl
  · rfl
  · rfl
  · simp at hi; omega
set_option maxRecDepth 100000 in
set_option maxHeartbeats 600000 in
theorem round_any (x y d p q : Int) (w : World) (h1 : Bd 1000000 x) (h2 : Bd 1000000 y) (h3 : Bd 1000000 d) (h0 : d ≠ 0) (h4 : Bd 20 p) (h5 : Bd 20 q) :
    Calls Try.prog 93 #[.int .i64 x, .int .i64 y, .int .i64 d, .agg #[.int .i64 p, .int .i64 q]] w fun e w' => e = .returned (rndV x y d (p, q)) ∧ Below w.heap.size w w' := by
  obtain ⟨hg0, hgn⟩ := gS_ne (x := x) (y := y) h0
  have hGD : gS x y d = if d < 0 then -((gcdL 0 [x, y, d] : Nat) : Int) else ((gcdL 0 [x, y, d] : Nat) : Int) := rfl
  have HX := Lib.hid (show Bd 1000000 (rX x y d) from h1.tdiv)
  have HY := Lib.hid (show Bd 1000000 (rY x y d) from h2.tdiv)
  have HD := Lib.hid (show Bd 1000000 (rD x y d) from h3.tdiv)
  have HGC := Lib.hid (fun (W : World) (N : Nat) (hN : W.heap.size = N) => show Calls Try.prog 74 #[.slice (some ⟨N, 0, none⟩) 3 3] (W.alloc (.cells #[.int .i64 x, .int .i64 y, .int .i64 d] 3)) fun e w' => e = .returned (.int .i64 (gcdL 0 [x, y, d] : Nat)) ∧ Below (W.alloc (.cells #[.int .i64 x, .int .i64 y, .int .i64 d] 3)).heap.size (W.alloc (.cells #[.int .i64 x, .int .i64 y, .int .i64 d] 3)) w' from hN ▸ gcd_any [x, y, d] W.heap.size 0 3 _ (three_cells W x y d) (by simp) (fun z hz => by
    simp only [List.mem_cons, List.not_mem_nil, or_false] at hz
    rcases hz with rfl | rfl | rfl
    · exact h1.mono (by omega)
    · exact h2.mono (by omega)
    · exact h3.mono (by omega)))
  have hGb : gcdL 0 [x, y, d] ≤ 1000000 := by
    simp only [gcdL]
    have := Nat.le_of_dvd (by omega) (Nat.gcd_dvd_right (Nat.gcd (Nat.gcd 0 x.natAbs) y.natAbs) d.natAbs)
    have h3' := Bd.abs.1 h3
    omega
  have HRX := Lib.hid (show x.tdiv (gS x y d) = rX x y d from rfl)
  have HRY := Lib.hid (show y.tdiv (gS x y d) = rY x y d from rfl)
  have HRD := Lib.hid (show d.tdiv (gS x y d) = rD x y d from rfl)
  have HRV := Lib.hid (show rndV x y d (p, q) = cirV (rX x y d) (rY x y d) (rD x y d) (apF (rX x y d) (rY x y d) (rD x y d) (p, q)) from rfl)
  generalize gcdL 0 [x, y, d] = g at *
  generalize rndV x y d (p, q) = V at *
  generalize rX x y d = X at *
  generalize rY x y d = Y at *
  generalize rD x y d = D at *
  generalize gS x y d = G at *
  have HQ := Lib.hid (And.intro h4 h5)
  have HGE := Lib.hid hGD
  have wx : IntKind.i64.wrap (x.tdiv G) = X := by rw [HRX.out]; exact i64_bd HX.out (by omega)
  have wy : IntKind.i64.wrap (y.tdiv G) = Y := by rw [HRY.out]; exact i64_bd HY.out (by omega)
  have wd : IntKind.i64.wrap (d.tdiv G) = D := by rw [HRD.out]; exact i64_bd HD.out (by omega)
  have HWX := Lib.hid (And.intro wx (And.intro wy wd))
  clear h1 h2 h3 h4 h5 hGD wx wy wd
  go_enter Try.func93, Try.ntmps93
  go_wp2_with fail
  refine (HGC.out _ _ (by simp)).mono ?_
  rintro e w1 ⟨rfl, hb1⟩
  have HB1 := Lib.hid hb1
  clear hb1 HGC
  have ba : Below w.heap.size w (((w.alloc (.cells #[.int .i64 p, .int .i64 q] 28)).alloc (.cells #[.int .i64 0, .int .i64 0, .int .i64 0, .int .i64 0] 30)).alloc (.cells #[.int .i64 x, .int .i64 y, .int .i64 d] 3)) := (((Below.refl w.heap.size w).alloc (Nat.le_refl _) _).alloc (by simp) _).alloc (by simp; omega) _
  have rP : Row (((w.alloc (.cells #[.int .i64 p, .int .i64 q] 28)).alloc (.cells #[.int .i64 0, .int .i64 0, .int .i64 0, .int .i64 0] 30)).alloc (.cells #[.int .i64 x, .int .i64 y, .int .i64 d] 3)) w.heap.size 28 [.int .i64 p, .int .i64 q] := ((Row.new w 28 [.int .i64 p, .int .i64 q]).below (Below.al (Below.refl _ _) (Nat.le_refl _) _) (by simp)).below (Below.al (Below.refl _ _) (Nat.le_refl _) _) (by simp; omega)
  have rR : Row (((w.alloc (.cells #[.int .i64 p, .int .i64 q] 28)).alloc (.cells #[.int .i64 0, .int .i64 0, .int .i64 0, .int .i64 0] 30)).alloc (.cells #[.int .i64 x, .int .i64 y, .int .i64 d] 3)) (w.heap.size + 1) 30 [.int .i64 0, .int .i64 0, .int .i64 0, .int .i64 0] := by
    have := (Row.new (w.alloc (.cells #[.int .i64 p, .int .i64 q] 28)) 30 [.int .i64 0, .int .i64 0, .int .i64 0, .int .i64 0]).below (Below.al (Below.refl _ _) (Nat.le_refl _) (.cells #[.int .i64 x, .int .i64 y, .int .i64 d] 3)) (by simp)
    simpa using this
  have RP := Lib.hid (rP.below HB1.out rP.lt)
  have RR := Lib.hid (rR.below HB1.out rR.lt)
  have BW := Lib.hid (Below.andThen ba HB1.out (Nat.le_refl _))
  have hsz : w.heap.size + 1 < w1.heap.size := by have := HB1.out.size; simp at this; omega
  clear ba rP rR HB1
  obtain ⟨W0, hW0⟩ : ∃ W0, w1 = W0 := ⟨_, rfl⟩
  by_cases hneg : d < 0
  · have d1 : decide (d < 0) = true := decide_eq_true hneg
    have hG : G = -(g : Int) := by have := HGE.out; rw [if_pos hneg] at this; exact this
    have n1 : IntKind.i64.wrap (-(g : Int)) = G := by rw [hG]; exact i64_of _ (by omega) (by omega)
    clear hG hW0
    go_wp2_with fail
    refine wp_region_box (by kernel_rfl) (by kernel_rfl) [20, 21, 22, 23, 24, 25, 26, 27, 28, 29, 10, 1000] [(fun v => v = .int .i64 x), (fun v => v = .int .i64 G), (fun v => v = .int .i64 X), (fun v => v = .int .i64 y), (fun v => v = .int .i64 G), (fun v => v = .int .i64 Y), (fun v => v = .int .i64 d), (fun v => v = .int .i64 G), (fun v => v = .int .i64 D), (fun v => v = .agg #[.int .i64 X, .int .i64 Y, .int .i64 D, .int .i64 0]), (fun _ => True), (fun _ => True)] [none, none, none, none, none, none, none, none, none, none, some (30, [.int .i64 0, .int .i64 0, .int .i64 0, .int .i64 0], [.int .i64 X, .int .i64 Y, .int .i64 D, .int .i64 0]), none] [none, none, none, none, none, none, none, none, none, none, none, some 10] 12 rfl (by kernel_rfl) ?tr ⟨[undef, undef, undef, undef, undef, undef, undef, undef, undef, undef, undef, undef], by simp only [putAll, Act.put, List.setIfInBounds_toArray, List.set_cons_succ, List.set_cons_zero, List.set_nil], rfl⟩ ?steps ?fin
    case tr =>
      rintro i v h
      rcases i with _ | _ | _ | _ | _ | _ | _ | _ | _ | _ | _ | _ | i
      all_goals first | trivial | (exfalso; rcases h with h | h <;> simp at h)
    case steps =>
      simp only [boxSteps, Nat.reduceAdd, Nat.zero_add, List.getD_cons_succ, List.getD_cons_zero]
      refine ⟨?_, ?_, ?_, ?_, ?_, ?_, ?_, ?_, ?_, ?_, ?_, ?_, trivial⟩
      · rintro vs W K hc hvl hw hK
        obtain ⟨x0, x1, x2, x3, x4, x5, x6, x7, x8, x9, x10, x11, rfl⟩ := len12 hvl
        have HK := Lib.hid hK
        have HC := Lib.hid hc
        have HW := Lib.hid hw
        clear hK hc hw hvl
        simp only [putAll, Act.put, List.setIfInBounds_toArray, List.set_cons_succ, List.set_cons_zero, List.set_nil]
        clear HW
        go_wp2_with fail
        have fin := HK.out (.int .i64 x) W (Below.refl _ _) rfl
        simp only [putAll, Act.put, List.setIfInBounds_toArray, List.set_cons_succ, List.set_cons_zero, List.set_nil] at fin
        exact fin
      · rintro vs W K hc hvl hw hK
        obtain ⟨x0, x1, x2, x3, x4, x5, x6, x7, x8, x9, x10, x11, rfl⟩ := len12 hvl
        have HK := Lib.hid hK
        have HC := Lib.hid hc
        have HW := Lib.hid hw
        clear hK hc hw hvl
        simp only [putAll, Act.put, List.setIfInBounds_toArray, List.set_cons_succ, List.set_cons_zero, List.set_nil]
        clear HW
        go_wp2_with fail
        have fin := HK.out (.int .i64 G) W (Below.refl _ _) rfl
        simp only [putAll, Act.put, List.setIfInBounds_toArray, List.set_cons_succ, List.set_cons_zero, List.set_nil] at fin
        exact fin
      · rintro vs W K hc hvl hw hK
        obtain ⟨x0, x1, x2, x3, x4, x5, x6, x7, x8, x9, x10, x11, rfl⟩ := len12 hvl
        have HK := Lib.hid hK
        have HC := Lib.hid hc
        have HW := Lib.hid hw
        clear hK hc hw hvl
        obtain rfl : x0 = .int .i64 x := box_get (HW.out ⟨0, .data⟩ (by simp) rfl) rfl
        obtain rfl : x1 = .int .i64 G := box_get (HW.out ⟨1, .data⟩ (by simp) rfl) rfl
        simp only [putAll, Act.put, List.setIfInBounds_toArray, List.set_cons_succ, List.set_cons_zero, List.set_nil]
        obtain ⟨k1, k2, k3⟩ := HWX.out
        clear HW
        go_wp2_with fail
        have fin := HK.out (.int .i64 X) W (Below.refl _ _) rfl
        simp only [putAll, Act.put, List.setIfInBounds_toArray, List.set_cons_succ, List.set_cons_zero, List.set_nil] at fin
        exact fin
      · rintro vs W K hc hvl hw hK
        obtain ⟨x0, x1, x2, x3, x4, x5, x6, x7, x8, x9, x10, x11, rfl⟩ := len12 hvl
        have HK := Lib.hid hK
        have HC := Lib.hid hc
        have HW := Lib.hid hw
        clear hK hc hw hvl
        simp only [putAll, Act.put, List.setIfInBounds_toArray, List.set_cons_succ, List.set_cons_zero, List.set_nil]
        clear HW
        go_wp2_with fail
        have fin := HK.out (.int .i64 y) W (Below.refl _ _) rfl
        simp only [putAll, Act.put, List.setIfInBounds_toArray, List.set_cons_succ, List.set_cons_zero, List.set_nil] at fin
        exact fin
      · rintro vs W K hc hvl hw hK
        obtain ⟨x0, x1, x2, x3, x4, x5, x6, x7, x8, x9, x10, x11, rfl⟩ := len12 hvl
        have HK := Lib.hid hK
        have HC := Lib.hid hc
        have HW := Lib.hid hw
        clear hK hc hw hvl
        simp only [putAll, Act.put, List.setIfInBounds_toArray, List.set_cons_succ, List.set_cons_zero, List.set_nil]
        clear HW
        go_wp2_with fail
        have fin := HK.out (.int .i64 G) W (Below.refl _ _) rfl
        simp only [putAll, Act.put, List.setIfInBounds_toArray, List.set_cons_succ, List.set_cons_zero, List.set_nil] at fin
        exact fin
      · rintro vs W K hc hvl hw hK
        obtain ⟨x0, x1, x2, x3, x4, x5, x6, x7, x8, x9, x10, x11, rfl⟩ := len12 hvl
        have HK := Lib.hid hK
        have HC := Lib.hid hc
        have HW := Lib.hid hw
        clear hK hc hw hvl
        obtain rfl : x3 = .int .i64 y := box_get (HW.out ⟨3, .data⟩ (by simp) rfl) rfl
        obtain rfl : x4 = .int .i64 G := box_get (HW.out ⟨4, .data⟩ (by simp) rfl) rfl
        simp only [putAll, Act.put, List.setIfInBounds_toArray, List.set_cons_succ, List.set_cons_zero, List.set_nil]
        obtain ⟨k1, k2, k3⟩ := HWX.out
        clear HW
        go_wp2_with fail
        have fin := HK.out (.int .i64 Y) W (Below.refl _ _) rfl
        simp only [putAll, Act.put, List.setIfInBounds_toArray, List.set_cons_succ, List.set_cons_zero, List.set_nil] at fin
        exact fin
      · rintro vs W K hc hvl hw hK
        obtain ⟨x0, x1, x2, x3, x4, x5, x6, x7, x8, x9, x10, x11, rfl⟩ := len12 hvl
        have HK := Lib.hid hK
        have HC := Lib.hid hc
        have HW := Lib.hid hw
        clear hK hc hw hvl
        simp only [putAll, Act.put, List.setIfInBounds_toArray, List.set_cons_succ, List.set_cons_zero, List.set_nil]
        clear HW
        go_wp2_with fail
        have fin := HK.out (.int .i64 d) W (Below.refl _ _) rfl
        simp only [putAll, Act.put, List.setIfInBounds_toArray, List.set_cons_succ, List.set_cons_zero, List.set_nil] at fin
        exact fin
      · rintro vs W K hc hvl hw hK
        obtain ⟨x0, x1, x2, x3, x4, x5, x6, x7, x8, x9, x10, x11, rfl⟩ := len12 hvl
        have HK := Lib.hid hK
        have HC := Lib.hid hc
        have HW := Lib.hid hw
        clear hK hc hw hvl
        simp only [putAll, Act.put, List.setIfInBounds_toArray, List.set_cons_succ, List.set_cons_zero, List.set_nil]
        clear HW
        go_wp2_with fail
        have fin := HK.out (.int .i64 G) W (Below.refl _ _) rfl
        simp only [putAll, Act.put, List.setIfInBounds_toArray, List.set_cons_succ, List.set_cons_zero, List.set_nil] at fin
        exact fin
      · rintro vs W K hc hvl hw hK
        obtain ⟨x0, x1, x2, x3, x4, x5, x6, x7, x8, x9, x10, x11, rfl⟩ := len12 hvl
        have HK := Lib.hid hK
        have HC := Lib.hid hc
        have HW := Lib.hid hw
        clear hK hc hw hvl
        obtain rfl : x6 = .int .i64 d := box_get (HW.out ⟨6, .data⟩ (by simp) rfl) rfl
        obtain rfl : x7 = .int .i64 G := box_get (HW.out ⟨7, .data⟩ (by simp) rfl) rfl
        simp only [putAll, Act.put, List.setIfInBounds_toArray, List.set_cons_succ, List.set_cons_zero, List.set_nil]
        obtain ⟨k1, k2, k3⟩ := HWX.out
        clear HW
        go_wp2_with fail
        have fin := HK.out (.int .i64 D) W (Below.refl _ _) rfl
        simp only [putAll, Act.put, List.setIfInBounds_toArray, List.set_cons_succ, List.set_cons_zero, List.set_nil] at fin
        exact fin
      · rintro vs W K hc hvl hw hK
        obtain ⟨x0, x1, x2, x3, x4, x5, x6, x7, x8, x9, x10, x11, rfl⟩ := len12 hvl
        have HK := Lib.hid hK
        have HC := Lib.hid hc
        have HW := Lib.hid hw
        clear hK hc hw hvl
        obtain rfl : x2 = .int .i64 X := box_get (HW.out ⟨2, .data⟩ (by simp) rfl) rfl
        obtain rfl : x5 = .int .i64 Y := box_get (HW.out ⟨5, .data⟩ (by simp) rfl) rfl
        obtain rfl : x8 = .int .i64 D := box_get (HW.out ⟨8, .data⟩ (by simp) rfl) rfl
        simp only [putAll, Act.put, List.setIfInBounds_toArray, List.set_cons_succ, List.set_cons_zero, List.set_nil]
        clear HW
        go_wp2_with fail
        have fin := HK.out (.agg #[.int .i64 X, .int .i64 Y, .int .i64 D, .int .i64 0]) W (Below.refl _ _) rfl
        simp only [putAll, Act.put, List.setIfInBounds_toArray, List.set_cons_succ, List.set_cons_zero, List.set_nil] at fin
        exact fin
      · rintro vs W K hc hvl hw hK
        obtain ⟨x0, x1, x2, x3, x4, x5, x6, x7, x8, x9, x10, x11, rfl⟩ := len12 hvl
        have HK := Lib.hid hK
        have HC := Lib.hid hc
        have HW := Lib.hid hw
        clear hK hc hw hvl
        simp only [putAll, Act.put, List.setIfInBounds_toArray, List.set_cons_succ, List.set_cons_zero, List.set_nil]
        clear HW
        go_wp2_with fail
        have fin := HK.out
        simp only [putAll, Act.put, List.setIfInBounds_toArray, List.set_cons_succ, List.set_cons_zero, List.set_nil] at fin
        exact fin
      · rintro vs W K hc hvl hw b E z f hia hva hb0 hr hK
        cases hia
        obtain ⟨x0, x1, x2, x3, x4, x5, x6, x7, x8, x9, x10, x11, rfl⟩ := len12 hvl
        have HK := Lib.hid hK
        have HC := Lib.hid hc
        have HW := Lib.hid hw
        clear hK hc hw hvl
        obtain rfl : x9 = .agg #[.int .i64 X, .int .i64 Y, .int .i64 D, .int .i64 0] := box_get (HW.out ⟨9, .data⟩ (by simp) rfl) rfl
        obtain rfl : x10 = .pointer (some ⟨b, 0, none⟩) := Option.some.inj hva
        simp only [putAll, Act.put, List.setIfInBounds_toArray, List.set_cons_succ, List.set_cons_zero, List.set_nil]
        have f0 := frozen_of_row W b 0 _ _ hr
        have c0 : W.cell? ⟨b, 0, none⟩ = some (.int .i64 0) := hr.cell 0
        have f1 := frozen_of_row W b 1 _ _ hr
        have c1 : W.cell? ⟨b, 1, none⟩ = some (.int .i64 0) := hr.cell 1
        have f2 := frozen_of_row W b 2 _ _ hr
        have c2 : W.cell? ⟨b, 2, none⟩ = some (.int .i64 0) := hr.cell 2
        have f3 := frozen_of_row W b 3 _ _ hr
        have c3 : W.cell? ⟨b, 3, none⟩ = some (.int .i64 0) := hr.cell 3
        have HRW := Lib.hid hr
        clear HW hr hva
        go_wp2_with fail
        have fin := HK.out _ (show Row _ b 30 [.int .i64 X, .int .i64 Y, .int .i64 D, .int .i64 0] from by simpa using (show Row _ b 30 _ from ((((HRW.out.set 0 (.int .i64 X)).set 1 (.int .i64 Y)).set 2 (.int .i64 D)).set 3 (.int .i64 0)))) (grown_put (grown_put (grown_put (grown_put (grown_self W _)))))
        simp only [putAll, Act.put, List.setIfInBounds_toArray, List.set_cons_succ, List.set_cons_zero, List.set_nil] at fin
        exact fin
    case fin =>
      rintro vs W hJ
      obtain ⟨x0, x1, x2, x3, x4, x5, x6, x7, x8, x9, x10, x11, rfl⟩ := len12 hJ.ln
      obtain ⟨b10, e10, hb10, hr10⟩ := hJ.box 10 _ _ _ rfl rfl
      obtain rfl : x10 = .pointer (some ⟨b10, 0, none⟩) := Option.some.inj e10
      replace hr10 : Row W b10 30 [.int .i64 X, .int .i64 Y, .int .i64 D, .int .i64 0] := hr10
      have HR10 := Lib.hid hr10
      clear e10 hr10
      have HC := Lib.hid hJ.bl
      clear hJ
      simp only [putAll, Act.put, List.setIfInBounds_toArray, List.set_cons_succ, List.set_cons_zero, List.set_nil]
      have RP2 := Lib.hid (RP.out.below HC.out (Nat.lt_trans (Nat.lt_succ_self _) hsz))
      have RR2 := Lib.hid (RR.out.below HC.out hsz)
      have HBC := Lib.hid (Below.andThen BW.out HC.out (Nat.le_refl _))
      have hAP := apart_any X Y D 0 p q W HX.out HY.out HD.out HQ.out.1 HQ.out.2
      have HAP := Lib.hid hAP
      have x0 := HR10.out.cell 0
      have x1 := HR10.out.cell 1
      have x2 := HR10.out.cell 2
      have x3 := HR10.out.cell 3
      have y0 := RP2.out.cell 0
      have y1 := RP2.out.cell 1
      simp only [List.getElem?_cons_zero, List.getElem?_cons_succ] at x0 x1 x2 x3 y0 y1
      have HB10 := Lib.hid (show w.heap.size + 1 < b10 from Nat.lt_of_lt_of_le hsz hb10)
      clear hAP hb10
      go_wp2_with fail
      refine HAP.out.mono ?_
      rintro e w2 ⟨rfl, hb2⟩
      clear x0 x1 x2 x3 y0 y1 HAP
      have HR3 := Lib.hid (HR10.out.below hb2 HR10.out.lt)
      have RR3 := Lib.hid (RR2.out.below hb2 RR2.out.lt)
      have HBD := Lib.hid (Below.andThen HBC.out hb2 (Nat.le_refl _))
      clear hb2 HR10 RR2 HBC
      generalize apF X Y D (p, q) = A at *
      have hne : b10 ≠ w.heap.size + 1 := fun e => by have := HB10.out; omega
      have f3 := frozen_of_row _ b10 3 _ _ HR3.out
      have x3 := HR3.out.cell 3
      have rS : Row (w2.setCell ⟨b10, 3, none⟩ (.int .i64 A)) b10 30 [.int .i64 X, .int .i64 Y, .int .i64 D, .int .i64 A] := by simpa using HR3.out.set 3 (.int .i64 A)
      have rT : Row (w2.setCell ⟨b10, 3, none⟩ (.int .i64 A)) (w.heap.size + 1) 30 [.int .i64 0, .int .i64 0, .int .i64 0, .int .i64 0] := RR3.out.other 3 _ (fun e => hne e.symm)
      have x0 := rS.cell 0
      have x1 := rS.cell 1
      have x2 := rS.cell 2
      have x4 := rS.cell 3
      have t0 := rT.cell 0
      have t1 := rT.cell 1
      have t2 := rT.cell 2
      have t3 := rT.cell 3
      have g0 := frozen_of_row _ (w.heap.size + 1) 0 _ _ rT
      have g1 := frozen_of_row _ (w.heap.size + 1) 1 _ _ rT
      have g2 := frozen_of_row _ (w.heap.size + 1) 2 _ _ rT
      have g3 := frozen_of_row _ (w.heap.size + 1) 3 _ _ rT
      simp only [List.getElem?_cons_zero, List.getElem?_cons_succ] at x0 x1 x2 x3 x4 t0 t1 t2 t3
      have RT := Lib.hid rT
      have BS := Lib.hid (show Below w.heap.size w (w2.setCell ⟨b10, 3, none⟩ (.int .i64 A)) from HBD.out.setCell (p := ⟨b10, 3, none⟩) (by have := HB10.out; dsimp only; omega) _)
      clear rS rT
      go_wp2_with fail
      have hr := (((RT.out.set 0 (.int .i64 X)).set 1 (.int .i64 Y)).set 2 (.int .i64 D)).set 3 (.int .i64 A)
      have v0 := hr.cell 0
      have v1 := hr.cell 1
      have v2 := hr.cell 2
      have v3 := hr.cell 3
      simp only [List.set_cons_zero, List.set_cons_succ, List.getElem?_cons_zero, List.getElem?_cons_succ] at v0 v1 v2 v3
      refine bodyPost_ret (v := cirV X Y D A) (by simp [results, Try.results93, go_sem, v0, v1, v2, v3, cirV]) rfl ⟨by rw [HRV.out], ?_⟩
      exact (((BS.out.setCell (p := ⟨w.heap.size + 1, 0, none⟩) (by dsimp only; omega) _).setCell (p := ⟨w.heap.size + 1, 1, none⟩) (by dsimp only; omega) _).setCell (p := ⟨w.heap.size + 1, 2, none⟩) (by dsimp only; omega) _).setCell (p := ⟨w.heap.size + 1, 3, none⟩) (by dsimp only; omega) _
  · have d1 : decide (d < 0) = false := decide_eq_false hneg
    have hG : G = (g : Int) := by have := HGE.out; rw [if_neg hneg] at this; exact this
    subst hG
    clear hW0
    go_wp2_with fail
    refine wp_region_box (by kernel_rfl) (by kernel_rfl) [20, 21, 22, 23, 24, 25, 26, 27, 28, 29, 10, 1000] [(fun v => v = .int .i64 x), (fun v => v = .int .i64 (g : Int)), (fun v => v = .int .i64 X), (fun v => v = .int .i64 y), (fun v => v = .int .i64 (g : Int)), (fun v => v = .int .i64 Y), (fun v => v = .int .i64 d), (fun v => v = .int .i64 (g : Int)), (fun v => v = .int .i64 D), (fun v => v = .agg #[.int .i64 X, .int .i64 Y, .int .i64 D, .int .i64 0]), (fun _ => True), (fun _ => True)] [none, none, none, none, none, none, none, none, none, none, some (30, [.int .i64 0, .int .i64 0, .int .i64 0, .int .i64 0], [.int .i64 X, .int .i64 Y, .int .i64 D, .int .i64 0]), none] [none, none, none, none, none, none, none, none, none, none, none, some 10] 12 rfl (by kernel_rfl) ?tr ⟨[undef, undef, undef, undef, undef, undef, undef, undef, undef, undef, undef, undef], by simp only [putAll, Act.put, List.setIfInBounds_toArray, List.set_cons_succ, List.set_cons_zero, List.set_nil], rfl⟩ ?steps ?fin
    case tr =>
      rintro i v h
      rcases i with _ | _ | _ | _ | _ | _ | _ | _ | _ | _ | _ | _ | i
      all_goals first | trivial | (exfalso; rcases h with h | h <;> simp at h)
    case steps =>
      simp only [boxSteps, Nat.reduceAdd, Nat.zero_add, List.getD_cons_succ, List.getD_cons_zero]
      refine ⟨?_, ?_, ?_, ?_, ?_, ?_, ?_, ?_, ?_, ?_, ?_, ?_, trivial⟩
      · rintro vs W K hc hvl hw hK
        obtain ⟨x0, x1, x2, x3, x4, x5, x6, x7, x8, x9, x10, x11, rfl⟩ := len12 hvl
        have HK := Lib.hid hK
        have HC := Lib.hid hc
        have HW := Lib.hid hw
        clear hK hc hw hvl
        simp only [putAll, Act.put, List.setIfInBounds_toArray, List.set_cons_succ, List.set_cons_zero, List.set_nil]
        clear HW
        go_wp2_with fail
        have fin := HK.out (.int .i64 x) W (Below.refl _ _) rfl
        simp only [putAll, Act.put, List.setIfInBounds_toArray, List.set_cons_succ, List.set_cons_zero, List.set_nil] at fin
        exact fin
      · rintro vs W K hc hvl hw hK
        obtain ⟨x0, x1, x2, x3, x4, x5, x6, x7, x8, x9, x10, x11, rfl⟩ := len12 hvl
        have HK := Lib.hid hK
        have HC := Lib.hid hc
        have HW := Lib.hid hw
        clear hK hc hw hvl
        simp only [putAll, Act.put, List.setIfInBounds_toArray, List.set_cons_succ, List.set_cons_zero, List.set_nil]
        clear HW
        go_wp2_with fail
        have fin := HK.out (.int .i64 (g : Int)) W (Below.refl _ _) rfl
        simp only [putAll, Act.put, List.setIfInBounds_toArray, List.set_cons_succ, List.set_cons_zero, List.set_nil] at fin
        exact fin
      · rintro vs W K hc hvl hw hK
        obtain ⟨x0, x1, x2, x3, x4, x5, x6, x7, x8, x9, x10, x11, rfl⟩ := len12 hvl
        have HK := Lib.hid hK
        have HC := Lib.hid hc
        have HW := Lib.hid hw
        clear hK hc hw hvl
        obtain rfl : x0 = .int .i64 x := box_get (HW.out ⟨0, .data⟩ (by simp) rfl) rfl
        obtain rfl : x1 = .int .i64 (g : Int) := box_get (HW.out ⟨1, .data⟩ (by simp) rfl) rfl
        simp only [putAll, Act.put, List.setIfInBounds_toArray, List.set_cons_succ, List.set_cons_zero, List.set_nil]
        obtain ⟨k1, k2, k3⟩ := HWX.out
        clear HW
        go_wp2_with fail
        have fin := HK.out (.int .i64 X) W (Below.refl _ _) rfl
        simp only [putAll, Act.put, List.setIfInBounds_toArray, List.set_cons_succ, List.set_cons_zero, List.set_nil] at fin
        exact fin
      · rintro vs W K hc hvl hw hK
        obtain ⟨x0, x1, x2, x3, x4, x5, x6, x7, x8, x9, x10, x11, rfl⟩ := len12 hvl
        have HK := Lib.hid hK
        have HC := Lib.hid hc
        have HW := Lib.hid hw
        clear hK hc hw hvl
        simp only [putAll, Act.put, List.setIfInBounds_toArray, List.set_cons_succ, List.set_cons_zero, List.set_nil]
        clear HW
        go_wp2_with fail
        have fin := HK.out (.int .i64 y) W (Below.refl _ _) rfl
        simp only [putAll, Act.put, List.setIfInBounds_toArray, List.set_cons_succ, List.set_cons_zero, List.set_nil] at fin
        exact fin
      · rintro vs W K hc hvl hw hK
        obtain ⟨x0, x1, x2, x3, x4, x5, x6, x7, x8, x9, x10, x11, rfl⟩ := len12 hvl
        have HK := Lib.hid hK
        have HC := Lib.hid hc
        have HW := Lib.hid hw
        clear hK hc hw hvl
        simp only [putAll, Act.put, List.setIfInBounds_toArray, List.set_cons_succ, List.set_cons_zero, List.set_nil]
        clear HW
        go_wp2_with fail
        have fin := HK.out (.int .i64 (g : Int)) W (Below.refl _ _) rfl
        simp only [putAll, Act.put, List.setIfInBounds_toArray, List.set_cons_succ, List.set_cons_zero, List.set_nil] at fin
        exact fin
      · rintro vs W K hc hvl hw hK
        obtain ⟨x0, x1, x2, x3, x4, x5, x6, x7, x8, x9, x10, x11, rfl⟩ := len12 hvl
        have HK := Lib.hid hK
        have HC := Lib.hid hc
        have HW := Lib.hid hw
        clear hK hc hw hvl
        obtain rfl : x3 = .int .i64 y := box_get (HW.out ⟨3, .data⟩ (by simp) rfl) rfl
        obtain rfl : x4 = .int .i64 (g : Int) := box_get (HW.out ⟨4, .data⟩ (by simp) rfl) rfl
        simp only [putAll, Act.put, List.setIfInBounds_toArray, List.set_cons_succ, List.set_cons_zero, List.set_nil]
        obtain ⟨k1, k2, k3⟩ := HWX.out
        clear HW
        go_wp2_with fail
        have fin := HK.out (.int .i64 Y) W (Below.refl _ _) rfl
        simp only [putAll, Act.put, List.setIfInBounds_toArray, List.set_cons_succ, List.set_cons_zero, List.set_nil] at fin
        exact fin
      · rintro vs W K hc hvl hw hK
        obtain ⟨x0, x1, x2, x3, x4, x5, x6, x7, x8, x9, x10, x11, rfl⟩ := len12 hvl
        have HK := Lib.hid hK
        have HC := Lib.hid hc
        have HW := Lib.hid hw
        clear hK hc hw hvl
        simp only [putAll, Act.put, List.setIfInBounds_toArray, List.set_cons_succ, List.set_cons_zero, List.set_nil]
        clear HW
        go_wp2_with fail
        have fin := HK.out (.int .i64 d) W (Below.refl _ _) rfl
        simp only [putAll, Act.put, List.setIfInBounds_toArray, List.set_cons_succ, List.set_cons_zero, List.set_nil] at fin
        exact fin
      · rintro vs W K hc hvl hw hK
        obtain ⟨x0, x1, x2, x3, x4, x5, x6, x7, x8, x9, x10, x11, rfl⟩ := len12 hvl
        have HK := Lib.hid hK
        have HC := Lib.hid hc
        have HW := Lib.hid hw
        clear hK hc hw hvl
        simp only [putAll, Act.put, List.setIfInBounds_toArray, List.set_cons_succ, List.set_cons_zero, List.set_nil]
        clear HW
        go_wp2_with fail
        have fin := HK.out (.int .i64 (g : Int)) W (Below.refl _ _) rfl
        simp only [putAll, Act.put, List.setIfInBounds_toArray, List.set_cons_succ, List.set_cons_zero, List.set_nil] at fin
        exact fin
      · rintro vs W K hc hvl hw hK
        obtain ⟨x0, x1, x2, x3, x4, x5, x6, x7, x8, x9, x10, x11, rfl⟩ := len12 hvl
        have HK := Lib.hid hK
        have HC := Lib.hid hc
        have HW := Lib.hid hw
        clear hK hc hw hvl
        obtain rfl : x6 = .int .i64 d := box_get (HW.out ⟨6, .data⟩ (by simp) rfl) rfl
        obtain rfl : x7 = .int .i64 (g : Int) := box_get (HW.out ⟨7, .data⟩ (by simp) rfl) rfl
        simp only [putAll, Act.put, List.setIfInBounds_toArray, List.set_cons_succ, List.set_cons_zero, List.set_nil]
        obtain ⟨k1, k2, k3⟩ := HWX.out
        clear HW
        go_wp2_with fail
        have fin := HK.out (.int .i64 D) W (Below.refl _ _) rfl
        simp only [putAll, Act.put, List.setIfInBounds_toArray, List.set_cons_succ, List.set_cons_zero, List.set_nil] at fin
        exact fin
      · rintro vs W K hc hvl hw hK
        obtain ⟨x0, x1, x2, x3, x4, x5, x6, x7, x8, x9, x10, x11, rfl⟩ := len12 hvl
        have HK := Lib.hid hK
        have HC := Lib.hid hc
        have HW := Lib.hid hw
        clear hK hc hw hvl
        obtain rfl : x2 = .int .i64 X := box_get (HW.out ⟨2, .data⟩ (by simp) rfl) rfl
        obtain rfl : x5 = .int .i64 Y := box_get (HW.out ⟨5, .data⟩ (by simp) rfl) rfl
        obtain rfl : x8 = .int .i64 D := box_get (HW.out ⟨8, .data⟩ (by simp) rfl) rfl
        simp only [putAll, Act.put, List.setIfInBounds_toArray, List.set_cons_succ, List.set_cons_zero, List.set_nil]
        clear HW
        go_wp2_with fail
        have fin := HK.out (.agg #[.int .i64 X, .int .i64 Y, .int .i64 D, .int .i64 0]) W (Below.refl _ _) rfl
        simp only [putAll, Act.put, List.setIfInBounds_toArray, List.set_cons_succ, List.set_cons_zero, List.set_nil] at fin
        exact fin
      · rintro vs W K hc hvl hw hK
        obtain ⟨x0, x1, x2, x3, x4, x5, x6, x7, x8, x9, x10, x11, rfl⟩ := len12 hvl
        have HK := Lib.hid hK
        have HC := Lib.hid hc
        have HW := Lib.hid hw
        clear hK hc hw hvl
        simp only [putAll, Act.put, List.setIfInBounds_toArray, List.set_cons_succ, List.set_cons_zero, List.set_nil]
        clear HW
        go_wp2_with fail
        have fin := HK.out
        simp only [putAll, Act.put, List.setIfInBounds_toArray, List.set_cons_succ, List.set_cons_zero, List.set_nil] at fin
        exact fin
      · rintro vs W K hc hvl hw b E z f hia hva hb0 hr hK
        cases hia
        obtain ⟨x0, x1, x2, x3, x4, x5, x6, x7, x8, x9, x10, x11, rfl⟩ := len12 hvl
        have HK := Lib.hid hK
        have HC := Lib.hid hc
        have HW := Lib.hid hw
        clear hK hc hw hvl
        obtain rfl : x9 = .agg #[.int .i64 X, .int .i64 Y, .int .i64 D, .int .i64 0] := box_get (HW.out ⟨9, .data⟩ (by simp) rfl) rfl
        obtain rfl : x10 = .pointer (some ⟨b, 0, none⟩) := Option.some.inj hva
        simp only [putAll, Act.put, List.setIfInBounds_toArray, List.set_cons_succ, List.set_cons_zero, List.set_nil]
        have f0 := frozen_of_row W b 0 _ _ hr
        have c0 : W.cell? ⟨b, 0, none⟩ = some (.int .i64 0) := hr.cell 0
        have f1 := frozen_of_row W b 1 _ _ hr
        have c1 : W.cell? ⟨b, 1, none⟩ = some (.int .i64 0) := hr.cell 1
        have f2 := frozen_of_row W b 2 _ _ hr
        have c2 : W.cell? ⟨b, 2, none⟩ = some (.int .i64 0) := hr.cell 2
        have f3 := frozen_of_row W b 3 _ _ hr
        have c3 : W.cell? ⟨b, 3, none⟩ = some (.int .i64 0) := hr.cell 3
        have HRW := Lib.hid hr
        clear HW hr hva
        go_wp2_with fail
        have fin := HK.out _ (show Row _ b 30 [.int .i64 X, .int .i64 Y, .int .i64 D, .int .i64 0] from by simpa using (show Row _ b 30 _ from ((((HRW.out.set 0 (.int .i64 X)).set 1 (.int .i64 Y)).set 2 (.int .i64 D)).set 3 (.int .i64 0)))) (grown_put (grown_put (grown_put (grown_put (grown_self W _)))))
        simp only [putAll, Act.put, List.setIfInBounds_toArray, List.set_cons_succ, List.set_cons_zero, List.set_nil] at fin
        exact fin
    case fin =>
      rintro vs W hJ
      obtain ⟨x0, x1, x2, x3, x4, x5, x6, x7, x8, x9, x10, x11, rfl⟩ := len12 hJ.ln
      obtain ⟨b10, e10, hb10, hr10⟩ := hJ.box 10 _ _ _ rfl rfl
      obtain rfl : x10 = .pointer (some ⟨b10, 0, none⟩) := Option.some.inj e10
      replace hr10 : Row W b10 30 [.int .i64 X, .int .i64 Y, .int .i64 D, .int .i64 0] := hr10
      have HR10 := Lib.hid hr10
      clear e10 hr10
      have HC := Lib.hid hJ.bl
      clear hJ
      simp only [putAll, Act.put, List.setIfInBounds_toArray, List.set_cons_succ, List.set_cons_zero, List.set_nil]
      have RP2 := Lib.hid (RP.out.below HC.out (Nat.lt_trans (Nat.lt_succ_self _) hsz))
      have RR2 := Lib.hid (RR.out.below HC.out hsz)
      have HBC := Lib.hid (Below.andThen BW.out HC.out (Nat.le_refl _))
      have hAP := apart_any X Y D 0 p q W HX.out HY.out HD.out HQ.out.1 HQ.out.2
      have HAP := Lib.hid hAP
      have x0 := HR10.out.cell 0
      have x1 := HR10.out.cell 1
      have x2 := HR10.out.cell 2
      have x3 := HR10.out.cell 3
      have y0 := RP2.out.cell 0
      have y1 := RP2.out.cell 1
      simp only [List.getElem?_cons_zero, List.getElem?_cons_succ] at x0 x1 x2 x3 y0 y1
      have HB10 := Lib.hid (show w.heap.size + 1 < b10 from Nat.lt_of_lt_of_le hsz hb10)
      clear hAP hb10
      go_wp2_with fail
      refine HAP.out.mono ?_
      rintro e w2 ⟨rfl, hb2⟩
      clear x0 x1 x2 x3 y0 y1 HAP
      have HR3 := Lib.hid (HR10.out.below hb2 HR10.out.lt)
      have RR3 := Lib.hid (RR2.out.below hb2 RR2.out.lt)
      have HBD := Lib.hid (Below.andThen HBC.out hb2 (Nat.le_refl _))
      clear hb2 HR10 RR2 HBC
      generalize apF X Y D (p, q) = A at *
      have hne : b10 ≠ w.heap.size + 1 := fun e => by have := HB10.out; omega
      have f3 := frozen_of_row _ b10 3 _ _ HR3.out
      have x3 := HR3.out.cell 3
      have rS : Row (w2.setCell ⟨b10, 3, none⟩ (.int .i64 A)) b10 30 [.int .i64 X, .int .i64 Y, .int .i64 D, .int .i64 A] := by simpa using HR3.out.set 3 (.int .i64 A)
      have rT : Row (w2.setCell ⟨b10, 3, none⟩ (.int .i64 A)) (w.heap.size + 1) 30 [.int .i64 0, .int .i64 0, .int .i64 0, .int .i64 0] := RR3.out.other 3 _ (fun e => hne e.symm)
      have x0 := rS.cell 0
      have x1 := rS.cell 1
      have x2 := rS.cell 2
      have x4 := rS.cell 3
      have t0 := rT.cell 0
      have t1 := rT.cell 1
      have t2 := rT.cell 2
      have t3 := rT.cell 3
      have g0 := frozen_of_row _ (w.heap.size + 1) 0 _ _ rT
      have g1 := frozen_of_row _ (w.heap.size + 1) 1 _ _ rT
      have g2 := frozen_of_row _ (w.heap.size + 1) 2 _ _ rT
      have g3 := frozen_of_row _ (w.heap.size + 1) 3 _ _ rT
      simp only [List.getElem?_cons_zero, List.getElem?_cons_succ] at x0 x1 x2 x3 x4 t0 t1 t2 t3
      have RT := Lib.hid rT
      have BS := Lib.hid (show Below w.heap.size w (w2.setCell ⟨b10, 3, none⟩ (.int .i64 A)) from HBD.out.setCell (p := ⟨b10, 3, none⟩) (by have := HB10.out; dsimp only; omega) _)
      clear rS rT
      go_wp2_with fail
      have hr := (((RT.out.set 0 (.int .i64 X)).set 1 (.int .i64 Y)).set 2 (.int .i64 D)).set 3 (.int .i64 A)
      have v0 := hr.cell 0
      have v1 := hr.cell 1
      have v2 := hr.cell 2
      have v3 := hr.cell 3
      simp only [List.set_cons_zero, List.set_cons_succ, List.getElem?_cons_zero, List.getElem?_cons_succ] at v0 v1 v2 v3
      refine bodyPost_ret (v := cirV X Y D A) (by simp [results, Try.results93, go_sem, v0, v1, v2, v3, cirV]) rfl ⟨by rw [HRV.out], ?_⟩
      exact (((BS.out.setCell (p := ⟨w.heap.size + 1, 0, none⟩) (by dsimp only; omega) _).setCell (p := ⟨w.heap.size + 1, 1, none⟩) (by dsimp only; omega) _).setCell (p := ⟨w.heap.size + 1, 2, none⟩) (by dsimp only; omega) _).setCell (p := ⟨w.heap.size + 1, 3, none⟩) (by dsimp only; omega) _
end Go.Proofs.Ytlemipnplgbckaa
