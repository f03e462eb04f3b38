import Derived.Test.YtlemipnplgbckaaPW
import Derived.Test.YtlemipnplgbckaaPJ
import Derived.Laws.AppendOwn
import Derived.ChangeKeysEq
import Derived.Maps.RangeWalk
import Derived.Maps.OwnIn
import Derived.Maps.AppendAt
import Derived.RangeFuncNested
import Derived.RangeFuncBound
import Derived.RangeFuncCalls
import Derived.RangeFuncLeaves
import Derived.Shelf.Abstract
import Derived.Shelf.RegionOpen
import Derived.WalkKit
import Derived.WalkMore
import Derived.OwnWalkIn
import Derived.TacticsInMore
import Derived.LoopNIn
import Derived.LoopIn
import Derived.WalkSpells
import Derived.WalkLawsBesides
import Derived.BigQuiet
import Derived.Deep.QuietTactic
import Derived.Lib.Hide
import Derived.Deep.RegionHeld3
import Derived.StillTailTactics
import Derived.Deep.LoopGhost
import Derived.Maps.OwnSet
import Derived.Lib.IndexAny
import Derived.Sort.QuietThIn
import Derived.Sort.QuietTacIn
import Derived.Sort.BigQuietIn
import Derived.Laws.OwnMore
import Derived.DeepKeys4
import Derived.Maps.Views
import Derived.Maps.OwnOps
import Derived.Laws.OwnMore
import Derived.Deep.DeepCutAuto
import Derived.ChangeKeysEq
namespace Go.Proofs.Ytlemipnplgbckaa
open Go.RowKit Go.Shelf
attribute [local go_sem] Oper.semAt_some
theorem turn_crs (a b c : Pt) : (b.1 - a.1) * (c.2 - b.2) - (b.2 - a.2) * (c.1 - b.1) = crs (b.1 - a.1, b.2 - a.2) (c.1 - a.1, c.2 - a.2) := by
  unfold crs; dsimp only; grind
set_option maxRecDepth 100000 in
set_option maxHeartbeats 400000 in
theorem Turn_any (a1 a2 b1 b2 c1 c2 : Int) (w : World) (h1 : Bd 20 a1) (h2 : Bd 20 a2) (h3 : Bd 20 b1) (h4 : Bd 20 b2) (h5 : Bd 20 c1) (h6 : Bd 20 c2) :
    Calls Try.prog 52 #[.agg #[.int .i64 a1, .int .i64 a2], .agg #[.int .i64 b1, .int .i64 b2], .agg #[.int .i64 c1, .int .i64 c2]] w fun e w' => e = .returned (.int .i64 (crs (b1 - a1, b2 - a2) (c1 - a1, c2 - a2))) ∧ Below w.heap.size w w' := by
  have hz := turn_crs (a1, a2) (b1, b2) (c1, c2)
  dsimp only at hz
  rw [← hz]
  have m1 := (h3.sub h1).mul (h6.sub h4)
  have m2 := (h4.sub h2).mul (h5.sub h3)
  have e1 := i64_bd (h3.sub h1) (by omega)
  have e2 := i64_bd (h6.sub h4) (by omega)
  have e3 := i64_bd (h4.sub h2) (by omega)
  have e4 := i64_bd (h5.sub h3) (by omega)
  have e5 := i64_bd m1 (by omega)
  have e6 := i64_bd m2 (by omega)
  have e7 := i64_bd (m1.sub m2) (by omega)
  have BA := Lib.hid ((((Below.refl w.heap.size w).alloc (Nat.le_refl _) (.cells #[.int .i64 a1, .int .i64 a2] 28)).alloc (by simp) (.cells #[.int .i64 b1, .int .i64 b2] 28)).alloc (by simp; omega) (.cells #[.int .i64 c1, .int .i64 c2] 28))
  clear m1 m2 hz h1 h2 h3 h4 h5 h6
  go_enter Try.func52, Try.ntmps52
  go_wp2_with fail
  go_ret
  exact ⟨rfl, BA.out⟩
/-- boxes for three pairs and a circle of the reference that is returned -/
theorem thr_start46 (w : World) (a1 a2 b1 b2 c1 c2 : Int) : ∃ V, V = (((w.alloc (.cells #[.int .i64 a1, .int .i64 a2] 28)).alloc (.cells #[.int .i64 b1, .int .i64 b2] 28)).alloc (.cells #[.int .i64 c1, .int .i64 c2] 28)).alloc (.cells #[.int .i64 0, .int .i64 0, .int .i64 0, .int .i64 0] 46) ∧
    Row V w.heap.size 28 [.int .i64 a1, .int .i64 a2] ∧ Row V (w.heap.size + 1) 28 [.int .i64 b1, .int .i64 b2] ∧ Row V (w.heap.size + 1 + 1) 28 [.int .i64 c1, .int .i64 c2] ∧ Row V (w.heap.size + 1 + 1 + 1) 46 [.int .i64 0, .int .i64 0, .int .i64 0, .int .i64 0] ∧ Below w.heap.size w V := by
  obtain ⟨V1, hV, r1, r2, b1', hs⟩ := two_start w 28 28 [.int .i64 a1, .int .i64 a2] [.int .i64 b1, .int .i64 b2]
  obtain ⟨V2, hV2, r3, r4, b2', hs2⟩ := two_start V1 28 46 [.int .i64 c1, .int .i64 c2] [.int .i64 0, .int .i64 0, .int .i64 0, .int .i64 0]
  refine ⟨V2, by rw [hV2, hV], r1.below b2' r1.lt, r2.below b2' r2.lt, by rw [← hs]; exact r3, by rw [← hs]; exact r4, Below.andThen b1' b2' (Nat.le_refl _)⟩
set_option maxRecDepth 100000 in
set_option maxHeartbeats 1000000 in
theorem rThrough_any (a1 a2 b1 b2 c1 c2 : Int) (w : World) (h1 : Bd 20 a1) (h2 : Bd 20 a2) (h3 : Bd 20 b1) (h4 : Bd 20 b2) (h5 : Bd 20 c1) (h6 : Bd 20 c2) :
    Calls Try.prog 40 #[.agg #[.int .i64 a1, .int .i64 a2], .agg #[.int .i64 b1, .int .i64 b2], .agg #[.int .i64 c1, .int .i64 c2]] w fun e w' => e = .returned (.tuple #[thrV (a1, a2) (b1, b2) (c1, c2), .bool (!decide (thD (a1, a2) (b1, b2) (c1, c2) = 0))]) ∧ Below w.heap.size w w' := by
  obtain ⟨V, hV, ra, rb, rc, rR, bV⟩ := thr_start46 w a1 a2 b1 b2 c1 c2
  have HTN := Lib.hid (fun (W : World) => Turn_any a1 a2 b1 b2 c1 c2 W h1 h2 h3 h4 h5 h6)
  have bP1 := h3.sub h1
  have bP2 := h4.sub h2
  have bQ1 := h5.sub h1
  have bQ2 := h6.sub h2
  have hTV := thrV_eq (a1, a2) (b1, b2) (c1, c2)
  have hthC : thC (a1, a2) (b1, b2) (c1, c2) = rndC (thD (a1, a2) (b1, b2) (c1, c2) * a1 + thX (a1, a2) (b1, b2) (c1, c2)) (thD (a1, a2) (b1, b2) (c1, c2) * a2 + thY (a1, a2) (b1, b2) (c1, c2)) (thD (a1, a2) (b1, b2) (c1, c2)) (a1, a2) := rfl
  have hthD : thD (a1, a2) (b1, b2) (c1, c2) = 2 * crs (b1 - a1, b2 - a2) (c1 - a1, c2 - a2) := rfl
  have hX : thX (a1, a2) (b1, b2) (c1, c2) = (c2 - a2) * ((b1 - a1) * (b1 - a1) + (b2 - a2) * (b2 - a2)) - (b2 - a2) * ((c1 - a1) * (c1 - a1) + (c2 - a2) * (c2 - a2)) := rfl
  have hY : thY (a1, a2) (b1, b2) (c1, c2) = (b1 - a1) * ((c1 - a1) * (c1 - a1) + (c2 - a2) * (c2 - a2)) - (c1 - a1) * ((b1 - a1) * (b1 - a1) + (b2 - a2) * (b2 - a2)) := rfl
  have bC : Bd 3200 (crs (b1 - a1, b2 - a2) (c1 - a1, c2 - a2)) := ((bP1.mul bQ2).sub (bP2.mul bQ1)).mono (by omega)
  have f1 := i64_bd bP1 (by omega)
  have f2 := i64_bd bP2 (by omega)
  have f3 := i64_bd bQ1 (by omega)
  have f4 := i64_bd bQ2 (by omega)
  generalize crs (b1 - a1, b2 - a2) (c1 - a1, c2 - a2) = CR at *
  obtain ⟨P1, hP1⟩ : ∃ t, b1 - a1 = t := ⟨_, rfl⟩
  obtain ⟨P2, hP2⟩ : ∃ t, b2 - a2 = t := ⟨_, rfl⟩
  obtain ⟨Q1, hQ1⟩ : ∃ t, c1 - a1 = t := ⟨_, rfl⟩
  obtain ⟨Q2, hQ2⟩ : ∃ t, c2 - a2 = t := ⟨_, rfl⟩
  have f1' : IntKind.i64.wrap (b1 - a1) = P1 := f1.trans hP1
  have f2' : IntKind.i64.wrap (b2 - a2) = P2 := f2.trans hP2
  have f3' : IntKind.i64.wrap (c1 - a1) = Q1 := f3.trans hQ1
  have f4' : IntKind.i64.wrap (c2 - a2) = Q2 := f4.trans hQ2
  rw [hP1, hP2, hQ1, hQ2] at hX hY
  rw [hP1] at bP1
  rw [hP2] at bP2
  rw [hQ1] at bQ1
  rw [hQ2] at bQ2
  clear f1 f2 f3 f4 hP1 hP2 hQ1 hQ2
  have u1 := i64_bd (bP1.mul bP1) (by omega)
  have u2 := i64_bd (bP2.mul bP2) (by omega)
  have u3 := i64_bd ((bP1.mul bP1).add (bP2.mul bP2)) (by omega)
  have u4 := i64_bd (bQ1.mul bQ1) (by omega)
  have u5 := i64_bd (bQ2.mul bQ2) (by omega)
  have u6 := i64_bd ((bQ1.mul bQ1).add (bQ2.mul bQ2)) (by omega)
  have bS := (bP1.mul bP1).add (bP2.mul bP2)
  have bT := (bQ1.mul bQ1).add (bQ2.mul bQ2)
  have HU := Lib.hid (And.intro u1 (And.intro u2 (And.intro u3 (And.intro u4 (And.intro u5 u6)))))
  obtain ⟨S, hS⟩ : ∃ t, P1 * P1 + P2 * P2 = t := ⟨_, rfl⟩
  obtain ⟨T, hT⟩ : ∃ t, Q1 * Q1 + Q2 * Q2 = t := ⟨_, rfl⟩
  have HST := Lib.hid (And.intro hS hT)
  rw [hS] at bS hX hY
  rw [hT] at bT hX hY
  have v1 := i64_bd (bQ2.mul bS) (by omega)
  have v2 := i64_bd (bP2.mul bT) (by omega)
  have v3 := i64_bd ((bQ2.mul bS).sub (bP2.mul bT)) (by omega)
  have v4 := i64_bd (bP1.mul bT) (by omega)
  have v5 := i64_bd (bQ1.mul bS) (by omega)
  have v6 := i64_bd ((bP1.mul bT).sub (bQ1.mul bS)) (by omega)
  have bX := (bQ2.mul bS).sub (bP2.mul bT)
  have bY := (bP1.mul bT).sub (bQ1.mul bS)
  rw [← hX] at bX v3
  rw [← hY] at bY v6
  have HVV := Lib.hid (And.intro v1 (And.intro v2 (And.intro v3 (And.intro v4 (And.intro v5 v6)))))
  have HXY := Lib.hid (And.intro hX hY)
  have bD : Bd 6400 (2 * CR) := by unfold Bd at *; omega
  have dd := i64_bd bD (by omega)
  rw [← hthD] at bD dd
  have dd2 : IntKind.i64.wrap (2 * CR) = thD (a1, a2) (b1, b2) (c1, c2) := by rw [hthD]; exact i64_bd (show Bd 6400 (2 * CR) by unfold Bd at *; omega) (by omega)
  have HDD := Lib.hid dd2
  have r1 := i64_bd (h1.mul bD) (by omega)
  have r2 := i64_bd (h2.mul bD) (by omega)
  have r3 := i64_bd (bX.add (h1.mul bD)) (by omega)
  have r4 := i64_bd (bY.add (h2.mul bD)) (by omega)
  have HR := Lib.hid (And.intro r1 (And.intro r2 (And.intro r3 r4)))
  have HRN := Lib.hid (fun (hd : thD (a1, a2) (b1, b2) (c1, c2) ≠ 0) (W : World) => (by
    have := rround_any (thX (a1, a2) (b1, b2) (c1, c2) + a1 * thD (a1, a2) (b1, b2) (c1, c2)) (thY (a1, a2) (b1, b2) (c1, c2) + a2 * thD (a1, a2) (b1, b2) (c1, c2)) (thD (a1, a2) (b1, b2) (c1, c2)) a1 a2 W ((bX.add (h1.mul bD)).mono (by omega)) ((bY.add (h2.mul bD)).mono (by omega)) (bD.mono (by omega)) hd h1 h2
    have e1 : thX (a1, a2) (b1, b2) (c1, c2) + a1 * thD (a1, a2) (b1, b2) (c1, c2) = thD (a1, a2) (b1, b2) (c1, c2) * a1 + thX (a1, a2) (b1, b2) (c1, c2) := by rw [Int.add_comm, Int.mul_comm]
    have e2 : thY (a1, a2) (b1, b2) (c1, c2) + a2 * thD (a1, a2) (b1, b2) (c1, c2) = thD (a1, a2) (b1, b2) (c1, c2) * a2 + thY (a1, a2) (b1, b2) (c1, c2) := by rw [Int.add_comm, Int.mul_comm]
    have e3 := hthC
    rw [← e1, ← e2] at e3
    rw [← e3] at this
    exact this : Calls Try.prog 77 #[.int .i64 (thX (a1, a2) (b1, b2) (c1, c2) + a1 * thD (a1, a2) (b1, b2) (c1, c2)), .int .i64 (thY (a1, a2) (b1, b2) (c1, c2) + a2 * thD (a1, a2) (b1, b2) (c1, c2)), .int .i64 (thD (a1, a2) (b1, b2) (c1, c2)), .agg #[.int .i64 a1, .int .i64 a2]] W fun e w' => e = .returned (thC (a1, a2) (b1, b2) (c1, c2)).V ∧ Below W.heap.size W w'))
  have HTV := Lib.hid hTV
  have HF := Lib.hid (And.intro f1' (And.intro f2' (And.intro f3' f4')))
  clear hthC hthD hX hY hTV bX bY bS bT bC bD dd dd2 r1 r2 r3 r4 v1 v2 v3 v4 v5 v6 u1 u2 u3 u4 u5 u6 hS hT f1' f2' f3' f4' bP1 bP2 bQ1 bQ2 h1 h2 h3 h4 h5 h6
  generalize thX (a1, a2) (b1, b2) (c1, c2) = TX at *
  generalize thY (a1, a2) (b1, b2) (c1, c2) = TY at *
  generalize thD (a1, a2) (b1, b2) (c1, c2) = D at *
  generalize thC (a1, a2) (b1, b2) (c1, c2) = M at *
  generalize thrV (a1, a2) (b1, b2) (c1, c2) = TV at *
  obtain ⟨M1, M2, M3, M4⟩ := M
  unfold Cir.V cirV at HRN HTV
  dsimp only at HRN HTV
  have RA := Lib.hid ra
  have RB := Lib.hid rb
  have RC := Lib.hid rc
  have RR := Lib.hid rR
  have BV := Lib.hid bV
  have ka0 := ra.cell 0
  have ka1 := ra.cell 1
  have kb0 := rb.cell 0
  have kb1 := rb.cell 1
  have kc0 := rc.cell 0
  have kc1 := rc.cell 1
  simp only [List.getElem?_cons_zero, List.getElem?_cons_succ] at ka0 ka1 kb0 kb1 kc0 kc1
  clear ra rb rc rR bV
  go_enter Try.func40, Try.ntmps40
  go_wp2_with fail
  rw [← hV]
  refine (HTN.out V).mono ?_
  rintro e w1 ⟨rfl, hb1⟩
  have B1 := Lib.hid (Below.andThen BV.out hb1 (Nat.le_refl _))
  have RA1 := Lib.hid (RA.out.below hb1 RA.out.lt)
  have RB1 := Lib.hid (RB.out.below hb1 RB.out.lt)
  have RC1 := Lib.hid (RC.out.below hb1 RC.out.lt)
  have RR1 := Lib.hid (RR.out.below hb1 RR.out.lt)
  have dd := HDD.out
  have ddw := w64 dd
  clear hb1 HTN RA RB RC RR BV ka0 ka1 kb0 kb1 kc0 kc1 hV
  by_cases hD : D = 0
  · have d1 : (D == 0) = true := by simp; exact hD
    have HZ := Lib.hid (show TV = .agg #[.int .i64 0, .int .i64 0, .int .i64 0, .int .i64 0] by rw [HTV.out, if_pos hD])
    have HD0 := Lib.hid hD
    clear hD
    have rT := RR1.out
    have t0 := rT.cell 0
    have t1 := rT.cell 1
    have t2 := rT.cell 2
    have t3 := rT.cell 3
    have g0 := frozen_of_row _ (w.heap.size + 1 + 1 + 1) 0 _ _ rT
    have g1 := frozen_of_row _ (w.heap.size + 1 + 1 + 1) 1 _ _ rT
    have g2 := frozen_of_row _ (w.heap.size + 1 + 1 + 1) 2 _ _ rT
    have g3 := frozen_of_row _ (w.heap.size + 1 + 1 + 1) 3 _ _ rT
    simp only [List.getElem?_cons_zero, List.getElem?_cons_succ] at t0 t1 t2 t3
    clear rT
    go_wp2_with fail
    have hr := ((((RR1.out.set 0 (.int .i64 0)).set 1 (.int .i64 0)).set 2 (.int .i64 0)).set 3 (.int .i64 0))
    have v0 := hr.cell 0
    have v1 := hr.cell 1
    have v2 := hr.cell 2
    have v3 := hr.cell 3
    simp only [List.set_cons_zero, List.set_cons_succ, List.getElem?_cons_zero, List.getElem?_cons_succ] at v0 v1 v2 v3
    refine bodyPost_ret (v := .tuple #[.agg #[.int .i64 0, .int .i64 0, .int .i64 0, .int .i64 0], .bool false]) (by simp [results, Try.results40, go_sem, v0, v1, v2, v3]) rfl ⟨by rw [HZ.out, decide_eq_true HD0.out]; rfl, ?_⟩
    exact ((((B1.out.setCell (p := ⟨w.heap.size + 1 + 1 + 1, 0, none⟩) (by dsimp only; omega) _).setCell (p := ⟨w.heap.size + 1 + 1 + 1, 1, none⟩) (by dsimp only; omega) _).setCell (p := ⟨w.heap.size + 1 + 1 + 1, 2, none⟩) (by dsimp only; omega) _).setCell (p := ⟨w.heap.size + 1 + 1 + 1, 3, none⟩) (by dsimp only; omega) _)
  · have d1 : (D == 0) = false := by simp; exact hD
    have HZ := Lib.hid (show TV = .agg #[.int .i64 M1, .int .i64 M2, .int .i64 M3, .int .i64 M4] by rw [HTV.out, if_neg hD])
    have HRN2 := Lib.hid (HRN.out hD)
    have HD0 := Lib.hid hD
    clear hD HRN
    go_wp2_with fail
    refine wp_region_box (by kernel_rfl) (by kernel_rfl) [23, 24, 25, 26, 27, 28, 29, 30, 31, 32, 33, 34, 35, 36, 37, 38, 39, 40, 41, 42, 43, 44, 9, 10, 1000, 1001] [(fun v => v = .pointer (some ⟨w.heap.size + 1, 0, none⟩)), (fun v => v = .int .i64 b1), (fun v => v = .pointer (some ⟨w.heap.size, 0, none⟩)), (fun v => v = .int .i64 a1), (fun v => v = .int .i64 P1), (fun v => v = .pointer (some ⟨w.heap.size + 1, 1, none⟩)), (fun v => v = .int .i64 b2), (fun v => v = .pointer (some ⟨w.heap.size, 1, none⟩)), (fun v => v = .int .i64 a2), (fun v => v = .int .i64 P2), (fun v => v = .agg #[.int .i64 P1, .int .i64 P2]), (fun v => v = .pointer (some ⟨w.heap.size + 1 + 1, 0, none⟩)), (fun v => v = .int .i64 c1), (fun v => v = .pointer (some ⟨w.heap.size, 0, none⟩)), (fun v => v = .int .i64 a1), (fun v => v = .int .i64 Q1), (fun v => v = .pointer (some ⟨w.heap.size + 1 + 1, 1, none⟩)), (fun v => v = .int .i64 c2), (fun v => v = .pointer (some ⟨w.heap.size, 1, none⟩)), (fun v => v = .int .i64 a2), (fun v => v = .int .i64 Q2), (fun v => v = .agg #[.int .i64 Q1, .int .i64 Q2]), (fun _ => True), (fun _ => True), (fun _ => True), (fun _ => True)] [none, none, none, none, none, none, none, none, none, none, none, none, none, none, none, none, none, none, none, none, none, none, some (28, [.int .i64 0, .int .i64 0], [.int .i64 P1, .int .i64 P2]), some (28, [.int .i64 0, .int .i64 0], [.int .i64 Q1, .int .i64 Q2]), none, none] [none, none, none, none, none, none, none, none, none, none, none, none, none, none, none, none, none, none, none, none, none, none, none, none, some 22, some 23] 26 rfl (by kernel_rfl) ?tr ⟨[undef, undef, undef, undef, undef, undef, undef, undef, undef, undef, undef, undef, undef, undef, undef, undef, undef, undef, undef, undef, undef, undef, undef, undef, undef, undef], by simp only [putAll, Act.put, List.setIfInBounds_toArray, List.set_cons_succ, List.set_cons_zero, List.set_nil], rfl⟩ ?steps ?fin
    case tr =>
      rintro i v h
      rcases i with _ | _ | _ | _ | _ | _ | _ | _ | _ | _ | _ | _ | _ | _ | _ | _ | _ | _ | _ | _ | _ | _ | _ | _ | _ | _ | i
      all_goals first | trivial | (exfalso; rcases h with h | h <;> simp at h)
    case steps =>
      simp only [boxSteps, Nat.reduceAdd, Nat.zero_add, List.getD_cons_succ, List.getD_cons_zero]
      refine ⟨?_, ?_, ?_, ?_, ?_, ?_, ?_, ?_, ?_, ?_, ?_, ?_, ?_, ?_, ?_, ?_, ?_, ?_, ?_, ?_, ?_, ?_, ?_, ?_, ?_, ?_, trivial⟩
      · rintro vs W K hc hvl hw hK
        obtain ⟨x0, x1, x2, x3, x4, x5, x6, x7, x8, x9, x10, x11, x12, x13, x14, x15, x16, x17, x18, x19, x20, x21, x22, x23, x24, x25, rfl⟩ := len26 hvl
        have HK := Lib.hid hK
        have HC := Lib.hid hc
        have HW := Lib.hid hw
        clear hK hc hw hvl
        simp only [putAll, Act.put, List.setIfInBounds_toArray, List.set_cons_succ, List.set_cons_zero, List.set_nil]
        clear HW
        go_wp2_with fail
        have fin := HK.out (.pointer (some ⟨w.heap.size + 1, 0, none⟩)) W (Below.refl _ _) rfl
        simp only [putAll, Act.put, List.setIfInBounds_toArray, List.set_cons_succ, List.set_cons_zero, List.set_nil] at fin
        exact fin
      · rintro vs W K hc hvl hw hK
        obtain ⟨x0, x1, x2, x3, x4, x5, x6, x7, x8, x9, x10, x11, x12, x13, x14, x15, x16, x17, x18, x19, x20, x21, x22, x23, x24, x25, rfl⟩ := len26 hvl
        have HK := Lib.hid hK
        have HC := Lib.hid hc
        have HW := Lib.hid hw
        clear hK hc hw hvl
        obtain rfl : x0 = .pointer (some ⟨w.heap.size + 1, 0, none⟩) := box_get (HW.out ⟨0, .data⟩ (by simp) rfl) rfl
        simp only [putAll, Act.put, List.setIfInBounds_toArray, List.set_cons_succ, List.set_cons_zero, List.set_nil]
        have rr := RB1.out.below HC.out RB1.out.lt
        have d0 := rr.cell 0
        simp only [List.getElem?_cons_zero] at d0
        clear rr
        clear HW
        go_wp2_with fail
        have fin := HK.out (.int .i64 b1) W (Below.refl _ _) rfl
        simp only [putAll, Act.put, List.setIfInBounds_toArray, List.set_cons_succ, List.set_cons_zero, List.set_nil] at fin
        exact fin
      · rintro vs W K hc hvl hw hK
        obtain ⟨x0, x1, x2, x3, x4, x5, x6, x7, x8, x9, x10, x11, x12, x13, x14, x15, x16, x17, x18, x19, x20, x21, x22, x23, x24, x25, rfl⟩ := len26 hvl
        have HK := Lib.hid hK
        have HC := Lib.hid hc
        have HW := Lib.hid hw
        clear hK hc hw hvl
        simp only [putAll, Act.put, List.setIfInBounds_toArray, List.set_cons_succ, List.set_cons_zero, List.set_nil]
        clear HW
        go_wp2_with fail
        have fin := HK.out (.pointer (some ⟨w.heap.size, 0, none⟩)) W (Below.refl _ _) rfl
        simp only [putAll, Act.put, List.setIfInBounds_toArray, List.set_cons_succ, List.set_cons_zero, List.set_nil] at fin
        exact fin
      · rintro vs W K hc hvl hw hK
        obtain ⟨x0, x1, x2, x3, x4, x5, x6, x7, x8, x9, x10, x11, x12, x13, x14, x15, x16, x17, x18, x19, x20, x21, x22, x23, x24, x25, rfl⟩ := len26 hvl
        have HK := Lib.hid hK
        have HC := Lib.hid hc
        have HW := Lib.hid hw
        clear hK hc hw hvl
        obtain rfl : x2 = .pointer (some ⟨w.heap.size, 0, none⟩) := box_get (HW.out ⟨2, .data⟩ (by simp) rfl) rfl
        simp only [putAll, Act.put, List.setIfInBounds_toArray, List.set_cons_succ, List.set_cons_zero, List.set_nil]
        have rr := RA1.out.below HC.out RA1.out.lt
        have d0 := rr.cell 0
        simp only [List.getElem?_cons_zero] at d0
        clear rr
        clear HW
        go_wp2_with fail
        have fin := HK.out (.int .i64 a1) W (Below.refl _ _) rfl
        simp only [putAll, Act.put, List.setIfInBounds_toArray, List.set_cons_succ, List.set_cons_zero, List.set_nil] at fin
        exact fin
      · rintro vs W K hc hvl hw hK
        obtain ⟨x0, x1, x2, x3, x4, x5, x6, x7, x8, x9, x10, x11, x12, x13, x14, x15, x16, x17, x18, x19, x20, x21, x22, x23, x24, x25, rfl⟩ := len26 hvl
        have HK := Lib.hid hK
        have HC := Lib.hid hc
        have HW := Lib.hid hw
        clear hK hc hw hvl
        obtain rfl : x1 = .int .i64 b1 := box_get (HW.out ⟨1, .data⟩ (by simp) rfl) rfl
        obtain rfl : x3 = .int .i64 a1 := box_get (HW.out ⟨3, .data⟩ (by simp) rfl) rfl
        simp only [putAll, Act.put, List.setIfInBounds_toArray, List.set_cons_succ, List.set_cons_zero, List.set_nil]
        have f := HF.out.1
        have fw := w64 f
        clear HW
        go_wp2_with fail
        have fin := HK.out (.int .i64 P1) W (Below.refl _ _) rfl
        simp only [putAll, Act.put, List.setIfInBounds_toArray, List.set_cons_succ, List.set_cons_zero, List.set_nil] at fin
        exact fin
      · rintro vs W K hc hvl hw hK
        obtain ⟨x0, x1, x2, x3, x4, x5, x6, x7, x8, x9, x10, x11, x12, x13, x14, x15, x16, x17, x18, x19, x20, x21, x22, x23, x24, x25, rfl⟩ := len26 hvl
        have HK := Lib.hid hK
        have HC := Lib.hid hc
        have HW := Lib.hid hw
        clear hK hc hw hvl
        simp only [putAll, Act.put, List.setIfInBounds_toArray, List.set_cons_succ, List.set_cons_zero, List.set_nil]
        clear HW
        go_wp2_with fail
        have fin := HK.out (.pointer (some ⟨w.heap.size + 1, 1, none⟩)) W (Below.refl _ _) rfl
        simp only [putAll, Act.put, List.setIfInBounds_toArray, List.set_cons_succ, List.set_cons_zero, List.set_nil] at fin
        exact fin
      · rintro vs W K hc hvl hw hK
        obtain ⟨x0, x1, x2, x3, x4, x5, x6, x7, x8, x9, x10, x11, x12, x13, x14, x15, x16, x17, x18, x19, x20, x21, x22, x23, x24, x25, rfl⟩ := len26 hvl
        have HK := Lib.hid hK
        have HC := Lib.hid hc
        have HW := Lib.hid hw
        clear hK hc hw hvl
        obtain rfl : x5 = .pointer (some ⟨w.heap.size + 1, 1, none⟩) := box_get (HW.out ⟨5, .data⟩ (by simp) rfl) rfl
        simp only [putAll, Act.put, List.setIfInBounds_toArray, List.set_cons_succ, List.set_cons_zero, List.set_nil]
        have rr := RB1.out.below HC.out RB1.out.lt
        have d0 := rr.cell 1
        simp only [List.getElem?_cons_zero, List.getElem?_cons_succ] at d0
        clear rr
        clear HW
        go_wp2_with fail
        have fin := HK.out (.int .i64 b2) W (Below.refl _ _) rfl
        simp only [putAll, Act.put, List.setIfInBounds_toArray, List.set_cons_succ, List.set_cons_zero, List.set_nil] at fin
        exact fin
      · rintro vs W K hc hvl hw hK
        obtain ⟨x0, x1, x2, x3, x4, x5, x6, x7, x8, x9, x10, x11, x12, x13, x14, x15, x16, x17, x18, x19, x20, x21, x22, x23, x24, x25, rfl⟩ := len26 hvl
        have HK := Lib.hid hK
        have HC := Lib.hid hc
        have HW := Lib.hid hw
        clear hK hc hw hvl
        simp only [putAll, Act.put, List.setIfInBounds_toArray, List.set_cons_succ, List.set_cons_zero, List.set_nil]
        clear HW
        go_wp2_with fail
        have fin := HK.out (.pointer (some ⟨w.heap.size, 1, none⟩)) W (Below.refl _ _) rfl
        simp only [putAll, Act.put, List.setIfInBounds_toArray, List.set_cons_succ, List.set_cons_zero, List.set_nil] at fin
        exact fin
      · rintro vs W K hc hvl hw hK
        obtain ⟨x0, x1, x2, x3, x4, x5, x6, x7, x8, x9, x10, x11, x12, x13, x14, x15, x16, x17, x18, x19, x20, x21, x22, x23, x24, x25, rfl⟩ := len26 hvl
        have HK := Lib.hid hK
        have HC := Lib.hid hc
        have HW := Lib.hid hw
        clear hK hc hw hvl
        obtain rfl : x7 = .pointer (some ⟨w.heap.size, 1, none⟩) := box_get (HW.out ⟨7, .data⟩ (by simp) rfl) rfl
        simp only [putAll, Act.put, List.setIfInBounds_toArray, List.set_cons_succ, List.set_cons_zero, List.set_nil]
        have rr := RA1.out.below HC.out RA1.out.lt
        have d0 := rr.cell 1
        simp only [List.getElem?_cons_zero, List.getElem?_cons_succ] at d0
        clear rr
        clear HW
        go_wp2_with fail
        have fin := HK.out (.int .i64 a2) W (Below.refl _ _) rfl
        simp only [putAll, Act.put, List.setIfInBounds_toArray, List.set_cons_succ, List.set_cons_zero, List.set_nil] at fin
        exact fin
      · rintro vs W K hc hvl hw hK
        obtain ⟨x0, x1, x2, x3, x4, x5, x6, x7, x8, x9, x10, x11, x12, x13, x14, x15, x16, x17, x18, x19, x20, x21, x22, x23, x24, x25, rfl⟩ := len26 hvl
        have HK := Lib.hid hK
        have HC := Lib.hid hc
        have HW := Lib.hid hw
        clear hK hc hw hvl
        obtain rfl : x6 = .int .i64 b2 := box_get (HW.out ⟨6, .data⟩ (by simp) rfl) rfl
        obtain rfl : x8 = .int .i64 a2 := box_get (HW.out ⟨8, .data⟩ (by simp) rfl) rfl
        simp only [putAll, Act.put, List.setIfInBounds_toArray, List.set_cons_succ, List.set_cons_zero, List.set_nil]
        have f := HF.out.2.1
        have fw := w64 f
        clear HW
        go_wp2_with fail
        have fin := HK.out (.int .i64 P2) W (Below.refl _ _) rfl
        simp only [putAll, Act.put, List.setIfInBounds_toArray, List.set_cons_succ, List.set_cons_zero, List.set_nil] at fin
        exact fin
      · rintro vs W K hc hvl hw hK
        obtain ⟨x0, x1, x2, x3, x4, x5, x6, x7, x8, x9, x10, x11, x12, x13, x14, x15, x16, x17, x18, x19, x20, x21, x22, x23, x24, x25, rfl⟩ := len26 hvl
        have HK := Lib.hid hK
        have HC := Lib.hid hc
        have HW := Lib.hid hw
        clear hK hc hw hvl
        obtain rfl : x4 = .int .i64 P1 := box_get (HW.out ⟨4, .data⟩ (by simp) rfl) rfl
        obtain rfl : x9 = .int .i64 P2 := box_get (HW.out ⟨9, .data⟩ (by simp) rfl) rfl
        simp only [putAll, Act.put, List.setIfInBounds_toArray, List.set_cons_succ, List.set_cons_zero, List.set_nil]
        clear HW
        go_wp2_with fail
        have fin := HK.out (.agg #[.int .i64 P1, .int .i64 P2]) W (Below.refl _ _) rfl
        simp only [putAll, Act.put, List.setIfInBounds_toArray, List.set_cons_succ, List.set_cons_zero, List.set_nil] at fin
        exact fin
      · rintro vs W K hc hvl hw hK
        obtain ⟨x0, x1, x2, x3, x4, x5, x6, x7, x8, x9, x10, x11, x12, x13, x14, x15, x16, x17, x18, x19, x20, x21, x22, x23, x24, x25, rfl⟩ := len26 hvl
        have HK := Lib.hid hK
        have HC := Lib.hid hc
        have HW := Lib.hid hw
        clear hK hc hw hvl
        simp only [putAll, Act.put, List.setIfInBounds_toArray, List.set_cons_succ, List.set_cons_zero, List.set_nil]
        clear HW
        go_wp2_with fail
        have fin := HK.out (.pointer (some ⟨w.heap.size + 1 + 1, 0, none⟩)) W (Below.refl _ _) rfl
        simp only [putAll, Act.put, List.setIfInBounds_toArray, List.set_cons_succ, List.set_cons_zero, List.set_nil] at fin
        exact fin
      · rintro vs W K hc hvl hw hK
        obtain ⟨x0, x1, x2, x3, x4, x5, x6, x7, x8, x9, x10, x11, x12, x13, x14, x15, x16, x17, x18, x19, x20, x21, x22, x23, x24, x25, rfl⟩ := len26 hvl
        have HK := Lib.hid hK
        have HC := Lib.hid hc
        have HW := Lib.hid hw
        clear hK hc hw hvl
        obtain rfl : x11 = .pointer (some ⟨w.heap.size + 1 + 1, 0, none⟩) := box_get (HW.out ⟨11, .data⟩ (by simp) rfl) rfl
        simp only [putAll, Act.put, List.setIfInBounds_toArray, List.set_cons_succ, List.set_cons_zero, List.set_nil]
        have rr := RC1.out.below HC.out RC1.out.lt
        have d0 := rr.cell 0
        simp only [List.getElem?_cons_zero] at d0
        clear rr
        clear HW
        go_wp2_with fail
        have fin := HK.out (.int .i64 c1) W (Below.refl _ _) rfl
        simp only [putAll, Act.put, List.setIfInBounds_toArray, List.set_cons_succ, List.set_cons_zero, List.set_nil] at fin
        exact fin
      · rintro vs W K hc hvl hw hK
        obtain ⟨x0, x1, x2, x3, x4, x5, x6, x7, x8, x9, x10, x11, x12, x13, x14, x15, x16, x17, x18, x19, x20, x21, x22, x23, x24, x25, rfl⟩ := len26 hvl
        have HK := Lib.hid hK
        have HC := Lib.hid hc
        have HW := Lib.hid hw
        clear hK hc hw hvl
        simp only [putAll, Act.put, List.setIfInBounds_toArray, List.set_cons_succ, List.set_cons_zero, List.set_nil]
        clear HW
        go_wp2_with fail
        have fin := HK.out (.pointer (some ⟨w.heap.size, 0, none⟩)) W (Below.refl _ _) rfl
        simp only [putAll, Act.put, List.setIfInBounds_toArray, List.set_cons_succ, List.set_cons_zero, List.set_nil] at fin
        exact fin
      · rintro vs W K hc hvl hw hK
        obtain ⟨x0, x1, x2, x3, x4, x5, x6, x7, x8, x9, x10, x11, x12, x13, x14, x15, x16, x17, x18, x19, x20, x21, x22, x23, x24, x25, rfl⟩ := len26 hvl
        have HK := Lib.hid hK
        have HC := Lib.hid hc
        have HW := Lib.hid hw
        clear hK hc hw hvl
        obtain rfl : x13 = .pointer (some ⟨w.heap.size, 0, none⟩) := box_get (HW.out ⟨13, .data⟩ (by simp) rfl) rfl
        simp only [putAll, Act.put, List.setIfInBounds_toArray, List.set_cons_succ, List.set_cons_zero, List.set_nil]
        have rr := RA1.out.below HC.out RA1.out.lt
        have d0 := rr.cell 0
        simp only [List.getElem?_cons_zero] at d0
        clear rr
        clear HW
        go_wp2_with fail
        have fin := HK.out (.int .i64 a1) W (Below.refl _ _) rfl
        simp only [putAll, Act.put, List.setIfInBounds_toArray, List.set_cons_succ, List.set_cons_zero, List.set_nil] at fin
        exact fin
      · rintro vs W K hc hvl hw hK
        obtain ⟨x0, x1, x2, x3, x4, x5, x6, x7, x8, x9, x10, x11, x12, x13, x14, x15, x16, x17, x18, x19, x20, x21, x22, x23, x24, x25, rfl⟩ := len26 hvl
        have HK := Lib.hid hK
        have HC := Lib.hid hc
        have HW := Lib.hid hw
        clear hK hc hw hvl
        obtain rfl : x12 = .int .i64 c1 := box_get (HW.out ⟨12, .data⟩ (by simp) rfl) rfl
        obtain rfl : x14 = .int .i64 a1 := box_get (HW.out ⟨14, .data⟩ (by simp) rfl) rfl
        simp only [putAll, Act.put, List.setIfInBounds_toArray, List.set_cons_succ, List.set_cons_zero, List.set_nil]
        have f := HF.out.2.2.1
        have fw := w64 f
        clear HW
        go_wp2_with fail
        have fin := HK.out (.int .i64 Q1) W (Below.refl _ _) rfl
        simp only [putAll, Act.put, List.setIfInBounds_toArray, List.set_cons_succ, List.set_cons_zero, List.set_nil] at fin
        exact fin
      · rintro vs W K hc hvl hw hK
        obtain ⟨x0, x1, x2, x3, x4, x5, x6, x7, x8, x9, x10, x11, x12, x13, x14, x15, x16, x17, x18, x19, x20, x21, x22, x23, x24, x25, rfl⟩ := len26 hvl
        have HK := Lib.hid hK
        have HC := Lib.hid hc
        have HW := Lib.hid hw
        clear hK hc hw hvl
        simp only [putAll, Act.put, List.setIfInBounds_toArray, List.set_cons_succ, List.set_cons_zero, List.set_nil]
        clear HW
        go_wp2_with fail
        have fin := HK.out (.pointer (some ⟨w.heap.size + 1 + 1, 1, none⟩)) W (Below.refl _ _) rfl
        simp only [putAll, Act.put, List.setIfInBounds_toArray, List.set_cons_succ, List.set_cons_zero, List.set_nil] at fin
        exact fin
      · rintro vs W K hc hvl hw hK
        obtain ⟨x0, x1, x2, x3, x4, x5, x6, x7, x8, x9, x10, x11, x12, x13, x14, x15, x16, x17, x18, x19, x20, x21, x22, x23, x24, x25, rfl⟩ := len26 hvl
        have HK := Lib.hid hK
        have HC := Lib.hid hc
        have HW := Lib.hid hw
        clear hK hc hw hvl
        obtain rfl : x16 = .pointer (some ⟨w.heap.size + 1 + 1, 1, none⟩) := box_get (HW.out ⟨16, .data⟩ (by simp) rfl) rfl
        simp only [putAll, Act.put, List.setIfInBounds_toArray, List.set_cons_succ, List.set_cons_zero, List.set_nil]
        have rr := RC1.out.below HC.out RC1.out.lt
        have d0 := rr.cell 1
        simp only [List.getElem?_cons_zero, List.getElem?_cons_succ] at d0
        clear rr
        clear HW
        go_wp2_with fail
        have fin := HK.out (.int .i64 c2) W (Below.refl _ _) rfl
        simp only [putAll, Act.put, List.setIfInBounds_toArray, List.set_cons_succ, List.set_cons_zero, List.set_nil] at fin
        exact fin
      · rintro vs W K hc hvl hw hK
        obtain ⟨x0, x1, x2, x3, x4, x5, x6, x7, x8, x9, x10, x11, x12, x13, x14, x15, x16, x17, x18, x19, x20, x21, x22, x23, x24, x25, rfl⟩ := len26 hvl
        have HK := Lib.hid hK
        have HC := Lib.hid hc
        have HW := Lib.hid hw
        clear hK hc hw hvl
        simp only [putAll, Act.put, List.setIfInBounds_toArray, List.set_cons_succ, List.set_cons_zero, List.set_nil]
        clear HW
        go_wp2_with fail
        have fin := HK.out (.pointer (some ⟨w.heap.size, 1, none⟩)) W (Below.refl _ _) rfl
        simp only [putAll, Act.put, List.setIfInBounds_toArray, List.set_cons_succ, List.set_cons_zero, List.set_nil] at fin
        exact fin
      · rintro vs W K hc hvl hw hK
        obtain ⟨x0, x1, x2, x3, x4, x5, x6, x7, x8, x9, x10, x11, x12, x13, x14, x15, x16, x17, x18, x19, x20, x21, x22, x23, x24, x25, rfl⟩ := len26 hvl
        have HK := Lib.hid hK
        have HC := Lib.hid hc
        have HW := Lib.hid hw
        clear hK hc hw hvl
        obtain rfl : x18 = .pointer (some ⟨w.heap.size, 1, none⟩) := box_get (HW.out ⟨18, .data⟩ (by simp) rfl) rfl
        simp only [putAll, Act.put, List.setIfInBounds_toArray, List.set_cons_succ, List.set_cons_zero, List.set_nil]
        have rr := RA1.out.below HC.out RA1.out.lt
        have d0 := rr.cell 1
        simp only [List.getElem?_cons_zero, List.getElem?_cons_succ] at d0
        clear rr
        clear HW
        go_wp2_with fail
        have fin := HK.out (.int .i64 a2) W (Below.refl _ _) rfl
        simp only [putAll, Act.put, List.setIfInBounds_toArray, List.set_cons_succ, List.set_cons_zero, List.set_nil] at fin
        exact fin
      · rintro vs W K hc hvl hw hK
        obtain ⟨x0, x1, x2, x3, x4, x5, x6, x7, x8, x9, x10, x11, x12, x13, x14, x15, x16, x17, x18, x19, x20, x21, x22, x23, x24, x25, rfl⟩ := len26 hvl
        have HK := Lib.hid hK
        have HC := Lib.hid hc
        have HW := Lib.hid hw
        clear hK hc hw hvl
        obtain rfl : x17 = .int .i64 c2 := box_get (HW.out ⟨17, .data⟩ (by simp) rfl) rfl
        obtain rfl : x19 = .int .i64 a2 := box_get (HW.out ⟨19, .data⟩ (by simp) rfl) rfl
        simp only [putAll, Act.put, List.setIfInBounds_toArray, List.set_cons_succ, List.set_cons_zero, List.set_nil]
        have f := HF.out.2.2.2
        have fw := w64 f
        clear HW
        go_wp2_with fail
        have fin := HK.out (.int .i64 Q2) W (Below.refl _ _) rfl
        simp only [putAll, Act.put, List.setIfInBounds_toArray, List.set_cons_succ, List.set_cons_zero, List.set_nil] at fin
        exact fin
      · rintro vs W K hc hvl hw hK
        obtain ⟨x0, x1, x2, x3, x4, x5, x6, x7, x8, x9, x10, x11, x12, x13, x14, x15, x16, x17, x18, x19, x20, x21, x22, x23, x24, x25, rfl⟩ := len26 hvl
        have HK := Lib.hid hK
        have HC := Lib.hid hc
        have HW := Lib.hid hw
        clear hK hc hw hvl
        obtain rfl : x15 = .int .i64 Q1 := box_get (HW.out ⟨15, .data⟩ (by simp) rfl) rfl
        obtain rfl : x20 = .int .i64 Q2 := box_get (HW.out ⟨20, .data⟩ (by simp) rfl) rfl
        simp only [putAll, Act.put, List.setIfInBounds_toArray, List.set_cons_succ, List.set_cons_zero, List.set_nil]
        clear HW
        go_wp2_with fail
        have fin := HK.out (.agg #[.int .i64 Q1, .int .i64 Q2]) W (Below.refl _ _) rfl
        simp only [putAll, Act.put, List.setIfInBounds_toArray, List.set_cons_succ, List.set_cons_zero, List.set_nil] at fin
        exact fin
      · rintro vs W K hc hvl hw hK
        obtain ⟨x0, x1, x2, x3, x4, x5, x6, x7, x8, x9, x10, x11, x12, x13, x14, x15, x16, x17, x18, x19, x20, x21, x22, x23, x24, x25, rfl⟩ := len26 hvl
        have HK := Lib.hid hK
        have HC := Lib.hid hc
        have HW := Lib.hid hw
        clear hK hc hw hvl
        simp only [putAll, Act.put, List.setIfInBounds_toArray, List.set_cons_succ, List.set_cons_zero, List.set_nil]
        clear HW
        go_wp2_with fail
        have fin := HK.out
        simp only [putAll, Act.put, List.setIfInBounds_toArray, List.set_cons_succ, List.set_cons_zero, List.set_nil] at fin
        exact fin
      · rintro vs W K hc hvl hw hK
        obtain ⟨x0, x1, x2, x3, x4, x5, x6, x7, x8, x9, x10, x11, x12, x13, x14, x15, x16, x17, x18, x19, x20, x21, x22, x23, x24, x25, rfl⟩ := len26 hvl
        have HK := Lib.hid hK
        have HC := Lib.hid hc
        have HW := Lib.hid hw
        clear hK hc hw hvl
        simp only [putAll, Act.put, List.setIfInBounds_toArray, List.set_cons_succ, List.set_cons_zero, List.set_nil]
        clear HW
        go_wp2_with fail
        have fin := HK.out
        simp only [putAll, Act.put, List.setIfInBounds_toArray, List.set_cons_succ, List.set_cons_zero, List.set_nil] at fin
        exact fin
      · rintro vs W K hc hvl hw b E z f hia hva hb0 hr hK
        cases hia
        obtain ⟨x0, x1, x2, x3, x4, x5, x6, x7, x8, x9, x10, x11, x12, x13, x14, x15, x16, x17, x18, x19, x20, x21, x22, x23, x24, x25, rfl⟩ := len26 hvl
        have HK := Lib.hid hK
        have HC := Lib.hid hc
        have HW := Lib.hid hw
        clear hK hc hw hvl
        obtain rfl : x10 = .agg #[.int .i64 P1, .int .i64 P2] := box_get (HW.out ⟨10, .data⟩ (by simp) rfl) rfl
        obtain rfl : x22 = .pointer (some ⟨b, 0, none⟩) := Option.some.inj hva
        simp only [putAll, Act.put, List.setIfInBounds_toArray, List.set_cons_succ, List.set_cons_zero, List.set_nil]
        have kf0 := frozen_of_row W b 0 _ _ hr
        have kc0 : W.cell? ⟨b, 0, none⟩ = some (.int .i64 0) := hr.cell 0
        have kf1 := frozen_of_row W b 1 _ _ hr
        have kc1 : W.cell? ⟨b, 1, none⟩ = some (.int .i64 0) := hr.cell 1
        have HRW := Lib.hid hr
        clear HW hr hva
        go_wp2_with fail
        have fin := HK.out _ (show Row _ b 28 [.int .i64 P1, .int .i64 P2] from by simpa using (show Row _ b 28 _ from ((HRW.out.set 0 (.int .i64 P1)).set 1 (.int .i64 P2)))) (grown_put (grown_put (grown_self W _)))
        simp only [putAll, Act.put, List.setIfInBounds_toArray, List.set_cons_succ, List.set_cons_zero, List.set_nil] at fin
        exact fin
      · rintro vs W K hc hvl hw b E z f hia hva hb0 hr hK
        cases hia
        obtain ⟨x0, x1, x2, x3, x4, x5, x6, x7, x8, x9, x10, x11, x12, x13, x14, x15, x16, x17, x18, x19, x20, x21, x22, x23, x24, x25, rfl⟩ := len26 hvl
        have HK := Lib.hid hK
        have HC := Lib.hid hc
        have HW := Lib.hid hw
        clear hK hc hw hvl
        obtain rfl : x21 = .agg #[.int .i64 Q1, .int .i64 Q2] := box_get (HW.out ⟨21, .data⟩ (by simp) rfl) rfl
        obtain rfl : x23 = .pointer (some ⟨b, 0, none⟩) := Option.some.inj hva
        simp only [putAll, Act.put, List.setIfInBounds_toArray, List.set_cons_succ, List.set_cons_zero, List.set_nil]
        have kf0 := frozen_of_row W b 0 _ _ hr
        have kc0 : W.cell? ⟨b, 0, none⟩ = some (.int .i64 0) := hr.cell 0
        have kf1 := frozen_of_row W b 1 _ _ hr
        have kc1 : W.cell? ⟨b, 1, none⟩ = some (.int .i64 0) := hr.cell 1
        have HRW := Lib.hid hr
        clear HW hr hva
        go_wp2_with fail
        have fin := HK.out _ (show Row _ b 28 [.int .i64 Q1, .int .i64 Q2] from by simpa using (show Row _ b 28 _ from ((HRW.out.set 0 (.int .i64 Q1)).set 1 (.int .i64 Q2)))) (grown_put (grown_put (grown_self W _)))
        simp only [putAll, Act.put, List.setIfInBounds_toArray, List.set_cons_succ, List.set_cons_zero, List.set_nil] at fin
        exact fin
    case fin =>
      rintro vs W hJ
      obtain ⟨x0, x1, x2, x3, x4, x5, x6, x7, x8, x9, x10, x11, x12, x13, x14, x15, x16, x17, x18, x19, x20, x21, x22, x23, x24, x25, rfl⟩ := len26 hJ.ln
      obtain rfl : x10 = .agg #[.int .i64 P1, .int .i64 P2] := box_get (hJ.val 10 rfl) rfl
      obtain rfl : x21 = .agg #[.int .i64 Q1, .int .i64 Q2] := box_get (hJ.val 21 rfl) rfl
      obtain ⟨b22, e22, hb22, hr22⟩ := hJ.box 22 _ _ _ rfl rfl
      obtain rfl : x22 = .pointer (some ⟨b22, 0, none⟩) := Option.some.inj e22
      replace hr22 : Row W b22 28 [.int .i64 P1, .int .i64 P2] := hr22
      have HR22 := Lib.hid hr22
      clear e22 hr22
      obtain ⟨b23, e23, hb23, hr23⟩ := hJ.box 23 _ _ _ rfl rfl
      obtain rfl : x23 = .pointer (some ⟨b23, 0, none⟩) := Option.some.inj e23
      replace hr23 : Row W b23 28 [.int .i64 Q1, .int .i64 Q2] := hr23
      have HR23 := Lib.hid hr23
      clear e23 hr23
      have HC := Lib.hid hJ.bl
      clear hJ
      simp only [putAll, Act.put, List.setIfInBounds_toArray, List.set_cons_succ, List.set_cons_zero, List.set_nil]
      have RA2 := Lib.hid (RA1.out.below HC.out RA1.out.lt)
      have RR2 := Lib.hid (RR1.out.below HC.out RR1.out.lt)
      have B2 := Lib.hid (Below.andThen B1.out HC.out (Nat.le_refl _))
      have rp := HR22.out
      have rq := HR23.out
      have ra := RA2.out
      have p0 := rp.cell 0
      have p1 := rp.cell 1
      have q0 := rq.cell 0
      have q1 := rq.cell 1
      have a0 := ra.cell 0
      have a1c := ra.cell 1
      simp only [List.getElem?_cons_zero, List.getElem?_cons_succ] at p0 p1 q0 q1 a0 a1c
      obtain ⟨u1, u2, u3, u4, u5, u6⟩ := HU.out
      obtain ⟨v1, v2, v3, v4, v5, v6⟩ := HVV.out
      obtain ⟨r1, r2, r3, r4⟩ := HR.out
      obtain ⟨hS, hT⟩ := HST.out
      obtain ⟨hX, hY⟩ := HXY.out
      have sS : wrap64 S = S := by rw [← hS]; exact w64 u3
      have sT : wrap64 T = T := by rw [← hT]; exact w64 u6
      have z1 := w64 v1
      have z2 := w64 v2
      have z3 : wrap64 (Q2 * S - P2 * T) = TX := by rw [← hX]; exact w64 v3
      have z4 := w64 v4
      have z5 := w64 v5
      have z6 : wrap64 (P1 * T - Q1 * S) = TY := by rw [← hY]; exact w64 v6
      clear HC rp rq ra RA1 RB1 RC1 RR1 B1 hb22 hb23
      go_wp2_with fail
      go_quiet (fail)
      try simp only [hS, hT]
      clear u1 u2 u3 u4 u5 u6 hS hT
      go_wp2_with fail
      go_quiet (fail)
      simp only [sS, sT, z3, z6]
      clear v1 v2 v3 v4 v5 v6 z1 z2 z3 z4 z5 z6 sS sT hX hY p0 p1 q0 q1
      go_wp2_with fail
      refine (HRN2.out _).mono ?_
      rintro e w9 ⟨rfl, h9⟩
      have B3 := Lib.hid (Below.andThen (below_drewN B2.out _) h9 (Nat.le_refl _))
      have RR3 := Lib.hid (Row.below (show Row (W.drewN _) (w.heap.size + 1 + 1 + 1) 46 [.int .i64 0, .int .i64 0, .int .i64 0, .int .i64 0] from RR2.out) h9 RR2.out.lt)
      clear h9 HRN2 a0 a1c
      have rT := RR3.out
      have t0 := rT.cell 0
      have t1 := rT.cell 1
      have t2 := rT.cell 2
      have t3 := rT.cell 3
      have g0 := frozen_of_row _ (w.heap.size + 1 + 1 + 1) 0 _ _ rT
      have g1 := frozen_of_row _ (w.heap.size + 1 + 1 + 1) 1 _ _ rT
      have g2 := frozen_of_row _ (w.heap.size + 1 + 1 + 1) 2 _ _ rT
      have g3 := frozen_of_row _ (w.heap.size + 1 + 1 + 1) 3 _ _ rT
      simp only [List.getElem?_cons_zero, List.getElem?_cons_succ] at t0 t1 t2 t3
      clear rT
      go_wp2_with fail
      have hr := ((((RR3.out.set 0 (.int .i64 M1)).set 1 (.int .i64 M2)).set 2 (.int .i64 M3)).set 3 (.int .i64 M4))
      have v0 := hr.cell 0
      have v1 := hr.cell 1
      have v2 := hr.cell 2
      have v3 := hr.cell 3
      simp only [List.set_cons_zero, List.set_cons_succ, List.getElem?_cons_zero, List.getElem?_cons_succ] at v0 v1 v2 v3
      refine bodyPost_ret (v := .tuple #[.agg #[.int .i64 M1, .int .i64 M2, .int .i64 M3, .int .i64 M4], .bool true]) (by simp [results, Try.results40, go_sem, v0, v1, v2, v3]) rfl ⟨by rw [HZ.out, decide_eq_false HD0.out]; rfl, ?_⟩
      exact ((((B3.out.setCell (p := ⟨w.heap.size + 1 + 1 + 1, 0, none⟩) (by dsimp only; omega) _).setCell (p := ⟨w.heap.size + 1 + 1 + 1, 1, none⟩) (by dsimp only; omega) _).setCell (p := ⟨w.heap.size + 1 + 1 + 1, 2, none⟩) (by dsimp only; omega) _).setCell (p := ⟨w.heap.size + 1 + 1 + 1, 3, none⟩) (by dsimp only; omega) _)
end Go.Proofs.Ytlemipnplgbckaa
