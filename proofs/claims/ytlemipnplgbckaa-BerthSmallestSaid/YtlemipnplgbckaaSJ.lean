import Derived.Test.YtlemipnplgbckaaMG
import Derived.Laws.AppendOwn
import Derived.ChangeKeysEq
import Derived.Maps.RangeWalk
import Derived.Maps.OwnIn
import Derived.Maps.AppendAt
import Derived.RangeFuncNested
import Derived.RangeFuncBound
import Derived.RangeFuncCalls
import Derived.RangeFuncLeaves
import Derived.Shelf.Abstract
import Derived.Shelf.RegionOpen
import Derived.WalkKit
import Derived.WalkMore
import Derived.OwnWalkIn
import Derived.TacticsInMore
import Derived.LoopNIn
import Derived.LoopIn
import Derived.WalkSpells
import Derived.WalkLawsBesides
import Derived.BigQuiet
import Derived.Deep.QuietTactic
import Derived.Lib.Hide
import Derived.Deep.RegionHeld3
import Derived.StillTailTactics
import Derived.Deep.LoopGhost
import Derived.Maps.OwnSet
import Derived.Lib.IndexAny
import Derived.Sort.QuietThIn
import Derived.Sort.QuietTacIn
import Derived.Sort.BigQuietIn
import Derived.Laws.OwnMore
import Derived.DeepKeys4
import Derived.Maps.Views
import Derived.Maps.OwnOps
import Derived.Deep.DeepCutAuto
namespace Go.Proofs.Ytlemipnplgbckaa
open Go.RowKit Go.Shelf
attribute [local go_sem] Oper.semAt_some
theorem cmpI_swap (a b : Int) : cmpI a b = -cmpI b a := by
  unfold cmpI; split <;> split <;> (try split) <;> (try split) <;> omega
theorem cmp_frac {x y u v : Int} (hy : 0 < y) (hv : 0 < v) : cmpI (x * v) (u * y) = if x / y < u / v then -1 else if u / v < x / y then 1 else cmpI (x % y * v) (u % v * y) := by
  have h1 := Int.mul_ediv_add_emod x y
  have h2 := Int.mul_ediv_add_emod u v
  have h3 := Int.emod_nonneg x (show y ≠ 0 by omega)
  have h4 := Int.emod_nonneg u (show v ≠ 0 by omega)
  have h5 := Int.emod_lt_of_pos x hy
  have h6 := Int.emod_lt_of_pos u hv
  generalize x / y = q at *
  generalize u / v = q' at *
  generalize x % y = r at *
  generalize u % v = r' at *
  subst h1 h2
  by_cases hq : q < q'
  · rw [if_pos hq]
    have : (y * q + r) * v < (v * q' + r') * y := by
      have a1 : r * v < y * v := Int.mul_lt_mul_of_pos_right h5 hv
      have a2 : 0 ≤ r' * y := Int.mul_nonneg h4 (by omega)
      have a3 : (y * v) * (q + 1) ≤ (y * v) * q' := Int.mul_le_mul_of_nonneg_left (by omega) (Int.le_of_lt (Int.mul_pos hy hv))
      grind
    unfold cmpI
    split <;> (try split) <;> omega
  · rw [if_neg hq]
    by_cases hq2 : q' < q
    · rw [if_pos hq2]
      have : (v * q' + r') * y < (y * q + r) * v := by
        have a1 : r' * y < v * y := Int.mul_lt_mul_of_pos_right h6 hy
        have a2 : 0 ≤ r * v := Int.mul_nonneg h3 (by omega)
        have a3 : (y * v) * (q' + 1) ≤ (y * v) * q := Int.mul_le_mul_of_nonneg_left (by omega) (Int.le_of_lt (Int.mul_pos hy hv))
        grind
      unfold cmpI
      split <;> (try split) <;> omega
    · rw [if_neg hq2]
      have e : q = q' := by omega
      subst e
      have e1 : (y * q + r) * v = y * q * v + r * v := by grind
      have e2 : (v * q + r') * y = y * q * v + r' * y := by grind
      rw [e1, e2]
      unfold cmpI
      split <;> split <;> (try split) <;> (try split) <;> omega
theorem cmp_zero {x u y v : Int} (hx : 0 ≤ x) (hu : 0 ≤ u) (hy : 0 < y) (hv : 0 < v) (h : x = 0 ∨ u = 0) : cmpI (x * v) (u * y) = if x = u then 0 else if x < u then -1 else 1 := by
  rcases h with rfl | rfl
  · by_cases h0 : u = 0
    · subst h0; simp [cmpI]
    · have : 0 < u * y := Int.mul_pos (by omega) hy
      rw [if_neg (by omega), if_pos (by omega)]
      unfold cmpI
      split <;> (try split) <;> omega
  · by_cases h0 : x = 0
    · subst h0; simp [cmpI]
    · have : 0 < x * v := Int.mul_pos (by omega) hv
      rw [if_neg (by omega), if_neg (by omega)]
      unfold cmpI
      split <;> (try split) <;> omega
set_option maxRecDepth 100000 in
set_option maxHeartbeats 1000000 in
theorem rCompare_any (X Y D R X' Y' D' R' : Int) (w : World) (h1 : 1 ≤ D) (h2 : D ≤ 1000000) (h3 : 1 ≤ D') (h4 : D' ≤ 1000000) (h5 : 0 ≤ R) (h6 : R ≤ 1000000000000) (h7 : 0 ≤ R') (h8 : R' ≤ 1000000000000) :
    Calls Try.prog 32 #[.agg #[.int .i64 X, .int .i64 Y, .int .i64 D, .int .i64 R], .agg #[.int .i64 X', .int .i64 Y', .int .i64 D', .int .i64 R']] w fun e w' => e = .returned (.int .i64 (cmpC D R D' R')) ∧ Below w.heap.size w w' := by
  obtain ⟨V, hV, ra, rb, bV, hsz⟩ := two_start w 46 46 [.int .i64 X, .int .i64 Y, .int .i64 D, .int .i64 R] [.int .i64 X', .int .i64 Y', .int .i64 D', .int .i64 R']
  have q1 : D * D ≤ 1000000 * 1000000 := Int.mul_le_mul h2 h2 (by omega) (by omega)
  have q2 : D' * D' ≤ 1000000 * 1000000 := Int.mul_le_mul h4 h4 (by omega) (by omega)
  have q3 : 0 < D * D := Int.mul_pos (by omega) (by omega)
  have q4 : 0 < D' * D' := Int.mul_pos (by omega) (by omega)
  have hM : cmpC D R D' R' = cmpI (R * (D' * D')) (R' * (D * D)) := rfl
  obtain ⟨dd, hdd⟩ : ∃ t, D * D = t := ⟨_, rfl⟩
  obtain ⟨ee, hee⟩ : ∃ t, D' * D' = t := ⟨_, rfl⟩
  rw [hdd, hee] at hM
  rw [hdd] at q1 q3
  rw [hee] at q2 q4
  have e1 : IntKind.i64.wrap (D * D) = dd := by rw [hdd, i64_of _ (by omega) (by omega)]
  have e2 : IntKind.i64.wrap (D' * D') = ee := by rw [hee, i64_of _ (by omega) (by omega)]
  have e1w := w64 e1
  have e2w := w64 e2
  generalize cmpC D R D' R' = M at *
  have k0 := ra.cell 2
  have k1 := ra.cell 3
  have d0 := rb.cell 2
  have d1 := rb.cell 3
  simp only [List.getElem?_cons_zero, List.getElem?_cons_succ] at k0 k1 d0 d1
  have BV := Lib.hid bV
  have HM := Lib.hid hM
  have HQ := Lib.hid (And.intro q1 (And.intro q2 (And.intro q3 (And.intro q4 (And.intro h5 (And.intro h6 (And.intro h7 h8)))))))
  clear ra rb bV hsz hM q1 q2 q3 q4 h1 h2 h3 h4 h5 h6 h7 h8 hdd hee
  go_enter Try.func32, Try.ntmps32
  go_wp2_with fail
  rw [← hV]
  clear hV
  go_quiet (fail)
  go_wp2_with fail
  go_quiet (fail)
  go_wp2_with fail
  clear k0 k1 d0 d1 e1 e2 e1w e2w
  go_loopw [5, 6, 7, 8, 9] (fun xv yv uv vv sv wx => ∃ (x y u v s : Int), xv = .int .i64 x ∧ yv = .int .i64 y ∧ uv = .int .i64 u ∧ vv = .int .i64 v ∧ sv = .int .i64 s ∧ (s = 1 ∨ s = -1) ∧ Hid (0 ≤ x ∧ x ≤ 1000000000000 ∧ 0 ≤ u ∧ u ≤ 1000000000000 ∧ 0 < y ∧ y ≤ 1000000000000 ∧ 0 < v ∧ v ≤ 1000000000000 ∧ s * cmpI (x * v) (u * y) = M) ∧ ∃ n, wx = V.drewN n) (fun _ yv _ _ _ _ => (intOf yv).toNat)
  case atStart =>
    obtain ⟨q1, q2, q3, q4, h5, h6, h7, h8⟩ := HQ.out
    exact ⟨_, _, _, _, _, rfl, rfl, rfl, rfl, rfl, .inl rfl, Lib.hid ⟨h5, h6, h7, h8, q3, by omega, q4, by omega, by rw [Int.one_mul]; exact HM.out.symm⟩, _, drewN_drewN _ _ _⟩
  case round =>
    obtain ⟨x, y, u, v, s, rfl, rfl, rfl, rfl, rfl, hs, HI, n, rfl⟩ := hrel
    obtain ⟨b1, b2, b3, b4, b5, b6, b7, b8, HK⟩ := HI.out
    have HK := Lib.hid HK
    have ny : ¬ (y = 0) := by omega
    have nv : ¬ (v = 0) := by omega
    have hs1 : IntKind.i64.wrap (-s) = -s := i64_of _ (by omega) (by omega)
    have HF := Lib.hid (cmp_frac (x := x) (u := u) b5 b7)
    rcases Int.lt_trichotomy (x / y) (u / v) with hq | hq | hq
    · have g1 : (x / y != u / v) = true := by simp; omega
      have g2 : decide (x / y < u / v) = true := decide_eq_true hq
      have HV := Lib.hid (show -s = M by rw [← HK.out, HF.out, if_pos hq]; omega)
      clear HI hs HF HK
      go_wp2_with fail
      go_quiet (fail)
      go_wp2_with fail
      go_quiet (fail)
      go_wp2_with fail
      all_goals first
        | (exfalso; omega; done)
        | (go_ret; exact ⟨ret_int HV.out, by repeat (first | exact BV.out | refine below_drewN ?_ _)⟩)
    · have g1 : (x / y != u / v) = false := by simp [hq]
      have hM := HK.out
      rw [HF.out, if_neg (by omega), if_neg (by omega)] at hM
      have c1 := Int.emod_nonneg x ny
      have c2 := Int.emod_nonneg u nv
      have c3 := Int.emod_lt_of_pos x b5
      have c4 := Int.emod_lt_of_pos u b7
      obtain ⟨r, hr⟩ : ∃ r, x % y = r := ⟨_, rfl⟩
      obtain ⟨r', hr'⟩ : ∃ r, u % v = r := ⟨_, rfl⟩
      rw [hr] at c1 c3 hM
      rw [hr'] at c2 c4 hM
      have HM2 := Lib.hid hM
      have HZ := Lib.hid (cmp_zero (x := r) (u := r') c1 c2 b5 b7)
      have HS := Lib.hid hs
      have HB := Lib.hid (And.intro c1 (And.intro c2 (And.intro c3 (And.intro c4 (And.intro b6 (And.intro b8 (And.intro b5 b7)))))))
      clear hM HI hs HF HK c1 c2 c3 c4
      by_cases z1 : r = 0
      · by_cases z2 : r' = 0
        · have HV := Lib.hid (show (0 : Int) = M by rw [← HM2.out, HZ.out (.inl z1), if_pos (by omega), Int.mul_zero])
          go_wp2_with fail
          go_quiet (fail)
          go_wp2_with fail
          go_quiet (fail)
          go_wp2_with fail
          all_goals first
            | (exfalso; omega; done)
            | (go_ret; exact ⟨ret_int HV.out, by repeat (first | exact BV.out | refine below_drewN ?_ _)⟩)
        · have z3 : 0 < r' := by have := HB.out.2.1; omega
          have HV := Lib.hid (show -s = M by rw [← HM2.out, HZ.out (.inl z1), if_neg (by omega), if_pos (by omega)]; omega)
          have z4 : ¬ (r = r') := by omega
          go_wp2_with fail
          go_quiet (fail)
          go_wp2_with fail
          go_quiet (fail)
          go_wp2_with fail
          all_goals first
            | (exfalso; omega; done)
            | (go_ret; exact ⟨ret_int HV.out, by repeat (first | exact BV.out | refine below_drewN ?_ _)⟩)
      · have z3 : 0 < r := by have := HB.out.1; omega
        by_cases z2 : r' = 0
        · have HV := Lib.hid (show s = M by rw [← HM2.out, HZ.out (.inr z2), if_neg (by omega), if_neg (by omega)]; omega)
          have z4 : ¬ (r < 0) := by omega
          go_wp2_with fail
          go_quiet (fail)
          go_wp2_with fail
          go_quiet (fail)
          go_wp2_with fail
          all_goals first
            | (exfalso; omega; done)
            | (go_ret; exact ⟨ret_int HV.out, by repeat (first | exact BV.out | refine below_drewN ?_ _)⟩)
        · have HN := Lib.hid (show (-s) * cmpI (y * r') (v * r) = M by
            rw [← HM2.out, cmpI_swap (r * v) (r' * y), Int.mul_comm r' y, Int.mul_comm r v, Int.neg_mul, Int.mul_neg])
          have g3 : (r == 0) = false := by simpa using z1
          have g4 : (r' == 0) = false := by simpa using z2
          go_wp2_with fail
          go_quiet (fail)
          go_wp2_with fail
          go_quiet (fail)
          go_wp2_with fail
          obtain ⟨c1, c2, c3, c4, c5, c6, c7, c8⟩ := HB.out
          refine ⟨⟨y, r, v, r', -s, rfl, by first | rfl | rw [hr], rfl, by first | rfl | rw [hr'], rfl, by have := HS.out; omega, Lib.hid ⟨by omega, by omega, by omega, by omega, by omega, by omega, by omega, by omega, HN.out⟩, ?_⟩, by simp only [intOf]; omega⟩
          exact ⟨_, rfl⟩
    · have g1 : (x / y != u / v) = true := by simp; omega
      have g2 : decide (x / y < u / v) = false := decide_eq_false (by omega)
      have HV := Lib.hid (show s = M by rw [← HK.out, HF.out, if_neg (by omega), if_pos hq]; omega)
      clear HI hs HF HK
      go_wp2_with fail
      go_quiet (fail)
      go_wp2_with fail
      go_quiet (fail)
      go_wp2_with fail
      all_goals first
        | (exfalso; omega; done)
        | (go_ret; exact ⟨ret_int HV.out, by repeat (first | exact BV.out | refine below_drewN ?_ _)⟩)
end Go.Proofs.Ytlemipnplgbckaa
