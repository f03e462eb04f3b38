import Derived.Test.YtlehddifcjklgaaAe
import Derived.Maps.OwnIn
import Derived.Maps.OwnSet
import Derived.Maps.AppendAt
import Derived.RangeFuncNested
import Derived.RangeFuncBound
import Derived.RangeFuncCalls
import Derived.RangeFuncLeaves
import Derived.Shelf.Abstract
import Derived.Shelf.RegionOpen
import Derived.WalkKit
import Derived.OwnWalkIn
import Derived.TacticsInMore
import Derived.LoopNIn
import Derived.LoopIn
import Derived.WalkMore
import Derived.Sort.QuietThIn
import Derived.Sort.QuietTacIn
import Derived.Sort.BigQuietIn
import Derived.WalkSpells
import Derived.WalkLawsBesides
import Derived.BigQuiet
import Derived.Deep.QuietTactic
import Derived.Lib.Hide
import Derived.Deep.RegionHeld3
import Derived.StillTailTactics
import Derived.Deep.LoopGhost
import Derived.Lib.IndexAny
namespace Go.Proofs.Ytlehddifcjklgaa
open Go.RowKit Go.Shelf
attribute [local go_sem] Oper.semAt_some
set_option maxHeartbeats 800000 in
theorem rgcd_any (a b : Int) (w : World) (ha : 0 ≤ a) (hb : 0 ≤ b) (ha2 : a ≤ 4000000000000000000) (hb2 : b ≤ 4000000000000000000) :
    Calls Try.prog 80 #[.int .i64 a, .int .i64 b] w fun e w' => e = .returned (.int .i64 (gcdI a b)) ∧ ∃ n, w' = w.drewN n := by
  have e1 : IntKind.i64.wrap (-a) = -a := i64_of _ (by omega) (by omega)
  have e2 : IntKind.i64.wrap (-b) = -b := i64_of _ (by omega) (by omega)
  go_enter Try.func80, Try.ntmps80
  go_wp2_with fail
  clear e1 e2
  go_loopw [0, 1] (fun x y wr => ∃ p q : Int, 0 ≤ p ∧ 0 ≤ q ∧ p ≤ 4000000000000000000 ∧ q ≤ 4000000000000000000 ∧ Hid (Int.gcd p q = Int.gcd a b) ∧ x = .int .i64 p ∧ y = .int .i64 q ∧ ∃ n, wr = w.drewN n) (fun _ y _ => (intOf y).natAbs)
  case atStart => exact ⟨a, b, ha, hb, ha2, hb2, Lib.hid rfl, rfl, rfl, 0, rfl⟩
  case round =>
    obtain ⟨p, q, hp, hq, hp2, hq2, hg, rfl, rfl, n, rfl⟩ := hrel
    by_cases hz : q = 0
    · subst hz
      have fin : gcdI a b = p := by unfold gcdI; rw [← hg.out]; simp; omega
      have Fin := Lib.hid fin
      clear fin hg
      go_wp2
      go_ret
      exact ⟨ret_int (by rw [Fin.out]), n, rfl⟩
    · have hb1 : decide (0 < q) = true := decide_eq_true (by omega)
      have e2 : ¬ (q = 0) := hz
      have em : p.tmod q = p % q := Int.tmod_eq_emod_of_nonneg hp
      have hm1 := Int.emod_nonneg p hz
      have hm2 := Int.emod_lt_of_pos p (show 0 < q by omega)
      have hg2 : Int.gcd q (p % q) = Int.gcd a b := by
        rw [← hg.out, ← em]; unfold Int.gcd; rw [Int.natAbs_tmod, Nat.gcd_comm p.natAbs, Nat.gcd_rec q.natAbs p.natAbs, Nat.gcd_comm]
      have HG := Lib.hid hg2
      clear hg2 hg
      go_wp2
      go_quiet (fail)
      go_wp2
      go_roundw
      case rel => exact ⟨q, _, hq, hm1, hq2, by omega, HG, rfl, rfl, _, drewN_drewN _ _ _⟩
      case measure => simp only [intOf]; omega
/-- as the reference adds up -/
def hrF : Nat → Int × Int
  | 0 => (0, 1)
  | k + 1 =>
    (((hrF k).1 * ((k : Int) + 1).tdiv (gcdI (hrF k).2 ((k : Int) + 1)) + (hrF k).2.tdiv (gcdI (hrF k).2 ((k : Int) + 1))).tdiv (gcdI ((hrF k).1 * ((k : Int) + 1).tdiv (gcdI (hrF k).2 ((k : Int) + 1)) + (hrF k).2.tdiv (gcdI (hrF k).2 ((k : Int) + 1))) ((hrF k).2.tdiv (gcdI (hrF k).2 ((k : Int) + 1)) * ((k : Int) + 1))),
     ((hrF k).2.tdiv (gcdI (hrF k).2 ((k : Int) + 1)) * ((k : Int) + 1)).tdiv (gcdI ((hrF k).1 * ((k : Int) + 1).tdiv (gcdI (hrF k).2 ((k : Int) + 1)) + (hrF k).2.tdiv (gcdI (hrF k).2 ((k : Int) + 1))) ((hrF k).2.tdiv (gcdI (hrF k).2 ((k : Int) + 1)) * ((k : Int) + 1))))
def inB (x : Int) : Bool := decide (0 ≤ x) && decide (x ≤ 1000000000000000000)
theorem inB_spec {x : Int} (h : inB x = true) : 0 ≤ x ∧ x ≤ 1000000000000000000 := by
  unfold inB at h; simp at h; exact h
def stepOk (a b i : Int) : Bool :=
  let g := gcdI b i
  inB a && (inB b && (decide (0 < b) && (decide (0 < g) && (inB (i.tdiv g) && (inB (b.tdiv g) && (inB (a * i.tdiv g) && (inB (a * i.tdiv g + b.tdiv g) && (inB (b.tdiv g * i) && (decide (0 < gcdI (a * i.tdiv g + b.tdiv g) (b.tdiv g * i)) &&
  (inB ((a * i.tdiv g + b.tdiv g).tdiv (gcdI (a * i.tdiv g + b.tdiv g) (b.tdiv g * i))) && inB ((b.tdiv g * i).tdiv (gcdI (a * i.tdiv g + b.tdiv g) (b.tdiv g * i)))))))))))))
theorem hrOk_all : (List.range 30).all (fun k => stepOk (hrF k).1 (hrF k).2 ((k : Int) + 1)) = true := by kernel_rfl
theorem hr_eq : (List.range 31).all (fun k => decide (hrF k = harF k)) = true := by kernel_rfl
theorem hr_har {n : Nat} (h : n ≤ 30) : hrF n = harF n := of_decide_eq_true (List.all_eq_true.1 hr_eq n (List.mem_range.2 (by omega)))
theorem w_of {x : Int} (h : 0 ≤ x ∧ x ≤ 1000000000000000000) : IntKind.i64.wrap x = x := i64_of _ (by omega) (by omega)
set_option maxRecDepth 100000 in
set_option maxHeartbeats 2000000 in
theorem rHarmonic_any (n : Nat) (w : World) (h30 : n ≤ 30) :
    Calls Try.prog 56 #[.int .i64 (n : Int)] w fun e w' => e = .returned (.agg #[.int .i64 (harF n).1, .int .i64 (harF n).2]) ∧ Below w.heap.size w w' := by
  rw [← hr_har h30]
  obtain ⟨E1, E2, hE⟩ : ∃ E1 E2, hrF n = (E1, E2) := ⟨_, _, rfl⟩
  rw [hE]
  have HE := Lib.hid hE
  clear hE
  dsimp only
  go_enter Try.func56, Try.ntmps56
  go_wp2_with fail
  obtain ⟨W0, hW0⟩ : ∃ W0, W0 = w.alloc (.cells #[.int .i64 0, .int .i64 0] 39) := ⟨_, rfl⟩
  have B0 := Lib.hid (show Below w.heap.size w W0 by rw [hW0]; exact (Below.refl _ _).alloc (Nat.le_refl _) _)
  have r0 := Lib.hid (show Row W0 w.heap.size 39 [.int .i64 0, .int .i64 0] by rw [hW0]; exact Row.new _ _ _)
  rw [← hW0]
  clear hW0
  go_loopw [3, 4, 5] (fun x y i wr => ∃ k : Nat, k ≤ n ∧ i = .int .i64 ((k : Int) + 1) ∧ Hid (x = .int .i64 (hrF k).1 ∧ y = .int .i64 (hrF k).2) ∧ ∃ m, wr = W0.drewN m) (fun _ _ i _ => n + 1 - (intOf i).toNat)
  case atStart => exact ⟨0, by omega, rfl, Lib.hid ⟨rfl, rfl⟩, 0, rfl⟩
  case round =>
    obtain ⟨k, hk, rfl, HXY, m, rfl⟩ := hrel
    obtain ⟨hx, hy⟩ := HXY.out
    by_cases hlt : k < n
    · have hok := List.all_eq_true.1 hrOk_all k (List.mem_range.2 (by omega))
      have hnext : hrF (k + 1) = (((hrF k).1 * ((k : Int) + 1).tdiv (gcdI (hrF k).2 ((k : Int) + 1)) + (hrF k).2.tdiv (gcdI (hrF k).2 ((k : Int) + 1))).tdiv (gcdI ((hrF k).1 * ((k : Int) + 1).tdiv (gcdI (hrF k).2 ((k : Int) + 1)) + (hrF k).2.tdiv (gcdI (hrF k).2 ((k : Int) + 1))) ((hrF k).2.tdiv (gcdI (hrF k).2 ((k : Int) + 1)) * ((k : Int) + 1))),
        ((hrF k).2.tdiv (gcdI (hrF k).2 ((k : Int) + 1)) * ((k : Int) + 1)).tdiv (gcdI ((hrF k).1 * ((k : Int) + 1).tdiv (gcdI (hrF k).2 ((k : Int) + 1)) + (hrF k).2.tdiv (gcdI (hrF k).2 ((k : Int) + 1))) ((hrF k).2.tdiv (gcdI (hrF k).2 ((k : Int) + 1)) * ((k : Int) + 1)))) := rfl
      unfold stepOk at hok
      simp only [Bool.and_eq_true, decide_eq_true_eq] at hok
      generalize hrF k = ab at *
      obtain ⟨a, b⟩ := ab
      dsimp only at hok hnext hx hy
      subst hx
      subst hy
      obtain ⟨i1, i2, i3, i4, i5, i6, i7, i8, i9, i10, i11, i12⟩ := hok
      have d1 : decide ((k : Int) + 1 ≤ (n : Int)) = true := decide_eq_true (by omega)
      have HG1 := Lib.hid (fun W => rgcd_any b ((k : Int) + 1) W (inB_spec i2).1 (by omega) (by have := inB_spec i2; omega) (by omega))
      have g1 : IntKind.i64.wrap (((k : Int) + 1).tdiv (gcdI b ((k : Int) + 1))) = ((k : Int) + 1).tdiv (gcdI b ((k : Int) + 1)) := w_of (inB_spec i5)
      have g2 := w_of (inB_spec i6)
      have g3 := w_of (inB_spec i7)
      have g4 := w_of (inB_spec i8)
      have g5 := w_of (inB_spec i9)
      have g6 := w_of (inB_spec i11)
      have g7 := w_of (inB_spec i12)
      have v1 : ((k : Int) + 1) / (gcdI b ((k : Int) + 1)) = ((k : Int) + 1).tdiv (gcdI b ((k : Int) + 1)) := (Int.tdiv_eq_ediv_of_nonneg (by omega)).symm
      have v2 : b / (gcdI b ((k : Int) + 1)) = b.tdiv (gcdI b ((k : Int) + 1)) := (Int.tdiv_eq_ediv_of_nonneg (inB_spec i2).1).symm
      generalize gcdI b ((k : Int) + 1) = G at *
      obtain ⟨q1, hq1⟩ : ∃ q1, ((k : Int) + 1).tdiv G = q1 := ⟨_, rfl⟩
      obtain ⟨q2, hq2⟩ : ∃ q2, b.tdiv G = q2 := ⟨_, rfl⟩
      rw [hq1] at g1 g3 g4 g6 g7 v1 i7 i8 i10 i11 hnext i5
      rw [hq2] at g2 g4 g5 g6 g7 v2 i8 i9 i10 i11 i12 hnext i6
      have j8 := inB_spec i8
      have j9 := inB_spec i9
      have HG2 := Lib.hid (fun W => rgcd_any (a * q1 + q2) (q2 * ((k : Int) + 1)) W j8.1 j9.1 (by omega) (by omega))
      have v3 : (a * q1 + q2) / (gcdI (a * q1 + q2) (q2 * ((k : Int) + 1))) = (a * q1 + q2).tdiv (gcdI (a * q1 + q2) (q2 * ((k : Int) + 1))) := (Int.tdiv_eq_ediv_of_nonneg j8.1).symm
      have v4 : (q2 * ((k : Int) + 1)) / (gcdI (a * q1 + q2) (q2 * ((k : Int) + 1))) = (q2 * ((k : Int) + 1)).tdiv (gcdI (a * q1 + q2) (q2 * ((k : Int) + 1))) := (Int.tdiv_eq_ediv_of_nonneg j9.1).symm
      have z1 : ¬ G = 0 := by omega
      have z2 : ¬ gcdI (a * q1 + q2) (q2 * ((k : Int) + 1)) = 0 := by omega
      have x1 : wrap64 q1 = q1 := (IntWalk.i64_left _).symm.trans g1
      have x2 : wrap64 q2 = q2 := (IntWalk.i64_left _).symm.trans g2
      have x3 : wrap64 (a * q1) = a * q1 := (IntWalk.i64_left _).symm.trans g3
      have x4 : wrap64 (a * q1 + q2) = a * q1 + q2 := (IntWalk.i64_left _).symm.trans g4
      have x5 : wrap64 (q2 * ((k : Int) + 1)) = q2 * ((k : Int) + 1) := (IntWalk.i64_left _).symm.trans g5
      generalize gcdI (a * q1 + q2) (q2 * ((k : Int) + 1)) = H at *
      obtain ⟨q3, hq3⟩ : ∃ q3, (a * q1 + q2).tdiv H = q3 := ⟨_, rfl⟩
      obtain ⟨q4, hq4⟩ : ∃ q4, (q2 * ((k : Int) + 1)).tdiv H = q4 := ⟨_, rfl⟩
      rw [hq3] at g6 v3 hnext
      rw [hq4] at g7 v4 hnext
      have x6 : wrap64 q3 = q3 := (IntWalk.i64_left _).symm.trans g6
      have x7 : wrap64 q4 = q4 := (IntWalk.i64_left _).symm.trans g7
      have HN := Lib.hid hnext
      clear i1 i2 i3 i4 i5 i6 i7 i8 i9 i10 i11 i12 hnext
      go_wp2_with fail
      refine (HG1.out _).mono ?_
      rintro e w3 ⟨rfl, m1, rfl⟩
      go_wp2_with fail
      go_quiet (fail)
      go_wp2_with fail
      refine (HG2.out _).mono ?_
      rintro e w4 ⟨rfl, m2, rfl⟩
      go_wp2_with fail
      go_roundw
      case rel => exact ⟨k + 1, by omega, by simp, Lib.hid ⟨by rw [HN.out], by rw [HN.out]⟩, _, rfl⟩
      case measure => simp [intOf]; omega
    · obtain rfl : k = n := by omega
      have d1 : decide ((k : Int) + 1 ≤ (k : Int)) = false := decide_eq_false (by omega)
      rw [HE.out] at hx hy
      dsimp only at hx hy
      subst hx
      subst hy
      obtain ⟨z0, z1, z2, z3⟩ := two_cells r0.out
      go_wp2_with fail
      have y0 : (W0.drewN m).cell? ⟨w.heap.size, 0, none⟩ = some (.int .i64 0) := z0
      have y1 : (W0.drewN m).cell? ⟨w.heap.size, 1, none⟩ = some (.int .i64 0) := z1
      obtain ⟨q0, q1⟩ := two_set (x := .int .i64 E1) (y := .int .i64 E2) y0 y1
      refine bodyPost_ret (v := .agg #[.int .i64 E1, .int .i64 E2]) (by simp [results, Try.results56, go_sem, q0, q1]) rfl ⟨rfl, ?_⟩
      exact ((below_drewN B0.out _).setCell (p := ⟨w.heap.size, 0, none⟩) (Nat.le_refl _) _).setCell (p := ⟨w.heap.size, 1, none⟩) (Nat.le_refl _) _
end Go.Proofs.Ytlehddifcjklgaa
