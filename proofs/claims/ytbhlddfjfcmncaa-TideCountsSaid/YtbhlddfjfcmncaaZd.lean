import Derived.Test.YtbhlddfjfcmncaaZc
import Derived.Test.YtbhlddfjfcmncaaYk
import Derived.Maps.OwnIn
import Derived.Maps.OwnSet
import Derived.RangeFuncNested
import Derived.RangeFuncBound
import Derived.RangeFuncCalls
import Derived.RangeFuncLeaves
import Derived.Shelf.Abstract
import Derived.Shelf.RegionOpen
import Derived.WalkKit
import Derived.OwnWalkIn
import Derived.TacticsInMore
import Derived.LoopNIn
import Derived.LoopIn
import Derived.WalkSpells
import Derived.WalkLawsBesides
import Derived.BigQuiet
import Derived.Deep.QuietTactic
import Derived.Lib.Hide
import Derived.Deep.RegionHeld3
import Derived.StillTailTactics
import Derived.Lib.MakeNoZero
import Derived.Laws.CopyOwn
import Derived.Deep.RegionLaw
import Derived.Deep.LoopGhost
import Derived.Deep.CutBlock
import Derived.Deep.DeepCutAuto
import Derived.Lib.IndexAny
namespace Go.Proofs.Ytbhlddfjfcmncaa
open Go.RowKit Go.Shelf
attribute [local go_sem] Oper.semAt_some
theorem w64_nat (n : Nat) (h : n ≤ 4611686018427387903) : wrap64 (n : Int) = n := IntWalk.wrap64_in _ ⟨by omega, by omega⟩
theorem w64_sum (x y z : Nat) (hx : x ≤ 1000000000000) (hy : y * z ≤ 1000000000000) : wrap64 ((x : Int) + wrap64 ((y : Int) * (z : Int))) = ((x + y * z : Nat) : Int) := by
  rw [← Int.natCast_mul, w64_nat _ (by omega), ← Int.natCast_add, w64_nat _ (by omega)]
theorem nth_any (f r : ByteArray) (fr n k : Nat) (w : World) (z1 : f.size ≤ 60) (z2 : r.size ≤ 60) (z3 : 1 ≤ r.size) (hk : IsNth (hasB f r) fr n k) (hkb : k ≤ 1000000000) :
    Calls Try.prog 76 #[.agg #[.string f, .string r], .int .i64 fr, .int .i64 n] w fun e w' => e = .returned (.int .i64 k) ∧ Below w.heap.size w w' :=
  callsIn_wide.1 (nth_in f r fr n k w z1 z2 z3 hk hkb)
theorem Nth_arg (f r : ByteArray) (n : Int) (w : World) (ht : tideB (f, r) = true) (hn : n < 0 ∨ (¬ n < 0 ∧ 1000000 < n)) :
    Calls Try.prog 32 #[.agg #[.string f, .string r], .int .i64 n] w fun e w' => e = .returned (.tuple #[.int .i64 0, .int .i64 1]) ∧ Below w.heap.size w w' := by
  have E := checkE_ok ht
  obtain ⟨z1, z2, z3⟩ := tideB_size ht
  clear ht
  rcases hn with hn | ⟨hn1, hn2⟩
  all_goals
    go_enter Try.func32, Try.ntmps32
    go_wp2_with fail
    refine (check_one (w.heap.size + 1) _ f r _ (by simp [cell_al]) (by simp [cell_al]) (size_le _ z1) (size_le _ z2)).mono ?_
    rintro e w1 ⟨rfl, hb1⟩
    have B1 : Hid (Below w.heap.size w w1) := Lib.hid ((((Below.refl _ _).alloc (Nat.le_refl _) _).alloc (by rw [size_al]; omega) _).trans (hb1.mono (by rw [size_al, size_al]; omega)))
    clear hb1
    go_wp2_with fail
    go_ret2
    exact ⟨rfl, B1.out⟩
set_option maxRecDepth 100000 in
set_option maxHeartbeats 1000000 in
theorem Nth_early (f r : ByteArray) (n k : Nat) (w : World) (ht : tideB (f, r) = true) (hn : n < ones f.data.toList) (hk : IsNth (hasB f r) 0 n k) (hkb : k ≤ 1000000000) :
    Calls Try.prog 32 #[.agg #[.string f, .string r], .int .i64 n] w fun e w' => e = .returned (.tuple #[.int .i64 k, .int .i64 0]) ∧ Below w.heap.size w w' := by
  have E := checkE_ok ht
  obtain ⟨z1, z2, z3⟩ := tideB_size ht
  obtain ⟨m1, m2⟩ := tideB_marks ht
  have HN : Hid (∀ W, Calls Try.prog 76 #[.agg #[.string f, .string r], .int .i64 0, .int .i64 n] W fun e w' => e = .returned (.int .i64 k) ∧ Below W.heap.size W w') := Lib.hid fun W => nth_any f r 0 n k W z1 z2 z3 hk hkb
  have CC : Hid (∀ (s : ByteArray) W, (s.size ≤ 60 ∧ s.data.toList.all isMark = true) → Calls Try.prog 75 #[.string s] W fun e w' => e = .returned (.int .i64 (ones s.data.toList)) ∧ Below W.heap.size W w') := Lib.hid fun s W h => count_any s W (by omega) h.2
  have MF := Lib.hid (And.intro z1 m1)
  have MR := Lib.hid (And.intro z2 m2)
  have o1 : ones f.data.toList ≤ 60 := Nat.le_trans (ones_le _) (by simpa using z1)
  clear ht hk m1 m2
  have t1 : ((n : Int) < 0) = False := by simp
  have t2 : decide ((1000000 : Int) < (n : Int)) = false := decide_eq_false (by omega)
  go_enter Try.func32, Try.ntmps32
  go_wp2_with fail
  refine (check_one (w.heap.size + 1) _ f r _ (by simp [cell_al]) (by simp [cell_al]) (size_le _ z1) (size_le _ z2)).mono ?_
  rintro e w1 ⟨rfl, hb1⟩
  have B1 : Hid (Below w.heap.size w w1) := Lib.hid ((((Below.refl _ _).alloc (Nat.le_refl _) _).alloc (by rw [size_al]; omega) _).trans (hb1.mono (by rw [size_al, size_al]; omega)))
  have b0 := below_at hb1 (b := w.heap.size) (o := 0) (v := .string f) (by rw [size_al, size_al]; omega) (by simp [cell_al])
  have b1 := below_at hb1 (b := w.heap.size) (o := 1) (v := .string r) (by rw [size_al, size_al]; omega) (by simp [cell_al])
  have lt1 : Hid (w.heap.size < w1.heap.size) := Lib.hid (by have := hb1.size; rw [size_al, size_al] at this; omega)
  clear hb1
  have D0 := Lib.hid b0
  have D1 := Lib.hid b1
  clear b0 b1
  go_wp2_with fail
  have k0 := Kl.cell lt1.out D0.out
  have k1 := Kl.cell lt1.out D1.out
  refine wp_region_below (by kernel_rfl) (by kernel_rfl) ?_
  repeat (go_big_quiet_step (exact Kl.call (CC.out _ _ (by first | exact MF.out | exact MR.out))))
  refine wpQuiet_nil ?_
  rintro _ ⟨wq, rfl⟩
  have T2 := Lib.hid (Below.andThen B1.out wq.h (Nat.le_refl _))
  clear CC MF MR
  generalize ones f.data.toList = A at *
  generalize ones r.data.toList = B at *
  have c0 := k0 wq
  have c1 := k1 wq
  clear k0 k1
  go_wp2_with fail
  refine (HN.out _).mono ?_
  rintro e w3 ⟨rfl, hb3⟩
  have T3 := Lib.hid (Below.andThen T2.out hb3 (Nat.le_refl _))
  clear hb3 c0 c1
  go_wp2_with fail
  go_ret2
  exact ⟨rfl, T3.out⟩
set_option maxRecDepth 100000 in
set_option maxHeartbeats 1000000 in
theorem Nth_none (f r : ByteArray) (n : Nat) (w : World) (ht : tideB (f, r) = true) (hn : ¬ n < ones f.data.toList) (hn2 : n ≤ 1000000) (hz : ones r.data.toList = 0) :
    Calls Try.prog 32 #[.agg #[.string f, .string r], .int .i64 n] w fun e w' => e = .returned (.tuple #[.int .i64 0, .int .i64 4]) ∧ Below w.heap.size w w' := by
  have E := checkE_ok ht
  obtain ⟨z1, z2, z3⟩ := tideB_size ht
  obtain ⟨m1, m2⟩ := tideB_marks ht
  have CC : Hid (∀ (s : ByteArray) W, (s.size ≤ 60 ∧ s.data.toList.all isMark = true) → Calls Try.prog 75 #[.string s] W fun e w' => e = .returned (.int .i64 (ones s.data.toList)) ∧ Below W.heap.size W w') := Lib.hid fun s W h => count_any s W (by omega) h.2
  have MF := Lib.hid (And.intro z1 m1)
  have MR := Lib.hid (And.intro z2 m2)
  have o1 : ones f.data.toList ≤ 60 := Nat.le_trans (ones_le _) (by simpa using z1)
  clear ht m1 m2
  have t1 : ((n : Int) < 0) = False := by simp
  have t2 : decide ((1000000 : Int) < (n : Int)) = false := decide_eq_false (by omega)
  go_enter Try.func32, Try.ntmps32
  go_wp2_with fail
  refine (check_one (w.heap.size + 1) _ f r _ (by simp [cell_al]) (by simp [cell_al]) (size_le _ z1) (size_le _ z2)).mono ?_
  rintro e w1 ⟨rfl, hb1⟩
  have B1 : Hid (Below w.heap.size w w1) := Lib.hid ((((Below.refl _ _).alloc (Nat.le_refl _) _).alloc (by rw [size_al]; omega) _).trans (hb1.mono (by rw [size_al, size_al]; omega)))
  have b0 := below_at hb1 (b := w.heap.size) (o := 0) (v := .string f) (by rw [size_al, size_al]; omega) (by simp [cell_al])
  have b1 := below_at hb1 (b := w.heap.size) (o := 1) (v := .string r) (by rw [size_al, size_al]; omega) (by simp [cell_al])
  have lt1 : Hid (w.heap.size < w1.heap.size) := Lib.hid (by have := hb1.size; rw [size_al, size_al] at this; omega)
  clear hb1
  have D0 := Lib.hid b0
  have D1 := Lib.hid b1
  clear b0 b1
  go_wp2_with fail
  have k0 := Kl.cell lt1.out D0.out
  have k1 := Kl.cell lt1.out D1.out
  refine wp_region_below (by kernel_rfl) (by kernel_rfl) ?_
  repeat (go_big_quiet_step (exact Kl.call (CC.out _ _ (by first | exact MF.out | exact MR.out))))
  refine wpQuiet_nil ?_
  rintro _ ⟨wq, rfl⟩
  have T2 := Lib.hid (Below.andThen B1.out wq.h (Nat.le_refl _))
  clear CC MF MR
  rw [hz]
  generalize ones f.data.toList = A at *
  have t3 : decide ((n : Nat) < A) = false := decide_eq_false hn
  have c0 := k0 wq
  have c1 := k1 wq
  clear k0 k1
  go_wp2_with fail
  go_ret2
  exact ⟨rfl, T2.out⟩
set_option maxRecDepth 100000 in
set_option maxHeartbeats 1000000 in
theorem Nth_late (f r : ByteArray) (n k : Nat) (w : World) (ht : tideB (f, r) = true) (hn : ¬ n < ones f.data.toList) (hn2 : n ≤ 1000000) (hz : 1 ≤ ones r.data.toList) (hk : IsNth (hasB f r) (f.size + (n - ones f.data.toList) / ones r.data.toList * r.size) ((n - ones f.data.toList) % ones r.data.toList) k) (hkb : k ≤ 1000000000) :
    Calls Try.prog 32 #[.agg #[.string f, .string r], .int .i64 n] w fun e w' => e = .returned (.tuple #[.int .i64 k, .int .i64 0]) ∧ Below w.heap.size w w' := by
  have E := checkE_ok ht
  obtain ⟨z1, z2, z3⟩ := tideB_size ht
  obtain ⟨m1, m2⟩ := tideB_marks ht
  have HN : Hid (∀ W, Calls Try.prog 76 #[.agg #[.string f, .string r], .int .i64 ((f.size + (n - ones f.data.toList) / ones r.data.toList * r.size : Nat) : Int), .int .i64 (((n - ones f.data.toList) % ones r.data.toList : Nat) : Int)] W fun e w' => e = .returned (.int .i64 k) ∧ Below W.heap.size W w') := Lib.hid fun W => nth_any f r _ _ k W z1 z2 z3 hk hkb
  have CC : Hid (∀ (s : ByteArray) W, (s.size ≤ 60 ∧ s.data.toList.all isMark = true) → Calls Try.prog 75 #[.string s] W fun e w' => e = .returned (.int .i64 (ones s.data.toList)) ∧ Below W.heap.size W w') := Lib.hid fun s W h => count_any s W (by omega) h.2
  have MF := Lib.hid (And.intro z1 m1)
  have MR := Lib.hid (And.intro z2 m2)
  have o1 : ones f.data.toList ≤ 60 := Nat.le_trans (ones_le _) (by simpa using z1)
  clear ht hk m1 m2
  have t1 : ((n : Int) < 0) = False := by simp
  have t2 : decide ((1000000 : Int) < (n : Int)) = false := decide_eq_false (by omega)
  go_enter Try.func32, Try.ntmps32
  go_wp2_with fail
  refine (check_one (w.heap.size + 1) _ f r _ (by simp [cell_al]) (by simp [cell_al]) (size_le _ z1) (size_le _ z2)).mono ?_
  rintro e w1 ⟨rfl, hb1⟩
  have B1 : Hid (Below w.heap.size w w1) := Lib.hid ((((Below.refl _ _).alloc (Nat.le_refl _) _).alloc (by rw [size_al]; omega) _).trans (hb1.mono (by rw [size_al, size_al]; omega)))
  have b0 := below_at hb1 (b := w.heap.size) (o := 0) (v := .string f) (by rw [size_al, size_al]; omega) (by simp [cell_al])
  have b1 := below_at hb1 (b := w.heap.size) (o := 1) (v := .string r) (by rw [size_al, size_al]; omega) (by simp [cell_al])
  have lt1 : Hid (w.heap.size < w1.heap.size) := Lib.hid (by have := hb1.size; rw [size_al, size_al] at this; omega)
  clear hb1
  have D0 := Lib.hid b0
  have D1 := Lib.hid b1
  clear b0 b1
  go_wp2_with fail
  have k0 := Kl.cell lt1.out D0.out
  have k1 := Kl.cell lt1.out D1.out
  refine wp_region_below (by kernel_rfl) (by kernel_rfl) ?_
  repeat (go_big_quiet_step (exact Kl.call (CC.out _ _ (by first | exact MF.out | exact MR.out))))
  refine wpQuiet_nil ?_
  rintro _ ⟨wq, rfl⟩
  have T2 := Lib.hid (Below.andThen B1.out wq.h (Nat.le_refl _))
  clear CC MF MR
  generalize ones f.data.toList = A at *
  generalize ones r.data.toList = B at *
  have t3 : decide ((n : Nat) < A) = false := decide_eq_false hn
  have t4 : ((B : Int) == 0) = false := beq_eq_false_iff_ne.2 (by omega)
  have t5 : ¬ ((B : Int) = 0) := by omega
  have e1 : IntKind.i64.wrap ((n : Int) - (A : Int)) = ((n - A : Nat) : Int) := by rw [i64_of _ (by omega) (by omega)]; omega
  have e2 : (((n - A : Nat) : Int)).tdiv (B : Int) = (((n - A) / B : Nat) : Int) := by rw [← Int.ofNat_tdiv]
  have e3 : (((n - A : Nat) : Int)).tmod (B : Int) = (((n - A) % B : Nat) : Int) := by rw [← Int.ofNat_tmod]
  have u1 : (n - A) / B ≤ 1000000 := Nat.le_trans (Nat.div_le_self _ _) (by omega)
  have u2 : (n - A) / B * r.size ≤ 1000000 * 60 := Nat.mul_le_mul u1 z2
  have u3 : (n - A) % B ≤ 1000000 := Nat.le_trans (Nat.mod_le _ _) (by omega)
  have e4 : IntKind.i64.wrap ((((n - A) / B : Nat)) : Int) = (((n - A) / B : Nat) : Int) := i64_nat _ (by omega)
  have e5 : IntKind.i64.wrap ((((n - A) % B : Nat)) : Int) = (((n - A) % B : Nat) : Int) := i64_nat _ (by omega)
  have e6 : IntKind.i64.wrap ((((n - A) / B : Nat) : Int) * (r.size : Int)) = (((n - A) / B * r.size : Nat) : Int) := by rw [← Int.natCast_mul, i64_nat _ (by omega)]
  have e7 : IntKind.i64.wrap ((f.size : Int) + (((n - A) / B * r.size : Nat) : Int)) = ((f.size + (n - A) / B * r.size : Nat) : Int) := by rw [← Int.natCast_add, i64_nat _ (by omega)]
  have e8 : ((((n - A) / B : Nat) : Int) * (r.size : Int)) = (((n - A) / B * r.size : Nat) : Int) := (Int.natCast_mul _ _).symm
  have e9 : ((f.size : Int) + (((n - A) / B * r.size : Nat) : Int)) = ((f.size + (n - A) / B * r.size : Nat) : Int) := by omega
  have HE : Hid (wrap64 ((f.size : Int) + wrap64 ((((n - A) / B : Nat) : Int) * (r.size : Int))) = ((f.size + (n - A) / B * r.size : Nat) : Int)) := Lib.hid (w64_sum _ _ _ (by omega) (by omega))
  clear e6 e7 e8 e9
  generalize (n - A) / B * r.size = X1 at *
  generalize (n - A) / B = X2 at *
  generalize (n - A) % B = X3 at *
  generalize n - A = X4 at *
  generalize f.size + X1 = X5 at *
  have c0 := k0 wq
  have c1 := k1 wq
  clear k0 k1
  go_wp2_with fail
  go_quiet (fail)
  go_wp2_with fail
  rw [HE.out]
  refine (HN.out _).mono ?_
  rintro e w3 ⟨rfl, hb3⟩
  have T3 := Lib.hid (Below.andThen (below_drewN T2.out nq) hb3 (Nat.le_refl _))
  clear hb3 c0 c1
  go_wp2_with fail
  go_ret2
  exact ⟨rfl, T3.out⟩
set_option maxRecDepth 100000 in
set_option maxHeartbeats 1000000 in
theorem refNth_none (f r : ByteArray) (n : Nat) (w : World) (z1 : f.size ≤ 60) (z2 : r.size ≤ 60) (hn : ¬ n < ones f.data.toList) (hz : ones r.data.toList = 0) :
    Calls Try.prog 48 #[.agg #[.string f, .string r], .int .i64 n] w fun e w' => e = .returned (.int .i64 (-1)) ∧ Below w.heap.size w w' := by
  have CC : Hid (∀ (s : ByteArray) W, s.size ≤ 60 → Calls Try.prog 83 #[.string s] W fun e w' => e = .returned (.int .i64 (ones s.data.toList)) ∧ w' = W) := Lib.hid fun s W h => refOnes_any s W (by omega)
  go_enter Try.func48, Try.ntmps48
  go_wp2_with fail
  have c0 : (w.alloc (.cells #[.string f, .string r] 24)).cell? ⟨w.heap.size, 0, none⟩ = some (.string f) := by simp [cell_al]
  have c1 : (w.alloc (.cells #[.string f, .string r] 24)).cell? ⟨w.heap.size, 1, none⟩ = some (.string r) := by simp [cell_al]
  go_quiet ((go_at_call 83; exact Calls.quiet_of_same (CC.out _ _ (by first | exact z1 | exact z2))))
  clear CC
  rw [hz]
  have t1 : decide (ones f.data.toList ≤ n) = true := decide_eq_true (by omega)
  clear hn hz
  generalize ones f.data.toList = A at *
  go_wp2_with fail
  go_ret
  exact ⟨rfl, below_drewN ((Below.refl _ _).alloc (Nat.le_refl _) _) _⟩
/-- where the reference begins to look -/
def nthAt (f r : ByteArray) (n : Nat) : Nat := if n < ones f.data.toList then 0 else f.size + (n - ones f.data.toList) / ones r.data.toList * r.size
set_option maxRecDepth 100000 in
set_option maxHeartbeats 1000000 in
theorem refNth_some (f r : ByteArray) (n k : Nat) (w : World) (z1 : f.size ≤ 60) (z2 : r.size ≤ 60) (z3 : 1 ≤ r.size) (hn : n ≤ 1000000) (hz : n < ones f.data.toList ∨ 1 ≤ ones r.data.toList) (hk : IsNth (hasB f r) 0 n k) (hle : nthAt f r n ≤ k) (hkb : k ≤ 1000000000) :
    Calls Try.prog 48 #[.agg #[.string f, .string r], .int .i64 n] w fun e w' => e = .returned (.int .i64 k) ∧ Below w.heap.size w w' := by
  have CC : Hid (∀ (s : ByteArray) W, s.size ≤ 60 → Calls Try.prog 83 #[.string s] W fun e w' => e = .returned (.int .i64 (ones s.data.toList)) ∧ w' = W) := Lib.hid fun s W h => refOnes_any s W (by omega)
  have o1 : ones f.data.toList ≤ 60 := Nat.le_trans (ones_le _) (by simpa using z1)
  have HK := Lib.hid hk
  have HL : Hid (nthAt f r n ≤ k) := Lib.hid hle
  clear hk hle
  go_enter Try.func48, Try.ntmps48
  go_wp2_with fail
  have c0 : (w.alloc (.cells #[.string f, .string r] 24)).cell? ⟨w.heap.size, 0, none⟩ = some (.string f) := by simp [cell_al]
  have c1 : (w.alloc (.cells #[.string f, .string r] 24)).cell? ⟨w.heap.size, 1, none⟩ = some (.string r) := by simp [cell_al]
  go_quiet ((go_at_call 83; exact Calls.quiet_of_same (CC.out _ _ (by first | exact z1 | exact z2))))
  obtain ⟨W, hW⟩ : ∃ W, W = (w.alloc (.cells #[.string f, .string r] 24)).drewN nq := ⟨_, rfl⟩
  have BW : Hid (Below w.heap.size w W) := Lib.hid (by rw [hW]; exact below_drewN ((Below.refl _ _).alloc (Nat.le_refl _) _) _)
  have d0 : W.cell? ⟨w.heap.size, 0, none⟩ = some (.string f) := by rw [hW]; exact c0
  have d1 : W.cell? ⟨w.heap.size, 1, none⟩ = some (.string r) := by rw [hW]; exact c1
  have ds : w.heap.size < W.heap.size := by rw [hW]; exact (by rw [size_al]; omega : w.heap.size < (w.alloc (.cells #[.string f, .string r] 24)).heap.size)
  rw [← hW]
  have CELLS := Lib.hid (And.intro d0 (And.intro d1 ds))
  clear CC hW c0 c1
  by_cases hA : n < ones f.data.toList
  · have HZ : Hid (nthAt f r n = 0) := Lib.hid (by unfold nthAt; rw [if_pos hA])
    have t1 : decide (ones f.data.toList ≤ n) = false := decide_eq_false (by omega)
    clear hz
    generalize ones f.data.toList = A at *
    generalize ones r.data.toList = B at *
    clear d0 d1 ds
    go_wp2_with fail
    go_loopw [7] (fun x wr => ∃ h : Nat, h ≤ k ∧ x = .int .i64 h ∧ Hid (Below w.heap.size w wr) ∧ Hid (wr.cell? ⟨w.heap.size, 0, none⟩ = some (.string f) ∧ wr.cell? ⟨w.heap.size, 1, none⟩ = some (.string r) ∧ w.heap.size < wr.heap.size)) (fun x _ => k - (intOf x).toNat)
    case atStart => exact ⟨0, Nat.zero_le _, rfl, BW, CELLS⟩
    case round =>
      obtain ⟨h, hh, rfl, B0, C0⟩ := hrel
      obtain ⟨d0, d1, ds⟩ := C0.out
      have hhb : h ≤ 1000000000 := by omega
      have HH : Hid (hasB f r h = true → countN f r h = n → h = k) := Lib.hid (fun h1 h2 => by
        rw [countN_cnt f r z3] at h2
        exact IsNth.unique (X := hasB f r) (a := 0) (n := n) ⟨Nat.zero_le _, h1, by rw [Nat.sub_zero]; exact h2⟩ HK.out)
      have HS : Hid ((hasB f r h = false ∨ ¬ countN f r h = n) → h + 1 ≤ k) := Lib.hid (fun h1 => by
        rcases Nat.lt_or_ge h k with h0 | h0
        · exact h0
        · obtain rfl : h = k := by omega
          rcases h1 with h1 | h1
          · rw [HK.out.2.1] at h1; cases h1
          · have := HK.out.2.2; rw [Nat.sub_zero, ← countN_cnt f r z3] at this; exact absurd this h1)
      clear ds
      cases hX : hasB f r h with
      | false =>
        have h1 := HS.out (.inl hX)
        have HX := Lib.hid hX
        clear hX HH HS
        go_wp2_with fail
        refine (refHas_any f r h _ z3 (by omega)).mono ?_
        rintro e w1 ⟨rfl, hb⟩
        rw [HX.out]
        have B1 := Lib.hid (Below.andThen B0.out hb (Nat.le_refl _))
        have C1 := Lib.hid (And.intro (below_at hb C0.out.2.2 C0.out.1) (And.intro (below_at hb C0.out.2.2 C0.out.2.1) (Nat.lt_of_lt_of_le C0.out.2.2 hb.size)))
        clear hb d0 d1
        go_wp2_with fail
        go_roundw
        case rel => exact ⟨h + 1, h1, by go_num, B1, C1⟩
        case measure => simp [intOf]; omega
      | true =>
        have HX := Lib.hid hX
        have HH' := Lib.hid (HH.out hX)
        clear hX HH
        go_wp2_with fail
        refine (refHas_any f r h _ z3 (by omega)).mono ?_
        rintro e w1 ⟨rfl, hb⟩
        rw [HX.out]
        have B1 := Lib.hid (Below.andThen B0.out hb (Nat.le_refl _))
        have C1 := Lib.hid (And.intro (below_at hb C0.out.2.2 C0.out.1) (And.intro (below_at hb C0.out.2.2 C0.out.2.1) (Nat.lt_of_lt_of_le C0.out.2.2 hb.size)))
        clear hb d0 d1
        obtain ⟨d0, d1, ds⟩ := C1.out
        clear ds
        by_cases hc : countN f r h = n
        · have HC := Lib.hid hc
          have e := HH'.out hc
          clear hc HS HH' HX
          subst e
          go_wp2_with fail
          refine (refCount_any f r h _ z1 z2 z3 (by omega)).mono ?_
          rintro e w2 ⟨rfl, hb⟩
          rw [HC.out]
          have B2 := Lib.hid (Below.andThen B1.out hb (Nat.le_refl _))
          clear hb d0 d1
          go_wp2_with fail
          go_ret
          exact ⟨rfl, B2.out⟩
        · have h1 := HS.out (.inr hc)
          have hc1 : ((countN f r h : Int) != (n : Int)) = true := by rw [nat_neq]; exact bne_iff_ne.2 hc
          clear HS HH' HX
          go_wp2_with fail
          refine (refCount_any f r h _ z1 z2 z3 (by omega)).mono ?_
          rintro e w2 ⟨rfl, hb⟩
          have B2 := Lib.hid (Below.andThen B1.out hb (Nat.le_refl _))
          have C2 := Lib.hid (And.intro (below_at hb C1.out.2.2 C1.out.1) (And.intro (below_at hb C1.out.2.2 C1.out.2.1) (Nat.lt_of_lt_of_le C1.out.2.2 hb.size)))
          clear hb d0 d1
          go_wp2_with fail
          go_roundw
          case rel => exact ⟨h + 1, h1, by go_num, B2, C2⟩
          case measure => simp [intOf]; omega
  · have hB : 1 ≤ ones r.data.toList := by omega
    have HZ : Hid (nthAt f r n = f.size + (n - ones f.data.toList) / ones r.data.toList * r.size) := Lib.hid (by unfold nthAt; rw [if_neg hA])
    have t1 : decide (ones f.data.toList ≤ n) = true := decide_eq_true (by omega)
    clear hz
    generalize ones f.data.toList = A at *
    generalize ones r.data.toList = B at *
    have t4 : ((B : Int) == 0) = false := beq_eq_false_iff_ne.2 (by omega)
    have t5 : ¬ ((B : Int) = 0) := by omega
    have e1 : IntKind.i64.wrap ((n : Int) - (A : Int)) = ((n - A : Nat) : Int) := by rw [i64_of _ (by omega) (by omega)]; omega
    have e2 : (((n - A : Nat) : Int)).tdiv (B : Int) = (((n - A) / B : Nat) : Int) := by rw [← Int.ofNat_tdiv]
    have u1 : (n - A) / B ≤ 1000000 := Nat.le_trans (Nat.div_le_self _ _) (by omega)
    have u2 : (n - A) / B * r.size ≤ 1000000 * 60 := Nat.mul_le_mul u1 z2
    have e4 : IntKind.i64.wrap ((((n - A) / B : Nat)) : Int) = (((n - A) / B : Nat) : Int) := i64_nat _ (by omega)
    have e6 : IntKind.i64.wrap ((((n - A) / B : Nat) : Int) * (r.size : Int)) = (((n - A) / B * r.size : Nat) : Int) := by rw [← Int.natCast_mul, i64_nat _ (by omega)]
    have e7 : IntKind.i64.wrap ((f.size : Int) + (((n - A) / B * r.size : Nat) : Int)) = ((f.size + (n - A) / B * r.size : Nat) : Int) := by rw [← Int.natCast_add, i64_nat _ (by omega)]
    generalize (n - A) / B * r.size = X1 at *
    generalize (n - A) / B = X2 at *
    generalize n - A = X4 at *
    generalize f.size + X1 = X5 at *
    have d3 := ds
    clear ds
    go_wp2_with fail
    go_quiet (fail)
    have T := Lib.hid (below_drewN BW.out nq)
    clear d0 d1 d3 e1 e2 e4 e6 e7 t4 t5
    go_wp2_with fail
    go_loopw [7] (fun x wr => ∃ h : Nat, h ≤ k ∧ x = .int .i64 h ∧ Hid (Below w.heap.size w wr) ∧ Hid (wr.cell? ⟨w.heap.size, 0, none⟩ = some (.string f) ∧ wr.cell? ⟨w.heap.size, 1, none⟩ = some (.string r) ∧ w.heap.size < wr.heap.size)) (fun x _ => k - (intOf x).toNat)
    case atStart => exact ⟨X5, by rw [← HZ.out]; exact HL.out, rfl, T, CELLS⟩
    case round =>
      obtain ⟨h, hh, rfl, B0, C0⟩ := hrel
      obtain ⟨d0, d1, ds⟩ := C0.out
      have hhb : h ≤ 1000000000 := by omega
      have HH : Hid (hasB f r h = true → countN f r h = n → h = k) := Lib.hid (fun h1 h2 => by
        rw [countN_cnt f r z3] at h2
        exact IsNth.unique (X := hasB f r) (a := 0) (n := n) ⟨Nat.zero_le _, h1, by rw [Nat.sub_zero]; exact h2⟩ HK.out)
      have HS : Hid ((hasB f r h = false ∨ ¬ countN f r h = n) → h + 1 ≤ k) := Lib.hid (fun h1 => by
        rcases Nat.lt_or_ge h k with h0 | h0
        · exact h0
        · obtain rfl : h = k := by omega
          rcases h1 with h1 | h1
          · rw [HK.out.2.1] at h1; cases h1
          · have := HK.out.2.2; rw [Nat.sub_zero, ← countN_cnt f r z3] at this; exact absurd this h1)
      clear ds
      cases hX : hasB f r h with
      | false =>
        have h1 := HS.out (.inl hX)
        have HX := Lib.hid hX
        clear hX HH HS
        go_wp2_with fail
        refine (refHas_any f r h _ z3 (by omega)).mono ?_
        rintro e w1 ⟨rfl, hb⟩
        rw [HX.out]
        have B1 := Lib.hid (Below.andThen B0.out hb (Nat.le_refl _))
        have C1 := Lib.hid (And.intro (below_at hb C0.out.2.2 C0.out.1) (And.intro (below_at hb C0.out.2.2 C0.out.2.1) (Nat.lt_of_lt_of_le C0.out.2.2 hb.size)))
        clear hb d0 d1
        go_wp2_with fail
        go_roundw
        case rel => exact ⟨h + 1, h1, by go_num, B1, C1⟩
        case measure => simp [intOf]; omega
      | true =>
        have HX := Lib.hid hX
        have HH' := Lib.hid (HH.out hX)
        clear hX HH
        go_wp2_with fail
        refine (refHas_any f r h _ z3 (by omega)).mono ?_
        rintro e w1 ⟨rfl, hb⟩
        rw [HX.out]
        have B1 := Lib.hid (Below.andThen B0.out hb (Nat.le_refl _))
        have C1 := Lib.hid (And.intro (below_at hb C0.out.2.2 C0.out.1) (And.intro (below_at hb C0.out.2.2 C0.out.2.1) (Nat.lt_of_lt_of_le C0.out.2.2 hb.size)))
        clear hb d0 d1
        obtain ⟨d0, d1, ds⟩ := C1.out
        clear ds
        by_cases hc : countN f r h = n
        · have HC := Lib.hid hc
          have e := HH'.out hc
          clear hc HS HH' HX
          subst e
          go_wp2_with fail
          refine (refCount_any f r h _ z1 z2 z3 (by omega)).mono ?_
          rintro e w2 ⟨rfl, hb⟩
          rw [HC.out]
          have B2 := Lib.hid (Below.andThen B1.out hb (Nat.le_refl _))
          clear hb d0 d1
          go_wp2_with fail
          go_ret
          exact ⟨rfl, B2.out⟩
        · have h1 := HS.out (.inr hc)
          have hc1 : ((countN f r h : Int) != (n : Int)) = true := by rw [nat_neq]; exact bne_iff_ne.2 hc
          clear HS HH' HX
          go_wp2_with fail
          refine (refCount_any f r h _ z1 z2 z3 (by omega)).mono ?_
          rintro e w2 ⟨rfl, hb⟩
          have B2 := Lib.hid (Below.andThen B1.out hb (Nat.le_refl _))
          have C2 := Lib.hid (And.intro (below_at hb C1.out.2.2 C1.out.1) (And.intro (below_at hb C1.out.2.2 C1.out.2.1) (Nat.lt_of_lt_of_le C1.out.2.2 hb.size)))
          clear hb d0 d1
          go_wp2_with fail
          go_roundw
          case rel => exact ⟨h + 1, h1, by go_num, B2, C2⟩
          case measure => simp [intOf]; omega
end Go.Proofs.Ytbhlddfjfcmncaa
