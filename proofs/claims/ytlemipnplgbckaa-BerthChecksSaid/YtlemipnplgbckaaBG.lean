import Derived.Test.YtlemipnplgbckaaBF
import Derived.Shelf.Bits.Mul64
import Derived.Shelf.LaysM
import Derived.Laws.AppendOwn
import Derived.ChangeKeysEq
import Derived.Maps.RangeWalk
import Derived.Maps.OwnIn
import Derived.Maps.AppendAt
import Derived.RangeFuncNested
import Derived.RangeFuncBound
import Derived.RangeFuncCalls
import Derived.RangeFuncLeaves
import Derived.Shelf.Abstract
import Derived.Shelf.RegionOpen
import Derived.WalkKit
import Derived.WalkMore
import Derived.OwnWalkIn
import Derived.TacticsInMore
import Derived.LoopNIn
import Derived.LoopIn
import Derived.WalkSpells
import Derived.WalkLawsBesides
import Derived.BigQuiet
import Derived.Deep.QuietTactic
import Derived.Lib.Hide
import Derived.Deep.RegionHeld3
import Derived.StillTailTactics
import Derived.Deep.LoopGhost
import Derived.Maps.OwnSet
import Derived.Lib.IndexAny
import Derived.Sort.QuietThIn
import Derived.Sort.QuietTacIn
import Derived.Sort.BigQuietIn
import Derived.Laws.OwnMore
import Derived.DeepKeys4
import Derived.Maps.Views
import Derived.Maps.OwnOps
import Derived.Laws.OwnMore
import Derived.Deep.DeepCutAuto
import Derived.ChangeKeysEq
namespace Go.Proofs.Ytlemipnplgbckaa
open Go.RowKit Go.Shelf
attribute [local go_sem] Oper.semAt_some
end Go.Proofs.Ytlemipnplgbckaa
namespace Go.Proofs
open Go.Shelf
def Try.lays264b_ren : Go.Shelf.Ren := ⟨fun | 264 => 99 | n => n, fun | 53 => 120 | 46 => 77 | n => n, fun | n => n⟩
theorem Try.lays264b : Go.Proofs.Lays.n264 Try.prog Try.lays264b_ren := {
  mixed := by kernel_rfl
  f264 := Try.func99.trans (congrArg some (by kernel_rfl))
  t46 := Try.underlying77
  a46 := Try.isAgg77
  z46 := Try.sizeOf77
  v46 := Try.zeroValue77
  t53 := Try.underlying120
  a53 := Try.isAgg120
  z53 := Try.sizeOf120
  v53 := Try.zeroValue120 }
end Go.Proofs
namespace Go.Proofs.Ytlemipnplgbckaa
open Go.RowKit Go.Shelf Go.Lib
attribute [local go_sem] Oper.semAt_some
theorem mul64_any (x y : Nat) (hx : x < 18446744073709551616) (hy : y < 18446744073709551616) (w : World) :
    Calls Try.prog 99 #[.int .u64 x, .int .u64 y] w fun e w' => e = .returned (.tuple #[.int .u64 ((x * y / 18446744073709551616 : Nat) : Int), .int .u64 ((x * y % 18446744073709551616 : Nat) : Int)]) ∧ w' = w := Any.bits_Mul64 Try.lays264b x y hx hy w
set_option maxHeartbeats 400000 in
theorem isNaNu_any (a : Int) (w : World) : Calls Try.prog 105 #[.int .u64 a] w fun e w' => e = .returned (.bool false) ∧ w' = w := by
  have h : (a != a) = false := by simp
  go_enter Try.func105, Try.ntmps105
  go_wp2_with fail
  go_ret
  exact ⟨by simp, rfl⟩
set_option maxHeartbeats 400000 in
theorem cmpu_any (a b : Int) (w : World) : Calls Try.prog 101 #[.int .u64 a, .int .u64 b] w fun e w' => e = .returned (.int .i64 (cmpI a b)) ∧ w' = w := by
  go_enter Try.func101, Try.ntmps101
  go_wp2_with fail
  refine (isNaNu_any a w).mono ?_
  rintro e w1 ⟨rfl, rfl⟩
  go_wp2_with fail
  refine (isNaNu_any b w1).mono ?_
  rintro e w2 ⟨rfl, rfl⟩
  by_cases h1 : a < b
  · have d1 : decide (a < b) = true := decide_eq_true h1
    go_wp2_with fail
    go_ret
    exact ⟨ret_int (by unfold cmpI; (repeat' split) <;> omega), rfl⟩
  · have d1 : decide (a < b) = false := decide_eq_false h1
    by_cases h2 : b < a
    · have d2 : decide (b < a) = true := decide_eq_true h2
      go_wp2_with fail
      go_ret
      exact ⟨ret_int (by unfold cmpI; (repeat' split) <;> omega), rfl⟩
    · have d2 : decide (b < a) = false := decide_eq_false h2
      go_wp2_with fail
      go_ret
      exact ⟨ret_int (by unfold cmpI; (repeat' split) <;> omega), rfl⟩
set_option maxHeartbeats 400000 in
theorem or_any (x y : Int) (b : Nat) (w : World) (hx : w.cell? ⟨b, 0, none⟩ = some (.int .i64 x)) (hy : w.cell? ⟨b, 1, none⟩ = some (.int .i64 y)) :
    Calls Try.prog 100 #[.slice (some ⟨b, 0, none⟩) 2 2] w fun e w' => e = .returned (.int .i64 (if x ≠ 0 then x else y)) ∧ w' = w := by
  have HX := Lib.hid hx
  have HY := Lib.hid hy
  clear hx hy
  go_enter Try.func100, Try.ntmps100
  go_wp2_with fail
  go_loopw [8] (fun iv wr => ∃ k : Nat, k ≤ 2 ∧ iv = .int .i64 (k : Int) ∧ Hid ((1 ≤ k → x = 0) ∧ (k = 2 → y = 0)) ∧ wr = w) (fun iv _ => (2 - intOf iv).toNat)
  case atStart => exact ⟨0, by omega, rfl, Lib.hid ⟨by omega, by omega⟩, rfl⟩
  case round =>
    obtain ⟨k, hk, rfl, HK, rfl⟩ := hrel
    rcases (show k = 0 ∨ k = 1 ∨ k = 2 by omega) with rfl | rfl | rfl
    · have c0 := HX.out
      by_cases h : x = 0
      · have d : (x != 0) = false := by simp [h]
        have HZ := Lib.hid h
        clear h
        go_wp2_with fail
        exact ⟨⟨1, by omega, by simp, Lib.hid ⟨fun _ => HZ.out, by omega⟩, trivial⟩, by simp [intOf]⟩
      · have d : (x != 0) = true := by simp [h]
        go_wp2_with fail
        go_ret
        exact ⟨rfl, rfl⟩
    · have c0 := HY.out
      have h0 := HK.out.1 (by omega)
      by_cases h : y = 0
      · have d : (y != 0) = false := by simp [h]
        have HZ := Lib.hid h
        have HZ0 := Lib.hid h0
        clear h h0
        go_wp2_with fail
        exact ⟨⟨2, by omega, by simp, Lib.hid ⟨fun _ => HZ0.out, fun _ => HZ.out⟩, trivial⟩, by simp [intOf]⟩
      · have d : (y != 0) = true := by simp [h]
        have HZ0 := Lib.hid h0
        clear h0
        go_wp2_with fail
        go_ret
        exact ⟨rfl, rfl⟩
    · have h0 := Lib.hid (HK.out.1 (by omega))
      have h1 := Lib.hid (HK.out.2 rfl)
      go_wp2_with fail
      go_ret
      exact ⟨ret_int h1.out.symm, rfl⟩
theorem cmp_words (a b : Nat) : (if cmpI ((a / 18446744073709551616 : Nat) : Int) ((b / 18446744073709551616 : Nat) : Int) ≠ 0 then cmpI ((a / 18446744073709551616 : Nat) : Int) ((b / 18446744073709551616 : Nat) : Int) else cmpI ((a % 18446744073709551616 : Nat) : Int) ((b % 18446744073709551616 : Nat) : Int)) = cmpI (a : Int) (b : Int) := by
  unfold cmpI
  (repeat' split) <;> omega
/-- the comparison of two radii -/
def cmpC (D R D' R' : Int) : Int := cmpI (R * (D' * D')) (R' * (D * D))
set_option maxRecDepth 100000 in
set_option maxHeartbeats 1000000 in
theorem compare_any (X Y X' Y' : Int) (D R D' R' : Nat) (w : World) (h1 : D ≤ 1000000) (h2 : D' ≤ 1000000) (h3 : R ≤ 1000000000000) (h4 : R' ≤ 1000000000000) :
    Calls Try.prog 75 #[.agg #[.int .i64 X, .int .i64 Y, .int .i64 (D : Int), .int .i64 (R : Int)], .agg #[.int .i64 X', .int .i64 Y', .int .i64 (D' : Int), .int .i64 (R' : Int)]] w fun e w' => e = .returned (.int .i64 (cmpC D R D' R')) ∧ Below w.heap.size w w' := by
  have q1 : D * D ≤ 1000000000000 := Nat.mul_le_mul h1 h1
  have q2 : D' * D' ≤ 1000000000000 := Nat.mul_le_mul h2 h2
  obtain ⟨dd, hdd⟩ : ∃ dd : Nat, D * D = dd := ⟨_, rfl⟩
  obtain ⟨ee, hee⟩ : ∃ ee : Nat, D' * D' = ee := ⟨_, rfl⟩
  have hdi : (D : Int) * (D : Int) = (dd : Int) := by rw [← hdd]; simp
  have hei : (D' : Int) * (D' : Int) = (ee : Int) := by rw [← hee]; simp
  rw [hdd] at q1
  rw [hee] at q2
  have HM1 := Lib.hid (fun W => mul64_any R ee (by omega) (by omega) W)
  have HM2 := Lib.hid (fun W => mul64_any R' dd (by omega) (by omega) W)
  have hw := cmp_words (R * ee) (R' * dd)
  have hc : cmpC D R D' R' = cmpI ((R * ee : Nat) : Int) ((R' * dd : Nat) : Int) := by unfold cmpC; rw [hdi, hei]; simp
  rw [← hc] at hw
  obtain ⟨ph, hph⟩ : ∃ ph : Int, ((R * ee / 18446744073709551616 : Nat) : Int) = ph := ⟨_, rfl⟩
  obtain ⟨pl, hpl⟩ : ∃ ph : Int, ((R * ee % 18446744073709551616 : Nat) : Int) = ph := ⟨_, rfl⟩
  obtain ⟨qh, hqh⟩ : ∃ ph : Int, ((R' * dd / 18446744073709551616 : Nat) : Int) = ph := ⟨_, rfl⟩
  obtain ⟨ql, hql⟩ : ∃ ph : Int, ((R' * dd % 18446744073709551616 : Nat) : Int) = ph := ⟨_, rfl⟩
  rw [hph, hpl] at HM1 hw
  rw [hqh, hql] at HM2 hw
  obtain ⟨ch, hch⟩ : ∃ c, cmpI ph qh = c := ⟨_, rfl⟩
  obtain ⟨cl, hcl⟩ : ∃ c, cmpI pl ql = c := ⟨_, rfl⟩
  rw [hch, hcl] at hw
  have HOR := Lib.hid (fun (W : World) (b : Nat) (h1 : W.cell? ⟨b, 0, none⟩ = some (.int .i64 ch)) (h2 : W.cell? ⟨b, 1, none⟩ = some (.int .i64 cl)) => or_any ch cl b W h1 h2)
  rw [hw] at HOR
  have HCH := Lib.hid (fun (W : World) => cmpu_any ph qh W)
  have HCL := Lib.hid (fun (W : World) => cmpu_any pl ql W)
  rw [hch] at HCH
  rw [hcl] at HCL
  generalize cmpC (D : Int) (R : Int) (D' : Int) (R' : Int) = C at *
  clear hw hc hph hpl hqh hql hch hcl
  have u1 : IntKind.u64.wrap (R : Int) = (R : Int) := by rw [u64_wrap]; omega
  have u2 : IntKind.u64.wrap (R' : Int) = (R' : Int) := by rw [u64_wrap]; omega
  have i1 : IntKind.i64.wrap ((D : Int) * (D : Int)) = (dd : Int) := by rw [hdi]; exact i64_of _ (by omega) (by omega)
  have i2 : IntKind.i64.wrap ((D' : Int) * (D' : Int)) = (ee : Int) := by rw [hei]; exact i64_of _ (by omega) (by omega)
  have u3 : IntKind.u64.wrap (dd : Int) = (dd : Int) := by rw [u64_wrap]; omega
  have u4 : IntKind.u64.wrap (ee : Int) = (ee : Int) := by rw [u64_wrap]; omega
  clear hdd hee hdi hei
  clear h1 h2 h3 h4 q1 q2
  have ba : Below w.heap.size w ((w.alloc (.cells #[.int .i64 X, .int .i64 Y, .int .i64 (D : Int), .int .i64 (R : Int)] 30)).alloc (.cells #[.int .i64 X', .int .i64 Y', .int .i64 (D' : Int), .int .i64 (R' : Int)] 30)) := ((Below.refl w.heap.size w).alloc (Nat.le_refl _) _).alloc (by simp) _
  have BA := Lib.hid ba
  clear ba
  go_enter Try.func75, Try.ntmps75
  go_wp2_with fail
  refine (HM1.out _).mono ?_
  rintro e w1 ⟨rfl, rfl⟩
  clear HM1
  go_wp2_with fail
  refine (HM2.out _).mono ?_
  rintro e w1 ⟨rfl, rfl⟩
  clear HM2 u1 u2 u3 u4 i1 i2
  go_wp2_with fail
  refine (HCH.out _).mono ?_
  rintro e w1 ⟨rfl, rfl⟩
  go_wp2_with fail
  refine (HCL.out _).mono ?_
  rintro e w1 ⟨rfl, rfl⟩
  go_wp2_with fail
  refine (HOR.out _ _ (by simp [cell_al]) (by simp [cell_al])).mono ?_
  rintro e w1 ⟨rfl, rfl⟩
  go_wp2_with fail
  go_ret
  exact ⟨rfl, BA.out.alloc BA.out.size _⟩
end Go.Proofs.Ytlemipnplgbckaa
