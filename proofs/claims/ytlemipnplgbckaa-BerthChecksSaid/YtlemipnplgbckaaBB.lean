import Derived.Test.YtlemipnplgbckaaBA
import Derived.Laws.AppendOwn
import Derived.ChangeKeysEq
import Derived.Maps.RangeWalk
import Derived.Maps.OwnIn
import Derived.Maps.AppendAt
import Derived.RangeFuncNested
import Derived.RangeFuncBound
import Derived.RangeFuncCalls
import Derived.RangeFuncLeaves
import Derived.Shelf.Abstract
import Derived.Shelf.RegionOpen
import Derived.WalkKit
import Derived.WalkMore
import Derived.OwnWalkIn
import Derived.TacticsInMore
import Derived.LoopNIn
import Derived.LoopIn
import Derived.WalkSpells
import Derived.WalkLawsBesides
import Derived.BigQuiet
import Derived.Deep.QuietTactic
import Derived.Lib.Hide
import Derived.Deep.RegionHeld3
import Derived.StillTailTactics
import Derived.Deep.LoopGhost
import Derived.Maps.OwnSet
import Derived.Lib.IndexAny
import Derived.Sort.QuietThIn
import Derived.Sort.QuietTacIn
import Derived.Sort.BigQuietIn
import Derived.Laws.OwnMore
import Derived.DeepKeys4
import Derived.Maps.Views
import Derived.Maps.OwnOps
import Derived.Laws.OwnMore
import Derived.Deep.DeepCutAuto
import Derived.ChangeKeysEq
namespace Go.Proofs.Ytlemipnplgbckaa
open Go.RowKit Go.Shelf
attribute [local go_sem] Oper.semAt_some
set_option maxHeartbeats 400000 in
theorem minus_any (a1 a2 b1 b2 : Int) (w : World) (h1 : Bd 100000000 a1) (h2 : Bd 100000000 a2) (h3 : Bd 100000000 b1) (h4 : Bd 100000000 b2) :
    Calls Try.prog 90 #[.agg #[.int .i64 a1, .int .i64 a2], .agg #[.int .i64 b1, .int .i64 b2]] w fun e w' => e = .returned (.agg #[.int .i64 (a1 - b1), .int .i64 (a2 - b2)]) ∧ Below w.heap.size w w' := by
  have e1 := i64_bd (h1.sub h3) (by omega)
  have e3 := i64_bd (h2.sub h4) (by omega)
  clear h1 h2 h3 h4
  go_enter Try.func90, Try.ntmps90
  go_wp2_with fail
  refine bodyPost_ret (v := .agg #[.int .i64 (a1 - b1), .int .i64 (a2 - b2)]) (by simp [results, Try.results90, go_sem]) rfl ⟨rfl, ?_⟩
  exact ((((Below.refl w.heap.size w).alloc (Nat.le_refl _) _).alloc (by simp) _).alloc (by simp; omega) _)
/-- a1 b2 - a2 b1, and a1 b1 + a2 b2 -/
def crs (a b : Pt) : Int := a.1 * b.2 - a.2 * b.1
def dt (a b : Pt) : Int := a.1 * b.1 + a.2 * b.2
set_option maxHeartbeats 400000 in
theorem cross_any (a1 a2 b1 b2 : Int) (w : World) (h1 : Bd 100000000 a1) (h2 : Bd 100000000 a2) (h3 : Bd 100000000 b1) (h4 : Bd 100000000 b2) :
    Calls Try.prog 91 #[.agg #[.int .i64 a1, .int .i64 a2], .agg #[.int .i64 b1, .int .i64 b2]] w fun e w' => e = .returned (.int .i64 (crs (a1, a2) (b1, b2))) ∧ Below w.heap.size w w' := by
  have m1 := h1.mul h4
  have m2 := h2.mul h3
  have e1 := i64_bd m1 (by omega)
  have e3 := i64_bd m2 (by omega)
  have e4 := i64_bd (m1.sub m2) (by omega)
  clear m1 m2 h1 h2 h3 h4
  go_enter Try.func91, Try.ntmps91
  go_wp2_with fail
  go_ret
  exact ⟨rfl, (((Below.refl w.heap.size w).alloc (Nat.le_refl _) _).alloc (by simp) _)⟩
set_option maxHeartbeats 400000 in
theorem dot_any (a1 a2 b1 b2 : Int) (w : World) (h1 : Bd 100000000 a1) (h2 : Bd 100000000 a2) (h3 : Bd 100000000 b1) (h4 : Bd 100000000 b2) :
    Calls Try.prog 103 #[.agg #[.int .i64 a1, .int .i64 a2], .agg #[.int .i64 b1, .int .i64 b2]] w fun e w' => e = .returned (.int .i64 (dt (a1, a2) (b1, b2))) ∧ Below w.heap.size w w' := by
  have m1 := h1.mul h3
  have m2 := h2.mul h4
  have e1 := i64_bd m1 (by omega)
  have e3 := i64_bd m2 (by omega)
  have e4 := i64_bd (m1.add m2) (by omega)
  clear m1 m2 h1 h2 h3 h4
  go_enter Try.func103, Try.ntmps103
  go_wp2_with fail
  go_ret
  exact ⟨rfl, (((Below.refl w.heap.size w).alloc (Nat.le_refl _) _).alloc (by simp) _)⟩
set_option maxHeartbeats 400000 in
/-- the sum of two squares -/
theorem sq_any (x y : Int) (b o c : Nat) (w : World) (hx : w.cell? ⟨b, o, none⟩ = some (.int .i64 x)) (hy : w.cell? ⟨b, o + 1, none⟩ = some (.int .i64 y)) (_hc : 2 ≤ c) (bx : Bd 1000000000 x) (bY : Bd 1000000000 y) :
    Calls Try.prog 92 #[.slice (some ⟨b, o, none⟩) 2 c] w fun e w' => e = .returned (.int .i64 (x * x + y * y)) ∧ w' = w := by
  have m1 := bx.mul bx
  have m2 := bY.mul bY
  have e1 := i64_bd m1 (by omega)
  have e2 := i64_bd m2 (by omega)
  have e3 := i64_bd (m1.add m2) (by omega)
  have HX := Lib.hid hx
  have HY := Lib.hid hy
  clear m1 m2 bx bY hx hy
  go_enter Try.func92, Try.ntmps92
  go_wp2_with fail
  go_loopw [3, 8] (fun sv iv wr => ∃ k : Nat, k ≤ 2 ∧ iv = .int .i64 (k : Int) ∧ sv = .int .i64 (if k = 0 then 0 else if k = 1 then x * x else x * x + y * y) ∧ wr = w) (fun _ iv _ => (2 - intOf iv).toNat)
  case atStart => exact ⟨0, by omega, rfl, rfl, rfl⟩
  case round =>
    obtain ⟨k, hk, rfl, rfl, rfl⟩ := hrel
    rcases (show k = 0 ∨ k = 1 ∨ k = 2 by omega) with rfl | rfl | rfl
    · have c0 := HX.out
      simp only [if_true]
      go_wp2_with fail
      exact ⟨⟨1, by omega, by simp, by simp, trivial⟩, by simp [intOf]⟩
    · have c0 := HY.out
      go_wp2_with fail
      exact ⟨⟨2, by omega, by simp, by simp, trivial⟩, by simp [intOf]⟩
    · go_wp2_with fail
      go_ret
      exact ⟨rfl, rfl⟩
/-- the comparison of two numbers -/
def cmpI (a b : Int) : Int := if a < b then -1 else if b < a then 1 else 0
set_option maxHeartbeats 400000 in
theorem isNaN_any (a : Int) (w : World) : Calls Try.prog 104 #[.int .i64 a] w fun e w' => e = .returned (.bool false) ∧ w' = w := by
  have h : (a != a) = false := by simp
  go_enter Try.func104, Try.ntmps104
  go_wp2_with fail
  go_ret
  exact ⟨by simp, rfl⟩
set_option maxHeartbeats 400000 in
theorem cmp_any (a b : Int) (w : World) : Calls Try.prog 94 #[.int .i64 a, .int .i64 b] w fun e w' => e = .returned (.int .i64 (cmpI a b)) ∧ w' = w := by
  go_enter Try.func94, Try.ntmps94
  go_wp2_with fail
  refine (isNaN_any a w).mono ?_
  rintro e w1 ⟨rfl, rfl⟩
  go_wp2_with fail
  refine (isNaN_any b w1).mono ?_
  rintro e w2 ⟨rfl, rfl⟩
  by_cases h1 : a < b
  · have d1 : decide (a < b) = true := decide_eq_true h1
    go_wp2_with fail
    go_ret
    exact ⟨ret_int (by unfold cmpI; (repeat' split) <;> omega), rfl⟩
  · have d1 : decide (a < b) = false := decide_eq_false h1
    by_cases h2 : b < a
    · have d2 : decide (b < a) = true := decide_eq_true h2
      go_wp2_with fail
      go_ret
      exact ⟨ret_int (by unfold cmpI; (repeat' split) <;> omega), rfl⟩
    · have d2 : decide (b < a) = false := decide_eq_false h2
      go_wp2_with fail
      go_ret
      exact ⟨ret_int (by unfold cmpI; (repeat' split) <;> omega), rfl⟩
end Go.Proofs.Ytlemipnplgbckaa
