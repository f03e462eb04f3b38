import Derived.Test.YtlemipnplgbckaaPS
import Derived.Laws.AppendOwn
import Derived.ChangeKeysEq
import Derived.Maps.RangeWalk
import Derived.Maps.OwnIn
import Derived.Maps.AppendAt
import Derived.RangeFuncNested
import Derived.RangeFuncBound
import Derived.RangeFuncCalls
import Derived.RangeFuncLeaves
import Derived.Shelf.Abstract
import Derived.Shelf.RegionOpen
import Derived.WalkKit
import Derived.WalkMore
import Derived.OwnWalkIn
import Derived.TacticsInMore
import Derived.LoopNIn
import Derived.LoopIn
import Derived.WalkSpells
import Derived.WalkLawsBesides
import Derived.BigQuiet
import Derived.Deep.QuietTactic
import Derived.Lib.Hide
import Derived.Deep.RegionHeld3
import Derived.StillTailTactics
import Derived.Deep.LoopGhost
import Derived.Maps.OwnSet
import Derived.Lib.IndexAny
import Derived.Sort.QuietThIn
import Derived.Sort.QuietTacIn
import Derived.Sort.BigQuietIn
import Derived.Laws.OwnMore
import Derived.DeepKeys4
import Derived.Maps.Views
import Derived.Maps.OwnOps
import Derived.Laws.OwnMore
import Derived.Deep.DeepCutAuto
import Derived.ChangeKeysEq
namespace Go.Proofs.Ytlemipnplgbckaa
open Go.RowKit Go.Shelf
attribute [local go_sem] Oper.semAt_some
set_option maxRecDepth 100000 in
set_option maxHeartbeats 400000 in
theorem circle_any (X Y D R : Int) (w : World) : Calls Try.prog 28 #[.agg #[.int .i64 X, .int .i64 Y, .int .i64 D, .int .i64 R]] w fun e w' => e = .returned (.agg #[.int .i64 X, .int .i64 Y, .int .i64 D, .int .i64 R]) ∧ Below w.heap.size w w' := by
  go_enter Try.func28, Try.ntmps28
  go_wp2_with fail
  obtain ⟨V, hV, ra, rr, bV, hs⟩ := two_start w 30 46 [.int .i64 X, .int .i64 Y, .int .i64 D, .int .i64 R] [.int .i64 X, .int .i64 Y, .int .i64 D, .int .i64 R]
  rw [show (w.alloc (.cells #[.int .i64 X, .int .i64 Y, .int .i64 D, .int .i64 R] 30)).alloc (.cells #[.int .i64 X, .int .i64 Y, .int .i64 D, .int .i64 R] 46) = V from hV.symm]
  have v0 := rr.cell 0
  have v1 := rr.cell 1
  have v2 := rr.cell 2
  have v3 := rr.cell 3
  simp only [List.getElem?_cons_zero, List.getElem?_cons_succ] at v0 v1 v2 v3
  exact bodyPost_ret (v := .agg #[.int .i64 X, .int .i64 Y, .int .i64 D, .int .i64 R]) (by simp [results, Try.results28, go_sem, v0, v1, v2, v3]) rfl ⟨rfl, bV⟩
theorem abs_max (a : Int) : max a (-a) = (a.natAbs : Int) := by omega
set_option maxRecDepth 100000 in
set_option maxHeartbeats 1000000 in
theorem rgcd_any (a b : Int) (w : World) (ha : Bd 4000000000000000000 a) (hb : Bd 4000000000000000000 b) :
    Calls Try.prog 73 #[.int .i64 a, .int .i64 b] w fun e w' => e = .returned (.int .i64 (Nat.gcd a.natAbs b.natAbs : Nat)) ∧ Below w.heap.size w w' := by
  have e1 : IntKind.i64.wrap (-a) = -a := i64_bd ha.neg (by omega)
  have e2 : IntKind.i64.wrap (-b) = -b := i64_bd hb.neg (by omega)
  obtain ⟨G, hG⟩ : ∃ G, Nat.gcd a.natAbs b.natAbs = G := ⟨_, rfl⟩
  rw [hG]
  have key : ∀ (p q : Int), p = (a.natAbs : Int) → q = (b.natAbs : Int) → 0 ≤ p ∧ 0 ≤ q ∧ Bd 4000000000000000000 p ∧ Bd 4000000000000000000 q ∧ Nat.gcd p.natAbs q.natAbs = G := by
    rintro p q rfl rfl
    unfold Bd at *
    refine ⟨by omega, by omega, by omega, by omega, ?_⟩
    rw [Int.natAbs_natCast, Int.natAbs_natCast, hG]
  have HK := Lib.hid key
  have HAB := Lib.hid (And.intro ha hb)
  clear key hG
  clear ha hb
  go_enter Try.func73, Try.ntmps73
  go_wp2_with fail
  rw [abs_max a, abs_max b]
  go_loopw [0, 1] (fun av bv wx => ∃ (x y : Int), av = .int .i64 x ∧ bv = .int .i64 y ∧ 0 ≤ x ∧ 0 ≤ y ∧ Bd 4000000000000000000 x ∧ Bd 4000000000000000000 y ∧ Hid (Nat.gcd x.natAbs y.natAbs = G) ∧ ∃ n, wx = w.drewN n) (fun _ bv _ => (intOf bv).natAbs)
  case atStart =>
    obtain ⟨h1, h2, h3, h4, h5⟩ := HK.out _ _ rfl rfl
    exact ⟨_, _, rfl, rfl, h1, h2, h3, h4, Lib.hid h5, 0, rfl⟩
  case round =>
    obtain ⟨x, y, rfl, rfl, hx0, hy0, hx, hy, HGG, n, rfl⟩ := hrel
    by_cases hz : y = 0
    · subst hz
      have HN := Lib.hid (show x = (G : Int) by
        rw [← HGG.out, Int.natAbs_zero, Nat.gcd_zero_right]; omega)
      go_wp2_with fail
      go_ret
      exact ⟨ret_int HN.out, below_drewN (Below.refl _ _) n⟩
    · have hb1 : decide (0 < y) = true := decide_eq_true (by omega)
      have e3 : ¬ (y = 0) := hz
      have hm : (x.tmod y).natAbs < y.natAbs := by
        rw [Int.natAbs_tmod]; exact Nat.mod_lt _ (by omega)
      have hm0 : 0 ≤ x.tmod y := Int.tmod_nonneg y hx0
      have hg2 : Nat.gcd y.natAbs (x.tmod y).natAbs = G := by
        rw [← HGG.out, Int.natAbs_tmod, Nat.gcd_comm x.natAbs, Nat.gcd_rec y.natAbs x.natAbs, Nat.gcd_comm]
      have hbq : Bd 4000000000000000000 (x.tmod y) := by unfold Bd at *; omega
      have et : x.tmod y = x % y := Int.tmod_eq_emod_of_nonneg hx0
      rw [et] at hm hm0 hg2 hbq
      clear et
      have HG2 := Lib.hid hg2
      have HM := Lib.hid hm
      have HM0 := Lib.hid hm0
      clear hg2 hm hm0
      go_wp2_with fail
      go_quiet (fail)
      go_wp2_with fail
      exact ⟨⟨y, _, rfl, rfl, hy0, HM0.out, hy, hbq, HG2, _, drewN_drewN _ _ _⟩, by simp only [intOf]; exact HM.out⟩
theorem rnd_neg (x y d : Int) (hd : d < 0) : rX x y d = (-x).tdiv (gcdL 0 [x, y, d] : Nat) ∧ rY x y d = (-y).tdiv (gcdL 0 [x, y, d] : Nat) ∧ rD x y d = (-d).tdiv (gcdL 0 [x, y, d] : Nat) := by
  unfold rX rY rD gS
  rw [if_pos hd]
  refine ⟨?_, ?_, ?_⟩ <;> rw [Int.tdiv_neg, Int.neg_tdiv]
theorem rnd_pos (x y d : Int) (hd : ¬ d < 0) : rX x y d = x.tdiv (gcdL 0 [x, y, d] : Nat) ∧ rY x y d = y.tdiv (gcdL 0 [x, y, d] : Nat) ∧ rD x y d = d.tdiv (gcdL 0 [x, y, d] : Nat) := by
  unfold rX rY rD gS
  rw [if_neg hd]
  exact ⟨rfl, rfl, rfl⟩
theorem ap_alt (X Y D p q : Int) : (X - p * D) * (X - p * D) + (Y - q * D) * (Y - q * D) = apF X Y D (p, q) := by
  unfold apF
  dsimp only
  grind
end Go.Proofs.Ytlemipnplgbckaa
