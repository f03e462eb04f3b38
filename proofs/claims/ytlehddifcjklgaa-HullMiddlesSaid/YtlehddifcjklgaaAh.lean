import Derived.Test.YtlehddifcjklgaaAg
import Derived.Maps.OwnIn
import Derived.Maps.OwnSet
import Derived.Maps.AppendAt
import Derived.RangeFuncNested
import Derived.RangeFuncBound
import Derived.RangeFuncCalls
import Derived.RangeFuncLeaves
import Derived.Shelf.Abstract
import Derived.Shelf.RegionOpen
import Derived.WalkKit
import Derived.OwnWalkIn
import Derived.TacticsInMore
import Derived.LoopNIn
import Derived.LoopIn
import Derived.WalkMore
import Derived.Sort.QuietThIn
import Derived.Sort.QuietTacIn
import Derived.Sort.BigQuietIn
import Derived.WalkSpells
import Derived.WalkLawsBesides
import Derived.BigQuiet
import Derived.Deep.QuietTactic
import Derived.Lib.Hide
import Derived.Deep.RegionHeld3
import Derived.StillTailTactics
import Derived.Deep.LoopGhost
import Derived.Lib.IndexAny
namespace Go.Proofs.Ytlehddifcjklgaa
open Go.RowKit Go.Shelf
attribute [local go_sem] Oper.semAt_some
theorem w64_lo (x : Int) : -9223372036854775808 ≤ wrap64 x := by unfold wrap64; omega
theorem w64_hi (x : Int) : wrap64 x ≤ 9223372036854775807 := by unfold wrap64; omega
set_option maxRecDepth 100000 in
set_option maxHeartbeats 2000000 in
theorem HullHarmonic_any (n : Int) (w : World) (hn1 : -9223372036854775808 ≤ n) (hn2 : n ≤ 9223372036854775807) :
    Calls Try.prog 11 #[.int .i64 n] w fun e w' => e = .returned (.bool true) ∧ Below w.heap.size w w' := by
  go_enter Try.func11, Try.ntmps11
  go_wp2_with fail
  go_loopw [0, 3] (fun x r wr => ∃ (m : Int) (j : Nat), x = .int .i64 m ∧ -9223372036854775808 ≤ m ∧ m ≤ 9223372036854775807 ∧ r = .int .i64 (j : Int) ∧ j ≤ 2 ∧ Hid (Below w.heap.size w wr)) (fun _ r _ => 2 - (intOf r).toNat)
  case atStart => exact ⟨n, 0, rfl, hn1, hn2, rfl, by omega, Lib.hid (Below.refl _ _)⟩
  case round =>
    obtain ⟨m, j, rfl, hm1, hm2, rfl, hj, HB⟩ := hrel
    by_cases hlt : j < 2
    · have hd : decide ((j : Int) < 2) = true := decide_eq_true (by omega)
      by_cases hbad : m < 1 ∨ 30 < m
      · have hbb : (decide (m < 1) = true) ∨ (decide (m < 1) = false ∧ decide (30 < m) = true) := by
          by_cases h1 : m < 1
          · exact .inl (decide_eq_true h1)
          · exact .inr ⟨decide_eq_false h1, decide_eq_true (by omega)⟩
        go_wp2_with fail
        refine (Harmonic_bad m wr hbad).mono ?_
        rintro e w1 ⟨rfl, hb⟩
        have T1 := Lib.hid (Below.al (Below.andThen HB.out hb (Nat.le_refl _)) (Nat.le_refl _) (.cells #[.int .i64 0, .int .i64 0] 39))
        have E0 := eq39 0 0
        clear hb
        rcases hbb with dd | ⟨dd, de⟩
        · go_wp2_with fail
          exact ⟨⟨_, j + 1, rfl, w64_lo _, w64_hi _, (by simp), (by omega), T1⟩, (by simp [intOf]; omega)⟩
        · go_wp2_with fail
          exact ⟨⟨_, j + 1, rfl, w64_lo _, w64_hi _, (by simp), (by omega), T1⟩, (by simp [intOf]; omega)⟩
      · obtain ⟨k, rfl⟩ : ∃ k : Nat, m = (k : Int) := ⟨m.toNat, by omega⟩
        have dd : decide ((k : Int) < 1) = false := decide_eq_false (by omega)
        have de : decide (30 < (k : Int)) = false := decide_eq_false (by omega)
        obtain ⟨a, b, hab⟩ : ∃ a b, harF k = (a, b) := ⟨_, _, rfl⟩
        have hH := Harmonic_any k wr (by omega) (by omega)
        have hR := fun W => rHarmonic_any k W (by omega)
        rw [hab] at hH hR
        dsimp only at hH hR
        have HRR := Lib.hid hR
        go_wp2_with fail
        refine hH.mono ?_
        rintro e w1 ⟨rfl, hb⟩
        have T1 := Lib.hid (Below.al (Below.andThen HB.out hb (Nat.le_refl _)) (Nat.le_refl _) (.cells #[.int .i64 a, .int .i64 b] 39))
        have r1 := Row.new w1 39 [.int .i64 a, .int .i64 b]
        have E0 := eq39 a b
        clear hb hH hR
        go_wp2_with fail
        obtain ⟨z0, z1, _, _⟩ := two_cells r1
        have x0 := Kl.cell r1.lt z0
        have x1 := Kl.cell r1.lt z1
        refine wp_region_below (by kernel_rfl) (by kernel_rfl) ?_
        repeat (go_big_quiet_step (first | (go_at_call 56; exact Kl.call (HRR.out _))))
        refine wpQuiet_nil ?_
        rintro _ ⟨wq, rfl⟩
        have T2 := Lib.hid (Below.andThen T1.out wq.h (Nat.le_refl _))
        go_wp2_with fail
        exact ⟨⟨_, j + 1, rfl, by omega, by omega, (by simp), (by omega), T2⟩, (by simp [intOf]; omega)⟩
    · have hd : decide ((j : Int) < 2) = false := decide_eq_false (by omega)
      go_wp2_with fail
      refine (awake_any _).mono ?_
      rintro e w1 ⟨rfl, hb⟩
      have T1 := Lib.hid (Below.andThen HB.out hb (Nat.le_refl _))
      clear hb
      go_wp2_with fail
      go_ret
      exact ⟨rfl, T1.out⟩
end Go.Proofs.Ytlehddifcjklgaa
