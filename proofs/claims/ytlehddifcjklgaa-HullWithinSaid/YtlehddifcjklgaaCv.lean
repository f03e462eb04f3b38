import Derived.Test.YtlehddifcjklgaaMB
import Derived.Maps.OwnIn
import Derived.Maps.OwnSet
import Derived.Maps.AppendAt
import Derived.RangeFuncNested
import Derived.RangeFuncBound
import Derived.RangeFuncCalls
import Derived.RangeFuncLeaves
import Derived.Shelf.Abstract
import Derived.Shelf.RegionOpen
import Derived.WalkKit
import Derived.OwnWalkIn
import Derived.TacticsInMore
import Derived.LoopNIn
import Derived.LoopIn
import Derived.WalkMore
import Derived.Sort.QuietThIn
import Derived.Sort.QuietTacIn
import Derived.Sort.BigQuietIn
import Derived.WalkSpells
import Derived.WalkLawsBesides
import Derived.BigQuiet
import Derived.Deep.QuietTactic
import Derived.Lib.Hide
import Derived.Deep.RegionHeld3
import Derived.StillTailTactics
import Derived.Deep.LoopGhost
import Derived.Lib.IndexAny
namespace Go.Proofs.Ytlehddifcjklgaa
open Go.RowKit Go.Shelf
attribute [local go_sem] Oper.semAt_some
/-- how the reference compares two fractions: by quotients, then by what is left -/
theorem less_step {x0 x1 y0 y1 : Int} (hx : 0 ≤ x0) (hx1 : 0 < x1) (hy : 0 ≤ y0) (hy1 : 0 < y1) :
    (x0 / x1 ≠ y0 / y1 → (x0 / x1 < y0 / y1 ↔ x0 * y1 < y0 * x1)) ∧
    (x0 / x1 = y0 / y1 → (x0 % x1 = 0 ∨ y0 % y1 = 0) → (x0 % x1 < y0 % y1 ↔ x0 * y1 < y0 * x1)) ∧
    (x0 / x1 = y0 / y1 → (y1 * (x0 % x1) < x1 * (y0 % y1) ↔ x0 * y1 < y0 * x1)) := by
  have ea := Int.mul_ediv_add_emod x0 x1
  have eb := Int.mul_ediv_add_emod y0 y1
  have p0 := Int.emod_nonneg x0 (show x1 ≠ 0 by omega)
  have p1 := Int.emod_lt_of_pos x0 hx1
  have q0 := Int.emod_nonneg y0 (show y1 ≠ 0 by omega)
  have q1 := Int.emod_lt_of_pos y0 hy1
  generalize x0 / x1 = a at *
  generalize y0 / y1 = b at *
  generalize x0 % x1 = p at *
  generalize y0 % y1 = q at *
  subst ea
  subst eb
  have k1 : (x1 * a + p) * y1 = x1 * y1 * a + p * y1 := by grind
  have k2 : (y1 * b + q) * x1 = x1 * y1 * b + q * x1 := by grind
  have z1 : 0 ≤ p * y1 := Int.mul_nonneg p0 (by omega)
  have z2 : 0 ≤ q * x1 := Int.mul_nonneg q0 (by omega)
  have z3 : p * y1 < x1 * y1 := Int.mul_lt_mul_of_pos_right p1 hy1
  have z4 : q * x1 < x1 * y1 := by rw [Int.mul_comm x1 y1]; exact Int.mul_lt_mul_of_pos_right q1 hx1
  rw [k1, k2]
  refine ⟨fun hne => ⟨fun h => ?_, fun h => ?_⟩, fun he hpq => ?_, fun he => ?_⟩
  · have : x1 * y1 * (a + 1) ≤ x1 * y1 * b := Int.mul_le_mul_of_nonneg_left (by omega) (Int.mul_nonneg (by omega) (by omega))
    rw [Int.mul_add, Int.mul_one] at this
    omega
  · refine Classical.byContradiction fun hn => ?_
    have : x1 * y1 * (b + 1) ≤ x1 * y1 * a := Int.mul_le_mul_of_nonneg_left (by omega) (Int.mul_nonneg (by omega) (by omega))
    rw [Int.mul_add, Int.mul_one] at this
    omega
  · subst he
    rcases hpq with rfl | rfl
    · rw [Int.zero_mul]
      constructor
      · intro h; have := Int.mul_pos h hx1; omega
      · intro h; exact Int.pos_of_mul_pos_left (by omega : 0 < q * x1) hx1 |> fun h => h
    · rw [Int.zero_mul]; omega
  · subst he
    rw [Int.mul_comm y1 p, Int.mul_comm x1 q]; omega
set_option maxRecDepth 100000 in
set_option maxHeartbeats 1000000 in
theorem rLess_any : ∀ (n : Nat) (x0 x1 y0 y1 : Int) (w : World), (x1 + y1).toNat ≤ n → 0 ≤ x0 → x0 ≤ 4000000000000000000 → 0 < x1 → x1 ≤ 2000000000000000000 → 0 ≤ y0 → y0 ≤ 4000000000000000000 → 0 < y1 → y1 ≤ 2000000000000000000 →
    Calls Try.prog 59 #[.agg #[.int .i64 x0, .int .i64 x1], .agg #[.int .i64 y0, .int .i64 y1]] w fun e w' => e = .returned (.bool (decide (x0 * y1 < y0 * x1))) ∧ Below w.heap.size w w'
  | 0, _, _, _, _, _, hn, _, _, h1, _, _, _, h2, _ => by omega
  | n + 1, x0, x1, y0, y1, w, hn, hx0, hx0b, hx1, hx1b, hy0, hy0b, hy1, hy1b => by
    obtain ⟨s1, s2, s3⟩ := less_step hx0 hx1 hy0 hy1
    have IH := Lib.hid (fun x0 x1 y0 y1 w => rLess_any n x0 x1 y0 y1 w)
    obtain ⟨R, hR⟩ : ∃ R, decide (x0 * y1 < y0 * x1) = R := ⟨_, rfl⟩
    rw [hR]
    have p0 := Int.emod_nonneg x0 (show x1 ≠ 0 by omega)
    have p1 := Int.emod_lt_of_pos x0 hx1
    have q0 := Int.emod_nonneg y0 (show y1 ≠ 0 by omega)
    have q1 := Int.emod_lt_of_pos y0 hy1
    have ta : x0.tdiv x1 = x0 / x1 := Int.tdiv_eq_ediv_of_nonneg hx0
    have tb : y0.tdiv y1 = y0 / y1 := Int.tdiv_eq_ediv_of_nonneg hy0
    have tp : x0.tmod x1 = x0 % x1 := Int.tmod_eq_emod_of_nonneg hx0
    have tq : y0.tmod y1 = y0 % y1 := Int.tmod_eq_emod_of_nonneg hy0
    have ba := Int.ediv_le_self x1 hx0
    have bb := Int.ediv_le_self y1 hy0
    have na := Int.ediv_nonneg hx0 (show 0 ≤ x1 by omega)
    have nb := Int.ediv_nonneg hy0 (show 0 ≤ y1 by omega)
    have e1 : IntKind.i64.wrap (x0.tdiv x1) = x0 / x1 := by rw [ta]; exact i64_of _ (by omega) (by omega)
    have e2 : IntKind.i64.wrap (y0.tdiv y1) = y0 / y1 := by rw [tb]; exact i64_of _ (by omega) (by omega)
    have e3 : IntKind.i64.wrap (x0.tmod x1) = x0 % x1 := by rw [tp]; exact i64_of _ (by omega) (by omega)
    have e4 : IntKind.i64.wrap (y0.tmod y1) = y0 % y1 := by rw [tq]; exact i64_of _ (by omega) (by omega)
    have IH1 := Lib.hid (fun w (h : x0 / x1 = y0 / y1) (h1 : ¬ (x0 % x1 = 0)) (h2 : ¬ (y0 % y1 = 0)) => (show Calls Try.prog 59 #[.agg #[.int .i64 y1, .int .i64 (y0 % y1)], .agg #[.int .i64 x1, .int .i64 (x0 % x1)]] w fun e w' => e = .returned (.bool R) ∧ Below w.heap.size w w' by
      have := IH.out y1 (y0 % y1) x1 (x0 % x1) w (by omega) (by omega) (by omega) (by omega) (by omega) (by omega) (by omega) (by omega) (by omega)
      rw [decide_eq_decide.2 (s3 h), hR] at this
      exact this))
    have R1 := Lib.hid (show x0 / x1 ≠ y0 / y1 → decide (x0 / x1 < y0 / y1) = R from fun h => by rw [decide_eq_decide.2 (s1 h), hR])
    have R2 := Lib.hid (show x0 / x1 = y0 / y1 → (x0 % x1 = 0 ∨ y0 % y1 = 0) → decide (x0 % x1 < y0 % y1) = R from fun h h' => by rw [decide_eq_decide.2 (s2 h h'), hR])
    have z1 : ¬ (x1 = 0) := by omega
    have z2 : ¬ (y1 = 0) := by omega
    have z3 : (x1 == 0) = false := beq_eq_false_iff_ne.2 z1
    have z4 : (y1 == 0) = false := beq_eq_false_iff_ne.2 z2
    clear s1 s2 s3 IH hR ta tb ba bb na nb p0 p1 q0 q1 hn hx0 hx0b hx1 hx1b hy0 hy0b hy1 hy1b
    generalize x0 / x1 = a at *
    generalize y0 / y1 = b at *
    generalize x0 % x1 = p at *
    generalize y0 % y1 = q at *
    go_enter Try.func59, Try.ntmps59
    go_wp2_with fail
    obtain ⟨V, hV⟩ : ∃ V, V = (w.alloc (.cells #[.int .i64 x0, .int .i64 x1] 39)).alloc (.cells #[.int .i64 y0, .int .i64 y1] 39) := ⟨_, rfl⟩
    have T1 := Lib.hid (show Below w.heap.size w V by rw [hV]; exact ((Below.refl w.heap.size w).alloc (Nat.le_refl _) _).alloc (by simp) _)
    have r1 : Row V w.heap.size 39 [.int .i64 x0, .int .i64 x1] := by
      rw [hV]; exact (Row.new _ _ _).below ((Below.refl _ _).alloc (Nat.le_refl _) _) (by simp)
    have r2 : Row V (w.heap.size + 1) 39 [.int .i64 y0, .int .i64 y1] := by
      rw [hV]
      have h := Row.new (w.alloc (.cells #[.int .i64 x0, .int .i64 x1] 39)) 39 [.int .i64 y0, .int .i64 y1]
      simp only [World.size_alloc] at h
      exact h
    rw [← hV]
    clear hV
    have u0 := Kl.cell r1.lt (r1.cell 0)
    have u1 := Kl.cell r1.lt (r1.cell 1)
    have u2 := Kl.cell r2.lt (r2.cell 0)
    have u3 := Kl.cell r2.lt (r2.cell 1)
    refine wp_region_below (by kernel_rfl) (by kernel_rfl) ?_
    repeat (go_big_quiet_step (fail))
    refine wpQuiet_nil ?_
    rintro _ ⟨wq, rfl⟩
    have T2 := Lib.hid (Below.andThen T1.out wq.h (Nat.le_refl _))
    have q1 := r1.below wq.h r1.lt
    have q2 := r2.below wq.h r2.lt
    generalize wq.W = w2 at *
    clear u0 u1 u2 u3 r1 r2 T1
    by_cases hab : a = b
    · have d1 : (a != b) = false := by simp [hab]
      have HAB := Lib.hid hab
      clear hab
      go_wp2_with fail
      have u0 := Kl.cell q1.lt (q1.cell 0)
      have u1 := Kl.cell q1.lt (q1.cell 1)
      have u2 := Kl.cell q2.lt (q2.cell 0)
      have u3 := Kl.cell q2.lt (q2.cell 1)
      refine wp_region_below (by kernel_rfl) (by kernel_rfl) ?_
      repeat (go_big_quiet_step (fail))
      refine wpQuiet_nil ?_
      rintro _ ⟨wq, rfl⟩
      have T3 := Lib.hid (Below.andThen T2.out wq.h (Nat.le_refl _))
      have q3 := q1.below wq.h q1.lt
      have q4 := q2.below wq.h q2.lt
      generalize wq.W = w3 at *
      clear u0 u1 u2 u3 q1 q2 T2
      by_cases hp0 : p = 0
      · have d2 : (p == 0) = true := by simp [hp0]
        have H := Lib.hid (R2.out HAB.out (.inl hp0))
        clear hp0
        go_wp2_with fail
        go_ret
        exact ⟨ret_bool H.out, T3.out⟩
      · have d2 : (p == 0) = false := by simp [hp0]
        by_cases hq0 : q = 0
        · have d3 : (q == 0) = true := by simp [hq0]
          have H := Lib.hid (R2.out HAB.out (.inr hq0))
          clear hq0 hp0
          go_wp2_with fail
          go_ret
          exact ⟨ret_bool H.out, T3.out⟩
        · have d3 : (q == 0) = false := by simp [hq0]
          have H := Lib.hid (fun w => IH1.out w HAB.out hp0 hq0)
          clear hq0 hp0
          have c0 := q3.cell 0
          have c1 := q3.cell 1
          have c2 := q4.cell 0
          have c3 := q4.cell 1
          simp only [List.getElem?_cons_zero, List.getElem?_cons_succ] at c0 c1 c2 c3
          go_wp2_with fail
          refine (H.out w3).mono ?_
          rintro e w4 ⟨rfl, hb⟩
          have T4 := Lib.hid (Below.andThen T3.out hb (Nat.le_refl _))
          clear hb
          go_wp2_with fail
          go_ret
          exact ⟨rfl, T4.out⟩
    · have d1 : (a != b) = true := by simp [hab]
      have H := Lib.hid (R1.out hab)
      clear hab
      go_wp2_with fail
      go_ret
      exact ⟨ret_bool H.out, T2.out⟩
end Go.Proofs.Ytlehddifcjklgaa
