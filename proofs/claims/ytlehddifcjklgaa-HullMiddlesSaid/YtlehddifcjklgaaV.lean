import Derived.Test.YtlehddifcjklgaaU
import Derived.Maps.OwnIn
import Derived.Maps.OwnSet
import Derived.Maps.AppendAt
import Derived.RangeFuncNested
import Derived.RangeFuncBound
import Derived.RangeFuncCalls
import Derived.RangeFuncLeaves
import Derived.Shelf.Abstract
import Derived.Shelf.RegionOpen
import Derived.WalkKit
import Derived.OwnWalkIn
import Derived.TacticsInMore
import Derived.LoopNIn
import Derived.LoopIn
import Derived.WalkMore
import Derived.Sort.QuietThIn
import Derived.Sort.QuietTacIn
import Derived.Sort.BigQuietIn
import Derived.WalkSpells
import Derived.WalkLawsBesides
import Derived.BigQuiet
import Derived.Deep.QuietTactic
import Derived.Lib.Hide
import Derived.Deep.RegionHeld3
import Derived.StillTailTactics
import Derived.Deep.LoopGhost
import Derived.Lib.IndexAny
namespace Go.Proofs.Ytlehddifcjklgaa
open Go.RowKit Go.Shelf
attribute [local go_sem] Oper.semAt_some
/-- 1 + 1/2 + .. + 1/k -/
def harF : Nat → Int × Int
  | 0 => (0, 1)
  | k + 1 => frac ((harF k).1 * (frac 1 ((k : Int) + 1)).2 + (frac 1 ((k : Int) + 1)).1 * (harF k).2) ((harF k).2 * (frac 1 ((k : Int) + 1)).2)
def bdB (B x : Int) : Bool := decide (-B ≤ x) && decide (x ≤ B)
theorem bdB_spec {B x : Int} (h : bdB B x = true) : Bd B x := by
  unfold bdB at h; simp at h; exact h
def harOk (k : Nat) : Bool :=
  bdB 1000000000000000000 ((harF k).1 * (frac 1 ((k : Int) + 1)).2) && (bdB 1000000000000000000 ((frac 1 ((k : Int) + 1)).1 * (harF k).2) &&
  (bdB 4000000000000000000 ((harF k).2 * (frac 1 ((k : Int) + 1)).2) && decide (0 < (harF k).2 * (frac 1 ((k : Int) + 1)).2)))
theorem harOk_all : (List.range 30).all harOk = true := by kernel_rfl
theorem har_facts {k : Nat} (h : k < 30) : Bd 1000000000000000000 ((harF k).1 * (frac 1 ((k : Int) + 1)).2) ∧ Bd 1000000000000000000 ((frac 1 ((k : Int) + 1)).1 * (harF k).2) ∧
    Bd 4000000000000000000 ((harF k).2 * (frac 1 ((k : Int) + 1)).2) ∧ 0 < (harF k).2 * (frac 1 ((k : Int) + 1)).2 := by
  have := List.all_eq_true.1 harOk_all k (List.mem_range.2 h)
  unfold harOk at this
  simp only [Bool.and_eq_true, decide_eq_true_eq] at this
  exact ⟨bdB_spec this.1, bdB_spec this.2.1, bdB_spec this.2.2.1, this.2.2.2⟩
set_option maxHeartbeats 800000 in
theorem Harmonic_bad (n : Int) (w : World) (h : n < 1 ∨ 30 < n) :
    Calls Try.prog 55 #[.int .i64 n] w fun e w' => e = .returned (.tuple #[.agg #[.int .i64 0, .int .i64 0], .int .i64 1]) ∧ Below w.heap.size w w' := by
  rcases h with h | h
  · have d1 : decide (n < 1) = true := decide_eq_true h
    go_enter Try.func55, Try.ntmps55
    go_wp2_with fail
    exact bodyPost_ret (v := .tuple #[.agg #[.int .i64 0, .int .i64 0], .int .i64 1]) (by simp [results, Try.results55, go_sem]) rfl ⟨rfl, (Below.refl _ _).alloc (Nat.le_refl _) _⟩
  · have d1 : decide (n < 1) = false := decide_eq_false (by omega)
    have d2 : decide (30 < n) = true := decide_eq_true h
    go_enter Try.func55, Try.ntmps55
    go_wp2_with fail
    exact bodyPost_ret (v := .tuple #[.agg #[.int .i64 0, .int .i64 0], .int .i64 1]) (by simp [results, Try.results55, go_sem]) rfl ⟨rfl, (Below.refl _ _).alloc (Nat.le_refl _) _⟩
theorem two_cells {W : World} {B : Nat} {t : TypeId} {v0 v1 : Value} (h : Row W B t [v0, v1]) : W.cell? ⟨B, 0, none⟩ = some v0 ∧ W.cell? ⟨B, 1, none⟩ = some v1 ∧ W.frozen? ⟨B, 0, none⟩ = false ∧ W.frozen? ⟨B, 1, none⟩ = false :=
  ⟨h.cell 0, h.cell 1, frozen_of_row _ B 0 _ _ h, frozen_of_row _ B 1 _ _ h⟩
set_option maxRecDepth 100000 in
set_option maxHeartbeats 1000000 in
theorem Harmonic_any (n : Nat) (w : World) (h1 : 1 ≤ n) (h30 : n ≤ 30) :
    Calls Try.prog 55 #[.int .i64 (n : Int)] w fun e w' => e = .returned (.tuple #[.agg #[.int .i64 (harF n).1, .int .i64 (harF n).2], .int .i64 0]) ∧ Below w.heap.size w w' := by
  have d1 : decide ((n : Int) < 1) = false := decide_eq_false (by omega)
  have d2 : decide (30 < (n : Int)) = false := decide_eq_false (by omega)
  go_enter Try.func55, Try.ntmps55
  go_wp2_with fail
  refine (whole_any 0 _).mono ?_
  rintro e w1 ⟨rfl, hb1⟩
  obtain ⟨W1, hW1⟩ : ∃ W1, W1 = w1.alloc (.cells #[.int .i64 0, .int .i64 1] 88) := ⟨_, rfl⟩
  have B1 := Lib.hid (show Below w.heap.size w W1 by rw [hW1]; exact Below.al (((Below.refl _ _).alloc (Nat.le_refl _) _).trans (hb1.mono (by simp))) (Nat.le_refl _) _)
  have hsz : w.heap.size < w1.heap.size := by have := hb1.size; simp at this; omega
  have r0 := Lib.hid (show Row W1 w.heap.size 39 [.int .i64 0, .int .i64 0] by
    rw [hW1]
    exact ((Row.new w 39 [.int .i64 0, .int .i64 0]).below hb1 (by simp)).below ((Below.refl _ _).alloc (Nat.le_refl _) _) hsz)
  have r1 := Lib.hid (show Row W1 w1.heap.size 88 [.int .i64 0, .int .i64 1] by rw [hW1]; exact Row.new _ _ _)
  have hne := Lib.hid (show w.heap.size ≠ w1.heap.size by omega)
  have hle := Lib.hid (show w.heap.size ≤ w1.heap.size by omega)
  clear hb1 hsz
  go_wp2_with fail
  rw [← hW1]
  clear hW1
  go_wp2_with fail
  go_loopw [15] (fun i wr => ∃ k : Nat, k ≤ n ∧ i = .int .i64 (k : Int) ∧ Hid (Row wr w1.heap.size 88 [.int .i64 (harF k).1, .int .i64 (harF k).2]) ∧ Hid (Row wr w.heap.size 39 [.int .i64 0, .int .i64 0]) ∧ Hid (Below w.heap.size w wr)) (fun i _ => n - (intOf i).toNat)
  case atStart => exact ⟨0, by omega, rfl, r1, r0, B1⟩
  case round =>
    obtain ⟨k, hk, rfl, HA, HR, HB⟩ := hrel
    by_cases hlt : k < n
    · have hd : decide ((k : Int) < (n : Int)) = true := decide_eq_true (by omega)
      obtain ⟨f1, f2, f3, f4⟩ := har_facts (show k < 30 by omega)
      have hfr : harF (k + 1) = frac ((harF k).1 * (frac 1 ((k : Int) + 1)).2 + (frac 1 ((k : Int) + 1)).1 * (harF k).2) ((harF k).2 * (frac 1 ((k : Int) + 1)).2) := rfl
      have HF1 := Lib.hid (fun W => fractionOf_any 1 ((k : Int) + 1) W (by unfold Bd; omega) (by unfold Bd; omega) (by omega))
      generalize frac 1 ((k : Int) + 1) = g at *
      obtain ⟨gn, gd⟩ := g
      generalize harF k = hk0 at *
      obtain ⟨a, b⟩ := hk0
      dsimp only at *
      have HF2 := Lib.hid (fun W => plus_any a b gn gd W f1 f2 f3 f4)
      rw [← hfr] at HF2
      obtain ⟨c, d, hcd⟩ : ∃ c d, harF (k + 1) = (c, d) := ⟨_, _, rfl⟩
      rw [hcd] at HF2
      dsimp only at HF2
      have HCD := Lib.hid hcd
      obtain ⟨x0, x1, _, _⟩ := two_cells HA.out
      have y0 := Kl.cell HA.out.lt x0
      have y1 := Kl.cell HA.out.lt x1
      clear f1 f2 f3 f4 hfr hcd
      go_wp2_with fail
      refine wp_region_cut (C := fun w' => ∃ n : Kl wr, w' = n.W) 5 (by kernel_rfl) (by kernel_rfl) ⟨⟨wr.drew, (Below.refl _ _).drew⟩, rfl⟩ ?_
      simp only [List.take_succ_cons, List.take_zero, List.drop_succ_cons, List.drop_zero]
      repeat (go_big_quiet_step (first | (go_at_call 96; exact Kl.call (HF1.out _)) | (go_at_call 95; exact Kl.call (HF2.out _))))
      refine wpQuiet_nil ?_
      rintro _ ⟨wq, rfl⟩
      have HA2 := HA.out.below wq.h HA.out.lt
      have HR2 := HR.out.below wq.h HR.out.lt
      have HB2 := Below.andThen HB.out wq.h (Nat.le_refl _)
      obtain ⟨z0, z1, z2, z3⟩ := two_cells HA2
      have A2 := Lib.hid HA2
      have R2 := Lib.hid HR2
      have BB2 := Lib.hid HB2
      clear x0 x1 y0 y1 HA2 HR2 HB2
      generalize wq.W = w5 at *
      go_wp2_with fail
      go_roundw
      case rel =>
        refine ⟨k + 1, by omega, rfl, Lib.hid ?_, Lib.hid ?_, Lib.hid ?_⟩
        · rw [HCD.out]
          simpa using (A2.out.set 0 (.int .i64 c)).set 1 (.int .i64 d)
        · have := hne.out
          exact (heap_setCell_other _ _ _ _ (by simpa using this)).trans ((heap_setCell_other _ _ _ _ (by simpa using this)).trans R2.out)
        · exact (BB2.out.setCell (p := ⟨w1.heap.size, 0, none⟩) hle.out _).setCell (p := ⟨w1.heap.size, 1, none⟩) hle.out _
      case measure => simp [intOf]; omega
    · have hd : decide ((k : Int) < (n : Int)) = false := decide_eq_false (by omega)
      obtain rfl : k = n := by omega
      obtain ⟨a, b, hab⟩ : ∃ a b, harF k = (a, b) := ⟨_, _, rfl⟩
      rw [hab] at HA
      have HAB := Lib.hid hab
      clear hab
      dsimp only at HA
      obtain ⟨x0, x1, _, _⟩ := two_cells HA.out
      obtain ⟨z0, z1, z2, z3⟩ := two_cells HR.out
      go_wp2_with fail
      obtain ⟨q0, q1⟩ := two_set (x := .int .i64 a) (y := .int .i64 b) z0 z1
      rw [HAB.out]
      refine bodyPost_ret (v := .tuple #[.agg #[.int .i64 a, .int .i64 b], .int .i64 0]) (by simp [results, Try.results55, go_sem, q0, q1]) rfl ⟨rfl, ?_⟩
      exact (HB.out.setCell (p := ⟨w.heap.size, 0, none⟩) (Nat.le_refl _) _).setCell (p := ⟨w.heap.size, 1, none⟩) (Nat.le_refl _) _
end Go.Proofs.Ytlehddifcjklgaa
