import Derived.Test.YtlehddifcjklgaaBj
import Derived.Maps.OwnIn
import Derived.Maps.OwnSet
import Derived.Maps.AppendAt
import Derived.RangeFuncNested
import Derived.RangeFuncBound
import Derived.RangeFuncCalls
import Derived.RangeFuncLeaves
import Derived.Shelf.Abstract
import Derived.Shelf.RegionOpen
import Derived.WalkKit
import Derived.OwnWalkIn
import Derived.TacticsInMore
import Derived.LoopNIn
import Derived.LoopIn
import Derived.WalkMore
import Derived.Sort.QuietThIn
import Derived.Sort.QuietTacIn
import Derived.Sort.BigQuietIn
import Derived.WalkSpells
import Derived.WalkLawsBesides
import Derived.BigQuiet
import Derived.Deep.QuietTactic
import Derived.Lib.Hide
import Derived.Deep.RegionHeld3
import Derived.StillTailTactics
import Derived.Deep.LoopGhost
import Derived.Lib.IndexAny
namespace Go.Proofs.Ytlehddifcjklgaa
open Go.RowKit Go.Shelf
attribute [local go_sem] Oper.semAt_some
/-- the way from a by b to c turns to the left, as the reference reckons -/
def turn (a b c : Pt) : Int := (b.1 - a.1) * (c.2 - b.2) - (b.2 - a.2) * (c.1 - b.1)
theorem turn_crs (a b c : Pt) : turn a b c = crs (mn b a) (mn c a) := by
  obtain ⟨a1, a2⟩ := a
  obtain ⟨b1, b2⟩ := b
  obtain ⟨c1, c2⟩ := c
  unfold turn crs mn
  dsimp only
  have e1 : c2 - a2 = (c2 - b2) + (b2 - a2) := by omega
  have e2 : c1 - a1 = (c1 - b1) + (b1 - a1) := by omega
  rw [e1, e2, Int.mul_add, Int.neg_mul, Int.mul_add, Int.mul_comm (b1 - a1) (b2 - a2)]
  omega
theorem crs_self (a : Pt) : crs a a = 0 := by
  unfold crs; rw [Int.neg_mul, Int.mul_comm]; omega
theorem turn_end1 (a b : Pt) : turn a b a = 0 := by rw [turn_crs]; unfold crs mn; simp
theorem turn_end2 (a b : Pt) : turn a b b = 0 := by rw [turn_crs, crs_self]
theorem count_two {i j : Nat} (hij : i ≠ j) : ∀ n, (List.range n).countP (fun k => k == i || k == j) = (if i < n then 1 else 0) + (if j < n then 1 else 0)
  | 0 => by simp
  | n + 1 => by
    rw [List.range_succ, List.countP_append, count_two hij n]
    simp only [List.countP_cons, List.countP_nil, Bool.or_eq_true, beq_iff_eq]
    split <;> split <;> split <;> split <;> split <;> omega
theorem count_three {i j l : Nat} (hij : i ≠ j) (hil : i ≠ l) (hjl : j ≠ l) : ∀ n, (List.range n).countP (fun k => k == i || k == j || k == l) = (if i < n then 1 else 0) + (if j < n then 1 else 0) + (if l < n then 1 else 0)
  | 0 => by simp
  | n + 1 => by
    rw [List.range_succ, List.countP_append, count_three hij hil hjl n]
    simp only [List.countP_cons, List.countP_nil, Bool.or_eq_true, beq_iff_eq]
    split <;> split <;> split <;> split <;> split <;> split <;> split <;> omega
theorem count_but {q : Nat → Bool} {n i j : Nat} (hij : i ≠ j) (hi : i < n) (hj : j < n) (qi : q i = false) (qj : q j = false) :
    ((List.range n).countP q : Int) = (n : Int) - 2 ↔ ∀ k, k < n → k ≠ i → k ≠ j → q k = true := by
  have htot : (List.range n).countP q + (List.range n).countP (fun k => !q k) = n := by
    have := List.length_eq_countP_add_countP q (l := List.range n)
    rw [List.length_range] at this
    have e : (List.range n).countP (fun k => !q k) = (List.range n).countP (fun a => decide ¬q a = true) := List.countP_congr (fun x _ => by simp)
    omega
  constructor
  · intro h k hk hki hkj
    cases hqk : q k with
    | true => rfl
    | false =>
      exfalso
      have h3 := count_three (i := i) (j := j) (l := k) hij (Ne.symm hki) (Ne.symm hkj) n
      rw [if_pos hi, if_pos hj, if_pos hk] at h3
      have hle : (List.range n).countP (fun x => x == i || x == j || x == k) ≤ (List.range n).countP (fun k => !q k) := List.countP_mono_left (fun x _ hx => by
        simp only [Bool.or_eq_true, beq_iff_eq] at hx
        rcases hx with (rfl | rfl) | rfl
        · simp [qi]
        · simp [qj]
        · simp [hqk])
      omega
  · intro h
    have h2 := count_two hij n
    rw [if_pos hi, if_pos hj] at h2
    have he : (List.range n).countP (fun k => !q k) = (List.range n).countP (fun k => k == i || k == j) := List.countP_congr (fun x hx => by
      have hx := List.mem_range.1 hx
      simp only [Bool.not_eq_true', Bool.or_eq_true, beq_iff_eq]
      constructor
      · intro hq
        by_cases h1 : x = i
        · exact .inl h1
        · by_cases h2 : x = j
          · exact .inr h2
          · have := h x hx h1 h2; rw [hq] at this; cases this
      · rintro (rfl | rfl)
        · exact qi
        · exact qj)
    omega
theorem countP_idx (p : Pt → Bool) (ps : List Pt) : ps.countP p = (List.range ps.length).countP (fun k => p (ptAt ps k)) := by
  have e : ps = (List.range ps.length).map (ptAt ps) := by
    apply List.ext_getElem
    · simp
    · intro i h1 h2
      simp [ptAt_lt h1]
  have : ps.countP p = ((List.range ps.length).map (ptAt ps)).countP p := by rw [← e]
  rw [this, List.countP_map]
  rfl
/-- a corner pair is a side: all the others turn to the left -/
theorem sideAt_iff {ps : List Pt} (h3 : 3 ≤ ps.length) {i : Nat} (hi : i < ps.length) :
    sideAt ps i = true ↔ ∀ k, k < ps.length → k ≠ i → k ≠ (i + 1) % ps.length → 0 < turn (ptAt ps i) (nx ps i) (ptAt ps k) := by
  have hj : (i + 1) % ps.length < ps.length := Nat.mod_lt _ (by omega)
  have hij : i ≠ (i + 1) % ps.length := by
    by_cases h : i + 1 < ps.length
    · rw [Nat.mod_eq_of_lt h]; omega
    · have : i + 1 = ps.length := by omega
      rw [this, Nat.mod_self]; omega
  have hq : ∀ k, lft (ptAt ps i) (nx ps i) (ptAt ps k) = decide (0 < turn (ptAt ps i) (nx ps i) (ptAt ps k)) := fun k => by rw [turn_crs]; rfl
  have := count_but (q := fun k => lft (ptAt ps i) (nx ps i) (ptAt ps k)) hij hi hj (by rw [hq, turn_end1]; rfl) (by rw [hq]; unfold nx; rw [turn_end2]; rfl)
  unfold sideAt isSide
  rw [decide_eq_true_iff, countP_idx, this]
  constructor
  · intro h k h1 h2 h3; have := h k h1 h2 h3; rw [hq] at this; exact of_decide_eq_true this
  · intro h k h1 h2 h3; rw [hq]; exact decide_eq_true (h k h1 h2 h3)
end Go.Proofs.Ytlehddifcjklgaa
