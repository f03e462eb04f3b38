import Derived.Test.YtlemipnplgbckaaPR
import Derived.Laws.AppendOwn
import Derived.ChangeKeysEq
import Derived.Maps.RangeWalk
import Derived.Maps.OwnIn
import Derived.Maps.AppendAt
import Derived.RangeFuncNested
import Derived.RangeFuncBound
import Derived.RangeFuncCalls
import Derived.RangeFuncLeaves
import Derived.Shelf.Abstract
import Derived.Shelf.RegionOpen
import Derived.WalkKit
import Derived.WalkMore
import Derived.OwnWalkIn
import Derived.TacticsInMore
import Derived.LoopNIn
import Derived.LoopIn
import Derived.WalkSpells
import Derived.WalkLawsBesides
import Derived.BigQuiet
import Derived.Deep.QuietTactic
import Derived.Lib.Hide
import Derived.Deep.RegionHeld3
import Derived.StillTailTactics
import Derived.Deep.LoopGhost
import Derived.Maps.OwnSet
import Derived.Lib.IndexAny
import Derived.Sort.QuietThIn
import Derived.Sort.QuietTacIn
import Derived.Sort.BigQuietIn
import Derived.Laws.OwnMore
import Derived.DeepKeys4
import Derived.Maps.Views
import Derived.Maps.OwnOps
import Derived.Laws.OwnMore
import Derived.Deep.DeepCutAuto
import Derived.ChangeKeysEq
namespace Go.Proofs.Ytlemipnplgbckaa
open Go.RowKit Go.Shelf
attribute [local go_sem] Oper.semAt_some
theorem sqi_zero {x : Int} (h : x * x = 0) : x = 0 := by
  rcases Int.mul_eq_zero.1 h with h | h <;> exact h
theorem sqi_nn (x : Int) : 0 ≤ x * x := by
  rcases Int.le_total 0 x with h | h
  · exact Int.mul_nonneg h h
  · exact Int.mul_nonneg_of_nonpos_of_nonpos h h
theorem lowK_le (m : Pt → Int) (ps : List Pt) : ∀ k, k ≤ ps.length → ∀ i, i < k → lowK m ps k ≤ m (ptAt ps i)
  | 0, _, i, h => by omega
  | k + 1, hk, i, h => by
    rw [lowK_step (by omega)]
    rcases Nat.lt_or_ge i k with h2 | h2
    · have := lowK_le m ps k (by omega) i h2; omega
    · obtain rfl : i = k := by omega
      rw [ptAt_lt (by omega)]; omega
theorem lowK_at (m : Pt → Int) (ps : List Pt) (h0 : 0 < ps.length) : ∀ k, k ≤ ps.length → ∃ i, i < ps.length ∧ lowK m ps k = m (ptAt ps i)
  | 0, _ => ⟨0, h0, by simp [lowK]⟩
  | k + 1, hk => by
    rw [lowK_step (by omega)]
    obtain ⟨i, hi, e⟩ := lowK_at m ps h0 k (by omega)
    rcases Int.le_total (lowK m ps k) (m ps[k]) with h | h
    · exact ⟨i, hi, by rw [Int.min_eq_left h, e]⟩
    · exact ⟨k, by omega, by rw [Int.min_eq_right h, ptAt_lt (by omega)]⟩
theorem mem_whL {ps : List Pt} {h : Pt → Bool} {i : Nat} : i ∈ whL ps h ↔ i < ps.length ∧ h (ptAt ps i) = true := by
  unfold whL whK
  rw [List.mem_filter, List.mem_range]
theorem wh_head {ps : List Pt} {m : Pt → Int} (h0 : 0 < ps.length) : ∃ i t, whL ps (fun p => decide (m p = lowK m ps ps.length)) = i :: t ∧ i < ps.length ∧ ∀ k, k < ps.length → m (ptAt ps i) ≤ m (ptAt ps k) := by
  obtain ⟨i, hi, e⟩ := lowK_at m ps h0 ps.length (Nat.le_refl _)
  have hm : i ∈ whL ps (fun p => decide (m p = lowK m ps ps.length)) := mem_whL.2 ⟨hi, decide_eq_true e.symm⟩
  cases hl : whL ps (fun p => decide (m p = lowK m ps ps.length)) with
  | nil => rw [hl] at hm; cases hm
  | cons j t =>
    have hj : j ∈ whL ps (fun p => decide (m p = lowK m ps ps.length)) := by rw [hl]; simp
    obtain ⟨h1, h2⟩ := mem_whL.1 hj
    have h2 := of_decide_eq_true h2
    exact ⟨j, t, rfl, h1, fun k hk => by rw [h2]; exact lowK_le m ps ps.length (Nat.le_refl _) k hk⟩
theorem near_head {ps : List Pt} {p : Pt} (h0 : 0 < ps.length) : ∃ i t, NearestL ps p = i :: t ∧ i < ps.length ∧ ∀ k, k < ps.length → fd (ptAt ps i) p ≤ fd (ptAt ps k) p := wh_head (m := fun q => fd q p) h0
theorem far_head {ps : List Pt} {p : Pt} (h0 : 0 < ps.length) : ∃ i t, FarthestL ps p = i :: t ∧ i < ps.length ∧ ∀ k, k < ps.length → fd (ptAt ps k) p ≤ fd (ptAt ps i) p := by
  obtain ⟨i, t, h1, h2, h3⟩ := wh_head (ps := ps) (m := fun q => -(fd q p)) h0
  exact ⟨i, t, h1, h2, fun k hk => by have := h3 k hk; omega⟩
theorem fd_nn (a b : Pt) : 0 ≤ fd a b := by
  unfold fd
  have h1 := sqi_nn (a.1 - b.1)
  have h2 := sqi_nn (a.2 - b.2)
  omega
theorem fd_zero {a b : Pt} : fd a b = 0 ↔ a = b := by
  constructor
  · intro h
    unfold fd at h
    have h1 := sqi_nn (a.1 - b.1)
    have h2 := sqi_nn (a.2 - b.2)
    have e1 := sqi_zero (show (a.1 - b.1) * (a.1 - b.1) = 0 by omega)
    have e2 := sqi_zero (show (a.2 - b.2) * (a.2 - b.2) = 0 by omega)
    exact Prod.ext (by omega) (by omega)
  · rintro rfl; unfold fd; simp
theorem filter_one {n i : Nat} (hi : i < n) (f : Nat → Bool) (h : ∀ k, k < n → (f k = true ↔ k = i)) : (List.range n).filter f = [i] := by
  have e : (List.range n).filter f = (List.range n).filter (fun k => decide (k = i)) := List.filter_congr fun k hk => by
    rw [List.mem_range] at hk
    rw [Bool.eq_iff_iff, h k hk, decide_eq_true_eq]
  rw [e]
  clear e h f
  induction n with
  | zero => omega
  | succ n ih =>
    rw [List.range_succ, List.filter_append, List.filter_cons, List.filter_nil]
    rcases Nat.lt_or_ge i n with h | h
    · rw [ih h, if_neg (by simp; omega), List.append_nil]
    · obtain rfl : i = n := by omega
      rw [if_pos (by simp)]
      have : (List.range i).filter (fun k => decide (k = i)) = [] := by
        rw [List.filter_eq_nil_iff]
        intro k hk
        rw [List.mem_range] at hk
        simp; omega
      rw [this]; rfl
theorem near_own {ps : List Pt} (hnd : ps.Nodup) {i : Nat} (hi : i < ps.length) : NearestL ps (ptAt ps i) = [i] := by
  have h0 : lowK (fun q => fd q (ptAt ps i)) ps ps.length = 0 := by
    have h1 := lowK_le (fun q => fd q (ptAt ps i)) ps ps.length (Nat.le_refl _) i hi
    obtain ⟨j, _, h2⟩ := lowK_at (fun q => fd q (ptAt ps i)) ps (by omega) ps.length (Nat.le_refl _)
    have h3 := fd_nn (ptAt ps j) (ptAt ps i)
    have h4 : fd (ptAt ps i) (ptAt ps i) = 0 := fd_zero.2 rfl
    omega
  unfold NearestL whL whK
  rw [h0]
  refine filter_one hi _ fun k hk => ?_
  rw [decide_eq_true_eq, fd_zero, ptAt_lt hk, ptAt_lt hi]
  exact (List.getElem_inj hnd)
theorem own_set {W : World} {n₀ e s : Nat} {v : Value} {k : Nat} {xs : List Value} (h : W.ownsRow n₀ e s v k xs) {b : Nat} (hb : b < n₀) (i : Nat) (u : Value) : (W.setCell ⟨b, i, none⟩ u).ownsRow n₀ e s v k xs := by
  refine World.ownsRow.kept (row := some b) h (grown_set W ⟨b, i, none⟩ u) ?_
  cases hv : v.ownBlock with
  | none => exact .inl rfl
  | some g =>
    right
    have := (World.ownsRow.lt h g hv).1
    intro e
    injection e with e
    omega
end Go.Proofs.Ytlemipnplgbckaa
