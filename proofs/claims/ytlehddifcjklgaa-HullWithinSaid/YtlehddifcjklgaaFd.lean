import Derived.Test.YtlehddifcjklgaaFc
import Derived.Test.YtlehddifcjklgaaDb
import Derived.Maps.OwnIn
import Derived.Maps.OwnSet
import Derived.Maps.AppendAt
import Derived.RangeFuncNested
import Derived.RangeFuncBound
import Derived.RangeFuncCalls
import Derived.RangeFuncLeaves
import Derived.Shelf.Abstract
import Derived.Shelf.RegionOpen
import Derived.WalkKit
import Derived.OwnWalkIn
import Derived.TacticsInMore
import Derived.LoopNIn
import Derived.LoopIn
import Derived.WalkMore
import Derived.Sort.QuietThIn
import Derived.Sort.QuietTacIn
import Derived.Sort.BigQuietIn
import Derived.WalkSpells
import Derived.WalkLawsBesides
import Derived.BigQuiet
import Derived.Deep.QuietTactic
import Derived.Lib.Hide
import Derived.Deep.RegionHeld3
import Derived.StillTailTactics
import Derived.Deep.LoopGhost
import Derived.Lib.IndexAny
namespace Go.Proofs.Ytlehddifcjklgaa
open Go.RowKit Go.Shelf
attribute [local go_sem] Oper.semAt_some
/-! as many tips as firm rests, and at least two -/
theorem sum_cycN (f : Nat → Int) : ∀ n : Nat, 0 < n → ((List.range n).map (fun i => f ((i + 1) % n))).sum = ((List.range n).map f).sum
  | 0, h => by omega
  | m + 1, _ => by
    have e1 : ((List.range (m + 1)).map (fun i => f ((i + 1) % (m + 1)))).sum = ((List.range m).map (fun i => f (i + 1))).sum + f 0 := by
      rw [List.range_succ, List.map_append, List.sum_append]
      have : (List.range m).map (fun i => f ((i + 1) % (m + 1))) = (List.range m).map (fun i => f (i + 1)) := List.map_congr_left fun i hi => by
        rw [Nat.mod_eq_of_lt (by have := List.mem_range.1 hi; omega)]
      rw [this]; simp
    have e2 : ((List.range (m + 1)).map f).sum = f 0 + ((List.range m).map (fun i => f (i + 1))).sum := by
      rw [List.range_succ_eq_map, List.map_cons, List.sum_cons, List.map_map]; rfl
    rw [e1, e2]; omega
def indB (b : Bool) : Int := if b = true then 1 else 0
def awayB (ps : List Pt) (i : Nat) : Bool := decide (0 < footA ps (mid ps) i)
def backB (ps : List Pt) (i : Nat) : Bool := decide (footA ps (mid ps) i < footD ps (mid ps) i)
theorem firm_ind {ps : List Pt} (hc : chk ps = true) {i : Nat} (hi : i < ps.length) : indB (firmB ps (mid ps) i) = indB (awayB ps i) + indB (backB ps i) - 1 := by
  have h := footD_pos hc hi
  rw [firm_eq h]
  unfold awayB backB indB
  rcases Int.lt_or_le 0 (footA ps (mid ps) i) with h1 | h1
  · rcases Int.lt_or_le (footA ps (mid ps) i) (footD ps (mid ps) i) with h2 | h2
    · simp [h1, h2]
    · simp [h1, Int.not_lt.2 h2]
  · have h2 : footA ps (mid ps) i < footD ps (mid ps) i := by omega
    simp [Int.not_lt.2 h1, h2]
theorem sc_foot (m : Int × Int × Int) (u a : Pt) : dt (scP m a) (scP m a) - dt (scP m u) (scP m a) = m.2.2 * dt (inw m a) (mn u a) := by
  unfold dt scP inw mn; grind
theorem back_foot (ps : List Pt) (m : Int × Int × Int) (j : Nat) : dt (inw m (nx ps j)) (mn (ptAt ps j) (nx ps j)) = footD ps m j - footA ps m j := by
  unfold footA footD dt inw alongS mn; dsimp only; grind
theorem tip_ind {ps : List Pt} (hc : chk ps = true) {j : Nat} (hj : j < ps.length) : indB (tipB ps (mid ps) ((j + 1) % ps.length)) = indB (backB ps j) + indB (awayB ps ((j + 1) % ps.length)) - 1 := by
  have h3 := (areP_len (chk_areP hc)).1
  have hD := mid_D hc
  have hs : (j + 1) % ps.length < ps.length := Nat.mod_lt _ (by omega)
  have epv : pv ps ((j + 1) % ps.length) = ptAt ps j := by
    unfold pv
    rcases Nat.lt_or_ge (j + 1) ps.length with h | h
    · rw [Nat.mod_eq_of_lt h, show j + 1 + ps.length - 1 = j + ps.length by omega, Nat.add_mod_right, Nat.mod_eq_of_lt hj]
    · have : j + 1 = ps.length := by omega
      rw [this, Nat.mod_self, Nat.zero_add, Nat.mod_eq_of_lt (by omega)]
      congr 1; omega
  have e1 : dt (inw (mid ps) (ptAt ps ((j + 1) % ps.length))) (mn (pv ps ((j + 1) % ps.length)) (ptAt ps ((j + 1) % ps.length))) = footD ps (mid ps) j - footA ps (mid ps) j := by
    rw [epv]; exact back_foot ps (mid ps) j
  have e2 : dt (inw (mid ps) (ptAt ps ((j + 1) % ps.length))) (mn (nx ps ((j + 1) % ps.length)) (ptAt ps ((j + 1) % ps.length))) = footA ps (mid ps) ((j + 1) % ps.length) := rfl
  have hno : ¬ (footD ps (mid ps) j ≤ footA ps (mid ps) j ∧ footA ps (mid ps) ((j + 1) % ps.length) ≤ 0) := by
    rintro ⟨h1, h2⟩
    refine (ring_of hc).noDI (k := j) ?_ ?_
    · unfold Dec
      rw [VQ_next]
      unfold VQ
      rw [Nat.mod_eq_of_lt hj, dq_cast, dq_cast]
      have := dt_sc2 ps (mid ps) j
      have h4 : (mid ps).2.2 * (footD ps (mid ps) j - footA ps (mid ps) j) ≤ 0 := Int.mul_nonpos_of_nonneg_of_nonpos (by omega) (by omega)
      rw [← this] at h4
      have h5 := Rat.intCast_le_intCast.2 h4
      push_cast at h5
      exact h5
    · unfold Inc
      rw [show j + 2 = (j + 1) + 1 from rfl, VQ_next ps (j + 1)]
      unfold VQ
      rw [dq_cast, dq_cast]
      have := dt_sc ps (mid ps) ((j + 1) % ps.length)
      have h4 : 0 ≤ -((mid ps).2.2 * footA ps (mid ps) ((j + 1) % ps.length)) := by
        have := Int.mul_nonpos_of_nonneg_of_nonpos (show 0 ≤ (mid ps).2.2 by omega) h2
        omega
      rw [← this] at h4
      have h5 := Rat.intCast_le_intCast.2 h4
      push_cast at h5
      exact h5
  unfold tipB
  rw [e1, e2]
  unfold awayB backB indB
  rcases Int.lt_or_le 0 (footA ps (mid ps) ((j + 1) % ps.length)) with h1 | h1
  · rcases Int.lt_or_le (footA ps (mid ps) j) (footD ps (mid ps) j) with h2 | h2
    · have h2' : 0 < footD ps (mid ps) j - footA ps (mid ps) j := by omega
      simp [h1, h2]
    · have h2' : ¬ 0 < footD ps (mid ps) j - footA ps (mid ps) j := by omega
      simp [h1, Int.not_lt.2 h2]
  · have h2 : footA ps (mid ps) j < footD ps (mid ps) j := by
      rcases Int.lt_or_le (footA ps (mid ps) j) (footD ps (mid ps) j) with h | h
      · exact h
      · exact absurd ⟨h, h1⟩ hno
    have h2' : 0 < footD ps (mid ps) j - footA ps (mid ps) j := by omega
    simp [Int.not_lt.2 h1, h2]
theorem count_ind (p : Nat → Bool) (n : Nat) : ((List.range n).map (fun i => indB (p i))).sum = ((List.range n).countP p : Nat) := count_sum p _
theorem sides_count (p : Nat → Bool) (n : Nat) : (sidesL p n).length = (List.range n).countP p := by
  unfold sidesL; rw [List.length_map, List.countP_eq_length_filter]
/-- as many tips as firm rests -/
theorem tips_firms {ps : List Pt} (hc : chk ps = true) : (sidesL (tipB ps (mid ps)) ps.length).length = (sidesL (firmB ps (mid ps)) ps.length).length := by
  have h3 := (areP_len (chk_areP hc)).1
  rw [sides_count, sides_count]
  have e1 := sum_cycN (fun i => indB (tipB ps (mid ps) i)) ps.length (by omega)
  have e2 := sum_cycN (fun i => indB (awayB ps i)) ps.length (by omega)
  have e3 : (List.range ps.length).map (fun i => indB (tipB ps (mid ps) ((i + 1) % ps.length))) = (List.range ps.length).map (fun i => (indB (backB ps i) + indB (awayB ps ((i + 1) % ps.length))) - (fun _ => (1 : Int)) i) := List.map_congr_left fun i hi => tip_ind hc (List.mem_range.1 hi)
  have e4 : (List.range ps.length).map (fun i => indB (firmB ps (mid ps) i)) = (List.range ps.length).map (fun i => (indB (awayB ps i) + indB (backB ps i)) - (fun _ => (1 : Int)) i) := List.map_congr_left fun i hi => firm_ind hc (List.mem_range.1 hi)
  have s1 := sum_map_sub (fun i => indB (backB ps i) + indB (awayB ps ((i + 1) % ps.length))) (fun _ => (1 : Int)) (List.range ps.length)
  have s2 := sum_map_sub (fun i => indB (awayB ps i) + indB (backB ps i)) (fun _ => (1 : Int)) (List.range ps.length)
  have s3 := sum_map_add (fun i => indB (backB ps i)) (fun i => indB (awayB ps ((i + 1) % ps.length))) (List.range ps.length)
  have s4 := sum_map_add (fun i => indB (awayB ps i)) (fun i => indB (backB ps i)) (List.range ps.length)
  have c1 := count_ind (tipB ps (mid ps)) ps.length
  have c2 := count_ind (firmB ps (mid ps)) ps.length
  dsimp only at e1 e2 e3 e4 c1 c2 s1 s2 s3 s4
  rw [e3] at e1
  rw [e4] at c2
  omega
theorem two_count {p : Nat → Bool} {n a b : Nat} (ha : a < n) (hb : b < n) (hne : a ≠ b) (hpa : p a = true) (hpb : p b = true) : 2 ≤ (sidesL p n).length := by
  rw [sides_count, List.countP_eq_length_filter]
  have h1 : a ∈ (List.range n).filter p := List.mem_filter.2 ⟨List.mem_range.2 ha, hpa⟩
  have h2 : b ∈ (List.range n).filter p := List.mem_filter.2 ⟨List.mem_range.2 hb, hpb⟩
  match (List.range n).filter p, h1, h2 with
  | [], h1, _ => simp at h1
  | [x], h1, h2 => simp at h1 h2; omega
  | x :: y :: l, _, _ => simp
theorem firm_rest {ps : List Pt} {m : Int × Int × Int} {s : Nat} (h : firmB ps m s = true) : restB ps m s = true := by
  unfold firmB at h
  simp only [Bool.and_eq_true] at h
  exact h.1.1
theorem rests_ge (ps : List Pt) (m : Int × Int × Int) (n : Nat) : (sidesL (firmB ps m) n).length ≤ (sidesL (restB ps m) n).length := by
  rw [sides_count, sides_count]
  exact List.countP_mono_left fun i _ h => firm_rest h
theorem lowN_first {ps : List Pt} (hc : chk ps = true) : ∀ m, m ≤ ps.length → ∀ k, k < lowN ps (mid ps) m → Low ps (mid ps) (lowN ps (mid ps) m) k
  | 0, _, k, hk => by simp [lowN] at hk
  | m + 1, hm, k, hk => by
    have h3 := (areP_len (chk_areP hc)).1
    unfold lowN at hk ⊢
    split at hk
    · next hl =>
      rw [if_pos hl]
      have hlt := lowN_lt' ps (mid ps) m ps.length (by omega)
      -- all before are at least as high as the elder least one
      have hk' := lowN_least hc m (by omega) k hk
      unfold Low at hk' hl ⊢
      have p1 := along_pos hc (show k < ps.length by omega)
      have p2 := along_pos hc hlt
      have p3 := along_pos hc (show m < ps.length by omega)
      generalize heightH ps (mid ps) k * heightH ps (mid ps) k = A at *
      generalize heightH ps (mid ps) (lowN ps (mid ps) m) * heightH ps (mid ps) (lowN ps (mid ps) m) = B at *
      generalize heightH ps (mid ps) m * heightH ps (mid ps) m = C at *
      generalize dt (alongS ps k) (alongS ps k) = X at *
      generalize dt (alongS ps (lowN ps (mid ps) m)) (alongS ps (lowN ps (mid ps) m)) = Y at *
      generalize dt (alongS ps m) (alongS ps m) = Z at *
      have k1 := Int.mul_lt_mul_of_pos_right hl p1
      have k2 := Int.mul_le_mul_of_nonneg_right (Int.not_lt.1 hk') (Int.le_of_lt p3)
      refine Int.lt_of_mul_lt_mul_right (a := Y) ?_ (Int.le_of_lt p2)
      grind
    · next hl =>
      rw [if_neg hl]
      exact lowN_first hc m (by omega) k hk
end Go.Proofs.Ytlehddifcjklgaa
