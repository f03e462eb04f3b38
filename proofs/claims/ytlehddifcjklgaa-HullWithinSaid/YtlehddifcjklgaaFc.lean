import Derived.Test.YtlehddifcjklgaaFb
import Derived.Maps.OwnIn
import Derived.Maps.OwnSet
import Derived.Maps.AppendAt
import Derived.RangeFuncNested
import Derived.RangeFuncBound
import Derived.RangeFuncCalls
import Derived.RangeFuncLeaves
import Derived.Shelf.Abstract
import Derived.Shelf.RegionOpen
import Derived.WalkKit
import Derived.OwnWalkIn
import Derived.TacticsInMore
import Derived.LoopNIn
import Derived.LoopIn
import Derived.WalkMore
import Derived.Sort.QuietThIn
import Derived.Sort.QuietTacIn
import Derived.Sort.BigQuietIn
import Derived.WalkSpells
import Derived.WalkLawsBesides
import Derived.BigQuiet
import Derived.Deep.QuietTactic
import Derived.Lib.Hide
import Derived.Deep.RegionHeld3
import Derived.StillTailTactics
import Derived.Deep.LoopGhost
import Derived.Lib.IndexAny
namespace Go.Proofs.Ytlehddifcjklgaa
open Go.RowKit Go.Shelf
attribute [local go_sem] Oper.semAt_some
theorem crs_next {ps : List Pt} (hc : chk ps = true) {j : Nat} (hj : j < ps.length) : 0 < crs (alongS ps j) (alongS ps ((j + 1) % ps.length)) := by
  have h3 := (areP_len (chk_areP hc)).1
  have hj2 : ((j + 1) % ps.length + 1) % ps.length < ps.length := Nat.mod_lt _ (by omega)
  have h := chk_turn hc hj hj2 (by
    rw [Nat.mod_add_mod]
    have := mod_ne (a := j) (b := j + 1 + 1) (n := ps.length) (by omega) (by omega)
    rwa [Nat.mod_eq_of_lt hj] at this) (by
    rw [Nat.mod_add_mod]
    exact mod_ne (a := j + 1) (b := j + 1 + 1) (n := ps.length) (by omega) (by omega))
  have e : turn (ptAt ps j) (nx ps j) (ptAt ps (((j + 1) % ps.length + 1) % ps.length)) = crs (alongS ps j) (alongS ps ((j + 1) % ps.length)) := by
    show turn (ptAt ps j) (nx ps j) (nx ps ((j + 1) % ps.length)) = crs (mn (nx ps j) (ptAt ps j)) (mn (nx ps ((j + 1) % ps.length)) (nx ps j))
    unfold turn crs mn; dsimp only; grind
  omega
theorem lagrC (a v : Pt) : crs a v * crs a v + dt a v * dt a v = dt a a * dt v v := by unfold crs dt; grind
theorem both_perp (a b v : Pt) : crs a b * dt v v = crs a v * dt v b + dt a v * crs v b := by unfold crs dt; grind
theorem dtC (a b : Pt) : dt a b = dt b a := by unfold dt; grind
theorem sqI_pos {x : Int} (h : x ≠ 0) : 0 < x * x := by
  rcases Int.lt_or_gt_of_ne h with h | h
  · have := Int.mul_pos (show 0 < -x by omega) (show 0 < -x by omega); grind
  · exact Int.mul_pos h h
theorem dt_pos_crs {a v : Pt} (h : 0 < crs a v) : 0 < dt v v := by
  rcases Int.lt_or_le 0 (dt v v) with k | k
  · exact k
  · exfalso
    have k1 : v.1 = 0 := by
      rcases Classical.em (v.1 = 0) with e | e
      · exact e
      · have h1 := sqI_pos e
        have h2 : 0 ≤ v.2 * v.2 := by
          rcases Classical.em (v.2 = 0) with e2 | e2
          · rw [e2]; decide
          · exact Int.le_of_lt (sqI_pos e2)
        unfold dt at k; omega
    have k2 : v.2 = 0 := by
      rcases Classical.em (v.2 = 0) with e | e
      · exact e
      · have h1 := sqI_pos e
        unfold dt at k; rw [k1] at k; omega
    unfold crs at h; rw [k1, k2] at h; omega
/-- the foot at a corner: the line of the side before comes nearer -/
theorem near_core {a b v : Pt} (hQ : 0 < crs a b) (hv : 0 < dt v v) (_ha : 0 < dt a a) (hb : 0 < dt b b) (h0 : dt b v = 0) : crs a v * crs a v * dt b b < crs b v * crs b v * dt a a := by
  have e1 := lagrC a v
  have e2 := lagrC b v
  have hne : dt a v ≠ 0 := by
    intro e
    have := both_perp a b v
    rw [e, dtC v b, h0] at this
    have := Int.mul_pos hQ hv
    omega
  have k := Int.mul_pos (sqI_pos hne) hb
  have e3 : crs b v * crs b v = dt b b * dt v v := by rw [h0] at e2; omega
  have e4 : crs a v * crs a v = dt a a * dt v v - dt a v * dt a v := by omega
  rw [e3, e4]
  grind
theorem height_nx (ps : List Pt) (m : Int × Int × Int) (s : Nat) : heightH ps m s = crs (alongS ps s) (inw m (nx ps s)) := by
  unfold heightH crs inw alongS mn; dsimp only; grind
theorem low_end {ps : List Pt} (hc : chk ps = true) {j : Nat} (hj : j < ps.length) (h : footA ps (mid ps) ((j + 1) % ps.length) = 0) : Low ps (mid ps) j ((j + 1) % ps.length) := by
  have hs : (j + 1) % ps.length < ps.length := Nat.mod_lt _ (by omega)
  have hp : inw (mid ps) (nx ps j) = inw (mid ps) (ptAt ps ((j + 1) % ps.length)) := rfl
  have hh := height_pos hc hs
  unfold heightH at hh
  unfold Low
  rw [height_nx ps (mid ps) j, hp]
  unfold heightH
  refine near_core (crs_next hc hj) (dt_pos_crs hh) (along_pos hc hj) (along_pos hc hs) ?_
  rw [dtC]; exact h
theorem near_core2 {a b v : Pt} (hQ : 0 < crs a b) (hv : 0 < dt v v) (ha : 0 < dt a a) (_hb : 0 < dt b b) (h0 : dt a v = 0) : crs b v * crs b v * dt a a < crs a v * crs a v * dt b b := by
  have e1 := lagrC a v
  have e2 := lagrC b v
  have hne : dt b v ≠ 0 := by
    intro e
    have := both_perp a b v
    rw [h0, dtC v b, e] at this
    have := Int.mul_pos hQ hv
    omega
  have k := Int.mul_pos (sqI_pos hne) ha
  have e3 : crs a v * crs a v = dt a a * dt v v := by rw [h0] at e1; omega
  have e4 : crs b v * crs b v = dt b b * dt v v - dt b v * dt b v := by omega
  rw [e3, e4]
  grind
theorem low_end2 {ps : List Pt} (hc : chk ps = true) {j : Nat} (hj : j < ps.length) (h : footA ps (mid ps) j = footD ps (mid ps) j) : Low ps (mid ps) ((j + 1) % ps.length) j := by
  have hs : (j + 1) % ps.length < ps.length := Nat.mod_lt _ (by omega)
  have hp : inw (mid ps) (nx ps j) = inw (mid ps) (ptAt ps ((j + 1) % ps.length)) := rfl
  have hh := height_pos hc hj
  rw [height_nx] at hh
  unfold Low
  rw [height_nx ps (mid ps) j]
  unfold heightH
  rw [← hp]
  refine near_core2 (crs_next hc hj) (dt_pos_crs hh) (along_pos hc hj) (along_pos hc hs) ?_
  have : footA ps (mid ps) j - footD ps (mid ps) j = dt (alongS ps j) (inw (mid ps) (nx ps j)) := by
    unfold footA footD dt inw alongS mn; dsimp only; grind
  omega
theorem lowN_least {ps : List Pt} (hc : chk ps = true) : ∀ m, m ≤ ps.length → ∀ k, k < m → ¬ Low ps (mid ps) k (lowN ps (mid ps) m)
  | 0, _, k, hk => by omega
  | m + 1, hm, k, hk => by
    have h3 := (areP_len (chk_areP hc)).1
    unfold lowN
    split
    · next hl =>
      rcases Nat.lt_or_ge k m with h | h
      · intro h2
        exact lowN_least hc m (by omega) k h (low_trans h2 hl (along_pos hc (by omega)) (along_pos hc (by omega)) (along_pos hc (lowN_lt' ps _ m _ (by omega))))
      · obtain rfl : k = m := by omega
        exact low_irrefl ps _ _
    · next hl =>
      rcases Nat.lt_or_ge k m with h | h
      · exact lowN_least hc m (by omega) k h
      · obtain rfl : k = m := by omega
        exact hl
/-- the side with the least lean is a firm rest -/
theorem lowest_firm {ps : List Pt} (hc : chk ps = true) {s : Nat} (hs : s < ps.length) (hl : ∀ k, k < ps.length → ¬ Low ps (mid ps) k s) : firmB ps (mid ps) s = true := by
  have h3 := (areP_len (chk_areP hc)).1
  have hp : (s + ps.length - 1) % ps.length < ps.length := Nat.mod_lt _ (by omega)
  have hn : (s + 1) % ps.length < ps.length := Nat.mod_lt _ (by omega)
  rw [firm_eq (footD_pos hc hs), Bool.and_eq_true, decide_eq_true_eq, decide_eq_true_eq]
  refine ⟨?_, ?_⟩
  · rcases Int.lt_or_le 0 (footA ps (mid ps) s) with h | h
    · exact h
    · exfalso
      rcases Int.lt_or_eq_of_le h with h | h
      · exact hl _ hp (low_prev hc hs h)
      · have := low_end hc hp (by rw [prev_next hs]; exact h)
        rw [prev_next hs] at this
        exact hl _ hp this
  · rcases Int.lt_or_le (footA ps (mid ps) s) (footD ps (mid ps) s) with h | h
    · exact h
    · exfalso
      rcases Int.lt_or_eq_of_le h with h | h
      · exact hl _ hn (low_next hc hs h)
      · exact hl _ hn (low_end2 hc hs h.symm)
theorem fin_core (X D Lk Ls hs hk : Rat) (hE : X * (D * D * Ls) = D * hs * (D * hs)) (hlo : D * D * (D * D) * (hs * hs * Lk) ≤ D * D * (D * D) * (hk * hk * Ls)) : X * (D * D * Lk) * (D * D * Ls) ≤ D * hk * (D * hk) * (D * D * Ls) := by
  have e : X * (D * D * Lk) * (D * D * Ls) = D * D * (D * D) * (hs * hs * Lk) := by grind
  rw [e]; grind
theorem two_firm {ps : List Pt} (hc : chk ps = true) {s : Nat} (hs : s < ps.length) (hl : ∀ k, k < ps.length → ¬ Low ps (mid ps) k s) : ∃ k, k < ps.length ∧ k ≠ s ∧ firmB ps (mid ps) k = true := by
  rcases Classical.em (∃ k, k < ps.length ∧ k ≠ s ∧ firmB ps (mid ps) k = true) with h | h
  · exact h
  exfalso
  have h3 := (areP_len (chk_areP hc)).1
  have hD := mid_D hc
  have hF := lowest_firm hc hs hl
  rw [firm_eq (footD_pos hc hs), Bool.and_eq_true, decide_eq_true_eq, decide_eq_true_eq] at hF
  have hfd : (0 : Rat) < ((footD ps (mid ps) s : Int) : Rat) := Rat.intCast_pos.2 (by omega)
  have hDq : (0 : Rat) < (((mid ps).2.2 : Int) : Rat) := Rat.intCast_pos.2 hD
  obtain ⟨τ, hτ⟩ := div_ex ((footA ps (mid ps) s : Int) : Rat) ((footD ps (mid ps) s : Int) : Rat) hfd
  have hτ0 : 0 < τ := pos_of_mul hfd (by rw [hτ]; exact Rat.intCast_pos.2 hF.1)
  have hτ1 : τ < 1 := lt_of_mul hfd (by rw [hτ, Rat.one_mul]; exact Rat.intCast_lt_intCast.2 hF.2)
  have hV : ∀ k, k < ps.length → VQ ps k = castQ (scP (mid ps) (ptAt ps k)) := fun k hk => by unfold VQ; rw [Nat.mod_eq_of_lt hk]
  have hV1 : ∀ k, k < ps.length → VQ ps (k + 1) = castQ (scP (mid ps) (nx ps k)) := fun k hk => by rw [VQ_next, Nat.mod_eq_of_lt hk]
  have hLk : ∀ k, k < ps.length → dq (dif (VQ ps k) (VQ ps (k + 1))) (dif (VQ ps k) (VQ ps (k + 1))) = (((mid ps).2.2 * (mid ps).2.2 * dt (alongS ps k) (alongS ps k) : Int) : Rat) := fun k hk => by
    rw [hV k hk, hV1 k hk, dif_sc, dq_cast]
    congr 1
    unfold dt; grind
  have hCk : ∀ k, k < ps.length → cq (VQ ps k) (VQ ps (k + 1)) = (((mid ps).2.2 * heightH ps (mid ps) k : Int) : Rat) := fun k hk => by
    rw [hV k hk, hV1 k hk, cq_cast, crs_sc]
  have hI : dq (VQ ps s) (VQ ps (s + 1)) - dq (VQ ps s) (VQ ps s) = ((-((mid ps).2.2 * footA ps (mid ps) s) : Int) : Rat) := by
    rw [hV s hs, hV1 s hs, dq_cast, dq_cast, ← dt_sc]; push_cast; rfl
  obtain ⟨q, hq⟩ : ∃ q, q = onQ (VQ ps s) (VQ ps (s + 1)) τ := ⟨_, rfl⟩
  have hperp : dq q (dif (VQ ps s) (VQ ps (s + 1))) = 0 := by
    have e : dq q (dif (VQ ps s) (VQ ps (s + 1))) = (dq (VQ ps s) (VQ ps (s + 1)) - dq (VQ ps s) (VQ ps s)) + τ * dq (dif (VQ ps s) (VQ ps (s + 1))) (dif (VQ ps s) (VQ ps (s + 1))) := by
      rw [hq]; unfold dq dif onQ; grind
    rw [e, hI, hLk s hs]
    have e2 : (((mid ps).2.2 * (mid ps).2.2 * dt (alongS ps s) (alongS ps s) : Int) : Rat) = (((mid ps).2.2 : Int) : Rat) * ((footD ps (mid ps) s : Int) : Rat) := by
      unfold footD; push_cast; grind
    rw [e2]; push_cast; grind
  have hf1 : dq q (VQ ps s) = dq q q := by
    have e : dq q q = dq q (VQ ps s) + τ * dq q (dif (VQ ps s) (VQ ps (s + 1))) := by
      conv => lhs; rhs; rw [hq]
      unfold dq dif onQ; grind
    rw [e, hperp]; grind
  have hf2 : dq q (VQ ps (s + 1)) = dq q q := by
    have e : dq q (VQ ps (s + 1)) = dq q (VQ ps s) + dq q (dif (VQ ps s) (VQ ps (s + 1))) := by unfold dq dif; grind
    rw [e, hperp, hf1]; grind
  refine (ring_of hc).two (s := s) hτ0 hτ1 hq hf1 hf2 (fun k h1 h2 => ?_) (fun k => ?_)
  · have hk' : k % ps.length < ps.length := Nat.mod_lt _ (by omega)
    have hne : k % ps.length ≠ s := by
      have := mod_ne h1 h2
      rwa [Nat.mod_eq_of_lt hs] at this
    have hnf : firmB ps (mid ps) (k % ps.length) ≠ true := fun e => h ⟨_, hk', hne, e⟩
    rw [firm_eq (footD_pos hc hk'), Ne, Bool.and_eq_true, decide_eq_true_eq, decide_eq_true_eq] at hnf
    rw [VQ_next]
    unfold VQ Mono
    rw [dq_cast, dq_cast, dq_cast]
    have e1 := dt_sc ps (mid ps) (k % ps.length)
    have e2 := dt_sc2 ps (mid ps) (k % ps.length)
    rcases Int.lt_or_le 0 (footA ps (mid ps) (k % ps.length)) with h' | h'
    · right
      have : (mid ps).2.2 * (footD ps (mid ps) (k % ps.length) - footA ps (mid ps) (k % ps.length)) ≤ 0 := Int.mul_nonpos_of_nonneg_of_nonpos (by omega) (by omega)
      rw [← e2] at this
      have := Rat.intCast_le_intCast.2 this
      push_cast at this
      exact this
    · left
      have : 0 ≤ -((mid ps).2.2 * footA ps (mid ps) (k % ps.length)) := by
        have := Int.mul_nonpos_of_nonneg_of_nonpos (show 0 ≤ (mid ps).2.2 by omega) h'
        omega
      rw [← e1] at this
      have := Rat.intCast_le_intCast.2 this
      push_cast at this
      exact this
  · have hk' : k % ps.length < ps.length := Nat.mod_lt _ (by omega)
    have ek : VQ ps k = VQ ps (k % ps.length) := (ring_of hc).mod k
    have ek1 : VQ ps (k + 1) = VQ ps (k % ps.length + 1) := by rw [VQ_next, hV1 _ hk']
    rw [ek, ek1, hLk _ hk', hCk _ hk']
    have hE : dq q q * dq (dif (VQ ps s) (VQ ps (s + 1))) (dif (VQ ps s) (VQ ps (s + 1))) = cq (VQ ps s) (VQ ps (s + 1)) * cq (VQ ps s) (VQ ps (s + 1)) := by
      have e1 : cq (VQ ps s) (VQ ps (s + 1)) = cq q (dif (VQ ps s) (VQ ps (s + 1))) := by rw [hq]; unfold cq dif onQ; grind
      have e2 : cq q (dif (VQ ps s) (VQ ps (s + 1))) * cq q (dif (VQ ps s) (VQ ps (s + 1))) = dq q q * dq (dif (VQ ps s) (VQ ps (s + 1))) (dif (VQ ps s) (VQ ps (s + 1))) - dq q (dif (VQ ps s) (VQ ps (s + 1))) * dq q (dif (VQ ps s) (VQ ps (s + 1))) := by
        generalize dif (VQ ps s) (VQ ps (s + 1)) = d
        unfold cq dq; grind
      rw [e1, e2, hperp]; grind
    rw [hLk s hs, hCk s hs] at hE
    have hLs : (0 : Rat) < (((mid ps).2.2 * (mid ps).2.2 * dt (alongS ps s) (alongS ps s) : Int) : Rat) := Rat.intCast_pos.2 (Int.mul_pos (Int.mul_pos hD hD) (along_pos hc hs))
    refine le_of_mul hLs ?_
    have hlo := hl _ hk'
    unfold Low at hlo
    have hlo' : heightH ps (mid ps) s * heightH ps (mid ps) s * dt (alongS ps (k % ps.length)) (alongS ps (k % ps.length)) ≤ heightH ps (mid ps) (k % ps.length) * heightH ps (mid ps) (k % ps.length) * dt (alongS ps s) (alongS ps s) := by omega
    have hlo2 := Int.mul_le_mul_of_nonneg_left hlo' (show 0 ≤ (mid ps).2.2 * (mid ps).2.2 * ((mid ps).2.2 * (mid ps).2.2) from Int.le_of_lt (Int.mul_pos (Int.mul_pos hD hD) (Int.mul_pos hD hD)))
    have hlo3 := Rat.intCast_le_intCast.2 hlo2
    push_cast at hlo3 hE ⊢
    exact fin_core _ _ _ _ _ _ hE hlo3
end Go.Proofs.Ytlehddifcjklgaa
