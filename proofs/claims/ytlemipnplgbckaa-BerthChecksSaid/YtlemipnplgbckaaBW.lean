import Derived.Test.YtlemipnplgbckaaBT
import Derived.Laws.AppendOwn
import Derived.ChangeKeysEq
import Derived.Maps.RangeWalk
import Derived.Maps.OwnIn
import Derived.Maps.AppendAt
import Derived.RangeFuncNested
import Derived.RangeFuncBound
import Derived.RangeFuncCalls
import Derived.RangeFuncLeaves
import Derived.Shelf.Abstract
import Derived.Shelf.RegionOpen
import Derived.WalkKit
import Derived.WalkMore
import Derived.OwnWalkIn
import Derived.TacticsInMore
import Derived.LoopNIn
import Derived.LoopIn
import Derived.WalkSpells
import Derived.WalkLawsBesides
import Derived.BigQuiet
import Derived.Deep.QuietTactic
import Derived.Lib.Hide
import Derived.Deep.RegionHeld3
import Derived.StillTailTactics
import Derived.Deep.LoopGhost
import Derived.Maps.OwnSet
import Derived.Lib.IndexAny
import Derived.Sort.QuietThIn
import Derived.Sort.QuietTacIn
import Derived.Sort.BigQuietIn
import Derived.Laws.OwnMore
import Derived.DeepKeys4
import Derived.Maps.Views
import Derived.Maps.OwnOps
import Derived.Laws.OwnMore
import Derived.Deep.DeepCutAuto
import Derived.ChangeKeysEq
namespace Go.Proofs.Ytlemipnplgbckaa
open Go.RowKit Go.Shelf
attribute [local go_sem] Oper.semAt_some
theorem g_dvd (x y d : Int) : gS x y d ∣ x ∧ gS x y d ∣ y ∧ gS x y d ∣ d := by
  have h : ((gcdL 0 [x, y, d] : Nat) : Int) ∣ x ∧ ((gcdL 0 [x, y, d] : Nat) : Int) ∣ y ∧ ((gcdL 0 [x, y, d] : Nat) : Int) ∣ d := by
    simp only [gcdL]
    refine ⟨?_, ?_, ?_⟩
    · exact Int.ofNat_dvd_left.2 (Nat.dvd_trans (Nat.gcd_dvd_left _ _) (Nat.dvd_trans (Nat.gcd_dvd_left _ _) (Nat.gcd_dvd_right _ _)))
    · exact Int.ofNat_dvd_left.2 (Nat.dvd_trans (Nat.gcd_dvd_left _ _) (Nat.gcd_dvd_right _ _))
    · exact Int.ofNat_dvd_left.2 (Nat.gcd_dvd_right _ _)
  unfold gS
  split
  · exact ⟨Int.neg_dvd.2 h.1, Int.neg_dvd.2 h.2.1, Int.neg_dvd.2 h.2.2⟩
  · exact h
/-- lowest terms: the three numbers are as many times these -/
theorem r_mul (x y d : Int) : rX x y d * gS x y d = x ∧ rY x y d * gS x y d = y ∧ rD x y d * gS x y d = d := by
  obtain ⟨h1, h2, h3⟩ := g_dvd x y d
  exact ⟨Int.tdiv_mul_cancel h1, Int.tdiv_mul_cancel h2, Int.tdiv_mul_cancel h3⟩
theorem rD_pos {x y d : Int} (hd : d ≠ 0) : 1 ≤ rD x y d := by
  have h := (r_mul x y d).2.2
  have hg := gS_ne (x := x) (y := y) hd
  rcases Int.lt_or_gt_of_ne hd with h0 | h0
  · have hs : gS x y d < 0 := by
      have := hg.1
      unfold gS at this ⊢
      rw [if_pos h0] at this ⊢; omega
    false_or_by_contra
    rename_i hn
    have : rD x y d ≤ 0 := by omega
    have := Int.mul_nonneg_of_nonpos_of_nonpos this (Int.le_of_lt hs)
    omega
  · have hs : 0 < gS x y d := by
      have := hg.1
      unfold gS at this ⊢
      rw [if_neg (by omega)] at this ⊢; omega
    false_or_by_contra
    rename_i hn
    have : rD x y d ≤ 0 := by omega
    have := Int.mul_nonpos_of_nonpos_of_nonneg this (Int.le_of_lt hs)
    omega
theorem bd_of_mul {B a g : Int} (hg : g ≠ 0) (h : Bd B (a * g)) : Bd B a := by
  unfold Bd at *
  have h1 : (a * g).natAbs = a.natAbs * g.natAbs := Int.natAbs_mul a g
  have h2 : 1 ≤ g.natAbs := by omega
  have h3 : a.natAbs * 1 ≤ a.natAbs * g.natAbs := Nat.mul_le_mul_left _ h2
  omega
theorem rnd_bd {x y d : Int} {p : Pt} (hd : d ≠ 0) (hx : Bd 1000000 x) (hy : Bd 1000000 y) (hd1 : Bd 1000000 d) (h1 : Bd 600000 (p.1 * d - x)) (h2 : Bd 600000 (p.2 * d - y)) : CirB (rndC x y d p) := by
  obtain ⟨m1, m2, m3⟩ := r_mul x y d
  have hg := (gS_ne (x := x) (y := y) hd).1
  have hp := rD_pos (x := x) (y := y) hd
  have b1 : Bd 1000000 (rX x y d) := bd_of_mul hg (by rw [m1]; exact hx)
  have b2 : Bd 1000000 (rY x y d) := bd_of_mul hg (by rw [m2]; exact hy)
  have b3 : Bd 1000000 (rD x y d) := bd_of_mul hg (by rw [m3]; exact hd1)
  have c1 : Bd 600000 (p.1 * rD x y d - rX x y d) := bd_of_mul hg (by rw [Int.sub_mul, Int.mul_assoc, m3, m1]; exact h1)
  have c2 : Bd 600000 (p.2 * rD x y d - rY x y d) := bd_of_mul hg (by rw [Int.sub_mul, Int.mul_assoc, m3, m2]; exact h2)
  have s1 := c1.mul c1
  have s2 := c2.mul c2
  refine ⟨b1, b2, ⟨hp, by unfold Bd at b3; show rD x y d ≤ _; omega⟩, ?_, ?_⟩
  · show 0 ≤ apF _ _ _ _
    unfold apF
    exact Int.add_nonneg (by rw [← Int.natAbs_mul_self]; exact Int.natCast_nonneg _) (by rw [← Int.natAbs_mul_self]; exact Int.natCast_nonneg _)
  · show apF _ _ _ _ ≤ _
    unfold apF
    unfold Bd at s1 s2
    omega
theorem ovC_bd {a b : Pt} (ha : Bd 20 a.1 ∧ Bd 20 a.2) (hb : Bd 20 b.1 ∧ Bd 20 b.2) : CirB (ovC a b) := by
  unfold ovC
  refine rnd_bd (by omega) ((ha.1.add hb.1).mono (by omega)) ((ha.2.add hb.2).mono (by omega)) (by unfold Bd; omega) ?_ ?_
  · have h := ha.1; have k := hb.1; unfold Bd at *; omega
  · have h := ha.2; have k := hb.2; unfold Bd at *; omega
theorem thC_bd {a b c : Pt} (ha : Bd 20 a.1 ∧ Bd 20 a.2) (hb : Bd 20 b.1 ∧ Bd 20 b.2) (hc : Bd 20 c.1 ∧ Bd 20 c.2) (hd : thD a b c ≠ 0) : CirB (thC a b c) := by
  have p1 := hb.1.sub ha.1
  have p2 := hb.2.sub ha.2
  have q1 := hc.1.sub ha.1
  have q2 := hc.2.sub ha.2
  have hD : Bd 6400 (thD a b c) := by
    have h := (p1.mul q2).sub (p2.mul q1)
    unfold thD crs
    unfold Bd at h ⊢
    dsimp only
    omega
  have hX : Bd 256000 (thX a b c) := by
    have h := (q2.mul ((p1.mul p1).add (p2.mul p2))).sub (p2.mul ((q1.mul q1).add (q2.mul q2)))
    unfold thX
    exact h.mono (by omega)
  have hY : Bd 256000 (thY a b c) := by
    have h := (p1.mul ((q1.mul q1).add (q2.mul q2))).sub (q1.mul ((p1.mul p1).add (p2.mul p2)))
    unfold thY
    exact h.mono (by omega)
  have e1 := hD.mul ha.1
  have e2 := hD.mul ha.2
  unfold thC
  refine rnd_bd hd ((e1.add hX).mono (by omega)) ((e2.add hY).mono (by omega)) (hD.mono (by omega)) ?_ ?_
  · rw [Int.mul_comm a.1]
    have : thD a b c * a.1 - (thD a b c * a.1 + thX a b c) = - thX a b c := by omega
    rw [this]; unfold Bd at hX ⊢; omega
  · rw [Int.mul_comm a.2]
    have : thD a b c * a.2 - (thD a b c * a.2 + thY a b c) = - thY a b c := by omega
    rw [this]; unfold Bd at hY ⊢; omega
/-- every candidate is within the bounds -/
theorem circL_bd {ps : List Pt} (h : ∀ p ∈ ps, Bd 20 p.1 ∧ Bd 20 p.2) : ∀ c ∈ circL ps, CirB c := by
  have hp : ∀ i, Bd 20 (ptAt ps i).1 ∧ Bd 20 (ptAt ps i).2 := fun i => by
    by_cases hi : i < ps.length
    · rw [ptAt_lt hi]; exact h _ (List.getElem_mem hi)
    · unfold ptAt; rw [List.getD_eq_getElem?_getD, List.getElem?_eq_none (by omega)]
      exact ⟨by show Bd 20 0; unfold Bd; omega, by show Bd 20 0; unfold Bd; omega⟩
  intro c hc
  unfold circL at hc
  rcases List.mem_append.1 hc with hc | hc
  · unfold ovB ovR at hc
    simp only [List.range_zero, List.map_nil, List.append_nil, List.mem_flatMap, List.mem_map] at hc
    obtain ⟨i, _, j, _, rfl⟩ := hc
    exact ovC_bd (hp _) (hp _)
  · rw [List.mem_flatMap] at hc
    obtain ⟨t, _, hc⟩ := hc
    unfold thT at hc
    split at hc
    · cases hc
    · rw [List.mem_singleton] at hc
      subst hc
      rename_i hz
      exact thC_bd (hp _) (hp _) (hp _) hz
end Go.Proofs.Ytlemipnplgbckaa
