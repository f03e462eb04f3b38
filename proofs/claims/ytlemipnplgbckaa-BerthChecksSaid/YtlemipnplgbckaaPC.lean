import Derived.Test.YtlemipnplgbckaaPB
import Derived.Test.YtlemipnplgbckaaBZ
import Derived.Laws.AppendOwn
import Derived.ChangeKeysEq
import Derived.Maps.RangeWalk
import Derived.Maps.OwnIn
import Derived.Maps.AppendAt
import Derived.RangeFuncNested
import Derived.RangeFuncBound
import Derived.RangeFuncCalls
import Derived.RangeFuncLeaves
import Derived.Shelf.Abstract
import Derived.Shelf.RegionOpen
import Derived.WalkKit
import Derived.WalkMore
import Derived.OwnWalkIn
import Derived.TacticsInMore
import Derived.LoopNIn
import Derived.LoopIn
import Derived.WalkSpells
import Derived.WalkLawsBesides
import Derived.BigQuiet
import Derived.Deep.QuietTactic
import Derived.Lib.Hide
import Derived.Deep.RegionHeld3
import Derived.StillTailTactics
import Derived.Deep.LoopGhost
import Derived.Maps.OwnSet
import Derived.Lib.IndexAny
import Derived.Sort.QuietThIn
import Derived.Sort.QuietTacIn
import Derived.Sort.BigQuietIn
import Derived.Laws.OwnMore
import Derived.DeepKeys4
import Derived.Maps.Views
import Derived.Maps.OwnOps
import Derived.Laws.OwnMore
import Derived.Deep.DeepCutAuto
import Derived.ChangeKeysEq
namespace Go.Proofs.Ytlemipnplgbckaa
open Go.RowKit Go.Shelf
attribute [local go_sem] Oper.semAt_some
/-- all points inside or on it? -/
def holdB (ps : List Pt) (c : Cir) : Bool := !(ps.any fun p => decide (0 < whF c p))
theorem holdB_iff {ps : List Pt} {c : Cir} (hd : 1 ≤ c.D) : holdB ps c = true ↔ ∀ q ∈ ps, d2 c.Z q ≤ c.ρ := by
  unfold holdB
  rw [Bool.not_eq_true', List.any_eq_false]
  constructor
  · intro h q hq
    have := h q hq
    rw [← wh_le c hd q]
    simp only [decide_eq_true_eq] at this
    omega
  · intro h q hq
    have := (wh_le c hd q).2 (h q hq)
    simp only [decide_eq_true_eq]
    omega
/-- the smallest circle, as the program finds it -/
def smC (ps : List Pt) : Cir := match (circL ps).filter (fun c => !(ps.any fun p => decide (0 < whF c p))) with
  | [] => ⟨0, 0, 0, 0⟩
  | c0 :: cs => minL c0 cs
theorem mem_ovs {ps : List Pt} {i j : Nat} (h : i ≤ j) (hj : j < ps.length) : ovC (ptAt ps i) (ptAt ps j) ∈ circL ps := by
  unfold circL ovB
  refine List.mem_append_left _ (List.mem_append_left _ (List.mem_flatMap.2 ⟨i, List.mem_range.2 (by omega), ?_⟩))
  unfold ovR
  refine List.mem_map.2 ⟨j - i, List.mem_range.2 (by omega), ?_⟩
  rw [show i + (j - i) = j by omega]
theorem mem_ths {ps : List Pt} {i j k : Nat} (h : i < j) (hj : j < k) (hk : k < ps.length) (hd : thD (ptAt ps i) (ptAt ps j) (ptAt ps k) ≠ 0) : thC (ptAt ps i) (ptAt ps j) (ptAt ps k) ∈ circL ps := by
  unfold circL
  refine List.mem_append_right _ (List.mem_flatMap.2 ⟨(i, j, k), mem_trL.2 ⟨h, hj, hk⟩, ?_⟩)
  unfold thT
  rw [if_neg hd]
  simp
theorem circL_cases {ps : List Pt} {c : Cir} (h : c ∈ circL ps) : (∃ i j, i ≤ j ∧ j < ps.length ∧ c = ovC (ptAt ps i) (ptAt ps j)) ∨ ∃ i j k, i < j ∧ j < k ∧ k < ps.length ∧ thD (ptAt ps i) (ptAt ps j) (ptAt ps k) ≠ 0 ∧ c = thC (ptAt ps i) (ptAt ps j) (ptAt ps k) := by
  unfold circL ovB at h
  rcases List.mem_append.1 h with h | h
  · rcases List.mem_append.1 h with h | h
    · obtain ⟨a, ha, h⟩ := List.mem_flatMap.1 h
      unfold ovR at h
      obtain ⟨j, hj, rfl⟩ := List.mem_map.1 h
      rw [List.mem_range] at ha hj
      exact .inl ⟨a, a + j, by omega, by omega, rfl⟩
    · simp [ovR] at h
  · obtain ⟨⟨i, j, k⟩, ht, h⟩ := List.mem_flatMap.1 h
    have ht := mem_trL.1 ht
    unfold thT at h
    dsimp only at h ht
    by_cases hd : thD (ptAt ps i) (ptAt ps j) (ptAt ps k) = 0
    · rw [if_pos hd] at h; cases h
    · rw [if_neg hd] at h
      simp at h
      exact .inr ⟨i, j, k, ht.1, ht.2.1, ht.2.2, hd, h⟩
/-- in lowest terms? -/
def Low (c : Cir) : Prop := 1 ≤ c.D ∧ gcdL 0 [c.X, c.Y, c.D] = 1
theorem gcdL3 (x y d : Int) : gcdL 0 [x, y, d] = Nat.gcd (Nat.gcd x.natAbs y.natAbs) d.natAbs := by simp [gcdL]
theorem low_rnd {x y d : Int} {p : Pt} (hd : d ≠ 0) : Low (rndC x y d p) := by
  refine ⟨rD_pos hd, ?_⟩
  obtain ⟨h1, h2, h3⟩ := r_mul x y d
  have hg := gS_ne (x := x) (y := y) hd
  show gcdL 0 [rX x y d, rY x y d, rD x y d] = 1
  have e : gcdL 0 [x, y, d] = gcdL 0 [rX x y d, rY x y d, rD x y d] * (gS x y d).natAbs := by
    rw [gcdL3, gcdL3]
    have n1 : x.natAbs = (rX x y d).natAbs * (gS x y d).natAbs := by rw [← Int.natAbs_mul, h1]
    have n2 : y.natAbs = (rY x y d).natAbs * (gS x y d).natAbs := by rw [← Int.natAbs_mul, h2]
    have n3 : d.natAbs = (rD x y d).natAbs * (gS x y d).natAbs := by rw [← Int.natAbs_mul, h3]
    generalize (rX x y d).natAbs = u at *
    generalize (rY x y d).natAbs = v at *
    generalize (rD x y d).natAbs = w at *
    generalize (gS x y d).natAbs = g at *
    rw [n1, n2, n3, Nat.gcd_mul_right, Nat.gcd_mul_right]
  have e2 : (gS x y d).natAbs = gcdL 0 [x, y, d] := by
    unfold gS; split <;> simp
  rw [e2] at e
  generalize gcdL 0 [rX x y d, rY x y d, rD x y d] = u at *
  generalize gcdL 0 [x, y, d] = g at *
  have : 0 < g := Nat.pos_of_ne_zero hg.2
  exact Nat.eq_of_mul_eq_mul_right this (by omega)
theorem low_dvd {c c' : Cir} (h : Low c) (_h' : Low c') (hx : c.X * c'.D = c'.X * c.D) (hy : c.Y * c'.D = c'.Y * c.D) : c.D.natAbs ∣ c'.D.natAbs := by
  have e := h.2
  rw [gcdL3] at e
  have k1 : c.D.natAbs ∣ c.X.natAbs * c'.D.natAbs := by rw [← Int.natAbs_mul, hx, Int.natAbs_mul]; exact Nat.dvd_mul_left _ _
  have k2 : c.D.natAbs ∣ c.Y.natAbs * c'.D.natAbs := by rw [← Int.natAbs_mul, hy, Int.natAbs_mul]; exact Nat.dvd_mul_left _ _
  have k3 : c.D.natAbs ∣ c.D.natAbs * c'.D.natAbs := Nat.dvd_mul_right _ _
  have := Nat.dvd_gcd (Nat.dvd_gcd k1 k2) k3
  rw [Nat.gcd_mul_right, Nat.gcd_mul_right, e, Nat.one_mul] at this
  exact this
theorem low_eq {c c' : Cir} (h : Low c) (h' : Low c') (hz : c.Z = c'.Z) (hr : c.ρ = c'.ρ) : c = c' := by
  have d1 := ratD h.1
  have d2 := ratD h'.1
  have z1 : (c.X : Rat) / c.D = (c'.X : Rat) / c'.D := congrArg Prod.fst hz
  have z2 : (c.Y : Rat) / c.D = (c'.Y : Rat) / c'.D := congrArg Prod.snd hz
  have hx : c.X * c'.D = c'.X * c.D := by
    rw [← Rat.intCast_inj, Rat.intCast_mul, Rat.intCast_mul]; grind
  have hy : c.Y * c'.D = c'.Y * c.D := by
    rw [← Rat.intCast_inj, Rat.intCast_mul, Rat.intCast_mul]; grind
  have hd := Nat.dvd_antisymm (low_dvd h h' hx hy) (low_dvd h' h hx.symm hy.symm)
  have hD : c.D = c'.D := by have := h.1; have := h'.1; omega
  have hR : c.R = c'.R := by
    have a := rho_R c h.1
    have b := rho_R c' h'.1
    rw [← Rat.intCast_inj, a, b, hD, hr]
  rw [hD] at hx hy
  have n0 : c'.D ≠ 0 := by have := h'.1; omega
  have hX := Int.eq_of_mul_eq_mul_right n0 hx
  have hY := Int.eq_of_mul_eq_mul_right n0 hy
  obtain ⟨X, Y, D, R⟩ := c
  obtain ⟨X', Y', D', R'⟩ := c'
  dsimp only at *
  subst hX hY hD hR
  rfl
theorem circ_low {ps : List Pt} {c : Cir} (h : c ∈ circL ps) : Low c := by
  rcases circL_cases h with ⟨i, j, _, _, rfl⟩ | ⟨i, j, k, _, _, _, hd, rfl⟩
  · exact low_rnd (by omega)
  · exact low_rnd hd
theorem at_of_mem {ps : List Pt} {p : Pt} (h : p ∈ ps) : ∃ i, i < ps.length ∧ p = ptAt ps i := by
  obtain ⟨i, hi, rfl⟩ := List.getElem_of_mem h
  exact ⟨i, hi, (ptAt_lt hi).symm⟩
theorem th_of {ps : List Pt} {i j k : Nat} {z : Zt} (h : i < j) (hj : j < k) (hk : k < ps.length) (hc : cr (ptAt ps i) (ptAt ps j) (ptAt ps k) ≠ 0)
    (h1 : d2 z (ptAt ps i) = d2 z (ptAt ps j)) (h2 : d2 z (ptAt ps i) = d2 z (ptAt ps k)) : ∃ c ∈ circL ps, c.Z = z ∧ c.ρ = d2 z (ptAt ps i) := by
  have hd := thD_ne.2 hc
  have hz := thC_mid hd h1 h2
  exact ⟨_, mem_ths h hj hk hd, hz, by rw [thC_ρ hd, hz]⟩
theorem cand_circ {ps : List Pt} {z : Zt} {p : Pt} (h : Cand ps z p) : ∃ c ∈ circL ps, c.Z = z ∧ c.ρ = d2 z p := by
  obtain ⟨hp, h⟩ := h
  obtain ⟨i, hi, rfl⟩ := at_of_mem hp
  rcases h with ⟨q, hq, rfl⟩ | ⟨q, hq, r, hr, hc, h1, h2⟩
  · obtain ⟨j, hj, rfl⟩ := at_of_mem hq
    have em : midZ (ptAt ps j) (ptAt ps i) = midZ (ptAt ps i) (ptAt ps j) := by unfold midZ; ext <;> (dsimp only; grind)
    have ed : d2 (midZ (ptAt ps i) (ptAt ps j)) (ptAt ps j) = d2 (midZ (ptAt ps i) (ptAt ps j)) (ptAt ps i) := by unfold d2 midZ; grind
    rcases Nat.le_total i j with h | h
    · exact ⟨_, mem_ovs h hj, ovC_Z _ _, ovC_ρ _ _⟩
    · exact ⟨_, mem_ovs h hi, by rw [ovC_Z, em], by rw [ovC_ρ, em, ed]⟩
  · obtain ⟨j, hj, rfl⟩ := at_of_mem hq
    obtain ⟨k, hk, rfl⟩ := at_of_mem hr
    have nij : i ≠ j := by rintro rfl; exact hc (by unfold cr; grind)
    have nik : i ≠ k := by rintro rfl; exact hc (by unfold cr; grind)
    have njk : j ≠ k := by rintro rfl; exact hc (by unfold cr; grind)
    obtain ⟨s1, s2, s3, s4, s5⟩ := cr_swap (a := ptAt ps i) (b := ptAt ps j) (c := ptAt ps k)
    have go : ∀ a b c, a < b → b < c → c < ps.length → cr (ptAt ps a) (ptAt ps b) (ptAt ps c) ≠ 0 → d2 z (ptAt ps a) = d2 z (ptAt ps b) → d2 z (ptAt ps a) = d2 z (ptAt ps c) → d2 z (ptAt ps a) = d2 z (ptAt ps i) →
        ∃ c ∈ circL ps, c.Z = z ∧ c.ρ = d2 z (ptAt ps i) := by
      intro a b c hab hbc hcl hcr e1 e2 e3
      obtain ⟨c, hc1, hc2, hc3⟩ := th_of hab hbc hcl hcr e1 e2
      exact ⟨c, hc1, hc2, by rw [hc3, e3]⟩
    have hc' : - cr (ptAt ps i) (ptAt ps j) (ptAt ps k) ≠ 0 := by grind
    rcases Nat.lt_or_gt_of_ne nij with a | a
    · rcases Nat.lt_or_gt_of_ne njk with b | b
      · exact go i j k a b hk hc h1 h2 rfl
      · rcases Nat.lt_or_gt_of_ne nik with c | c
        · exact go i k j c b hj (by rw [s1]; exact hc') h2 h1 rfl
        · exact go k i j c a hj (by rw [s4]; exact hc) h2.symm (by rw [← h2, h1]) h2.symm
    · rcases Nat.lt_or_gt_of_ne njk with b | b
      · rcases Nat.lt_or_gt_of_ne nik with c | c
        · exact go j i k a c hk (by rw [s2]; exact hc') h1.symm (by rw [← h1, h2]) h1.symm
        · exact go j k i b c hi (by rw [s3]; exact hc) (by rw [← h1, h2]) h1.symm h1.symm
      · exact go k j i b a hi (by rw [s5]; exact hc') (by rw [← h1, h2]) h2.symm h2.symm
theorem minL_le : ∀ (cs : List Cir) (m : Cir), 1 ≤ m.D → (∀ c ∈ cs, 1 ≤ c.D) → (minL m cs).ρ ≤ m.ρ ∧ ∀ c ∈ cs, (minL m cs).ρ ≤ c.ρ
  | [], m, _, _ => ⟨Rat.le_refl, fun c h => by cases h⟩
  | x :: xs, m, hm, hx => by
    have h : minL m (x :: xs) = minL (if cmpV x m < 0 then x else m) xs := rfl
    rw [h]
    have hx0 := hx x (by simp)
    have hxs : ∀ c ∈ xs, 1 ≤ c.D := fun c hc => hx c (by simp [hc])
    by_cases hc : cmpV x m < 0
    · rw [if_pos hc]
      have := minL_le xs x hx0 hxs
      have hlt := (cmpV_lt hx0 hm).1 hc
      refine ⟨by grind, fun c h => ?_⟩
      rcases List.mem_cons.1 h with rfl | h
      · exact this.1
      · exact this.2 c h
    · rw [if_neg hc]
      have := minL_le xs m hm hxs
      have hge : m.ρ ≤ x.ρ := by
        have := fun k => hc ((cmpV_lt hx0 hm).2 k)
        grind
      refine ⟨this.1, fun c h => ?_⟩
      rcases List.mem_cons.1 h with rfl | h
      · exact Rat.le_trans this.1 hge
      · exact this.2 c h
/-- least among the circles that are tried and hold all points: the best -/
theorem best_of_min {ps : List Pt} (hne : ps ≠ []) {c : Cir} (hc : ∀ q ∈ ps, d2 c.Z q ≤ c.ρ) (hm : ∀ z p, Cand ps z p → (∀ q ∈ ps, d2 z q ≤ d2 z p) → c.ρ ≤ d2 z p) : Best ps c.Z c.ρ := by
  refine ⟨hc, fun y σ hy => ?_⟩
  obtain ⟨p0, hp0, h0⟩ := far_ex y ps hne
  obtain ⟨z', p', h1, h2, h3⟩ := cand_ex ps y p0 hp0 h0
  exact Rat.le_trans (hm z' p' h1 h2) (Rat.le_trans h3 (hy p0 hp0))
theorem sm_filter {ps : List Pt} (hne : ps ≠ []) : ∃ c0 cs, (circL ps).filter (fun c => !(ps.any fun p => decide (0 < whF c p))) = c0 :: cs := by
  obtain ⟨p0, hp0, h0⟩ := far_ex (0, 0) ps hne
  obtain ⟨z', p', h1, h2, h3⟩ := cand_ex ps (0, 0) p0 hp0 h0
  obtain ⟨c, hc, hz, hr⟩ := cand_circ h1
  have : c ∈ (circL ps).filter (fun c => !(ps.any fun p => decide (0 < whF c p))) := List.mem_filter.2 ⟨hc, (holdB_iff (circ_low hc).1).2 (by rw [hz, hr]; exact h2)⟩
  cases h : (circL ps).filter (fun c => !(ps.any fun p => decide (0 < whF c p))) with
  | nil => rw [h] at this; cases this
  | cons a l => exact ⟨a, l, rfl⟩
theorem sm_spec {ps : List Pt} (hne : ps ≠ []) : smC ps ∈ circL ps ∧ Low (smC ps) ∧ Best ps (smC ps).Z (smC ps).ρ := by
  obtain ⟨c0, cs, h⟩ := sm_filter hne
  have e : smC ps = minL c0 cs := by unfold smC; rw [h]
  have hmem : ∀ c, c ∈ c0 :: cs ↔ c ∈ circL ps ∧ holdB ps c = true := fun c => by rw [← h, List.mem_filter]; rfl
  have hin : smC ps ∈ c0 :: cs := by
    rw [e]
    rcases minL_mem cs c0 with h | h
    · rw [h]; simp
    · simp [h]
  obtain ⟨h1, h2⟩ := (hmem _).1 hin
  have hl := circ_low h1
  refine ⟨h1, hl, best_of_min hne ((holdB_iff hl.1).1 h2) fun z p hc hq => ?_⟩
  obtain ⟨c, hcm, hz, hr⟩ := cand_circ hc
  have hcl := circ_low hcm
  have hcin : c ∈ c0 :: cs := (hmem c).2 ⟨hcm, (holdB_iff hcl.1).2 (by rw [hz, hr]; exact hq)⟩
  have hle := minL_le cs c0 (circ_low ((hmem c0).1 (by simp)).1).1 (fun c hc => (circ_low ((hmem c).1 (by simp [hc])).1).1)
  rw [e, ← hr]
  rcases List.mem_cons.1 hcin with rfl | h
  · exact hle.1
  · exact hle.2 c h
theorem sm_unique {ps : List Pt} (hne : ps ≠ []) {c : Cir} (hl : Low c) (h : Best ps c.Z c.ρ) : c = smC ps := by
  obtain ⟨_, h2, h3⟩ := sm_spec hne
  obtain ⟨e1, e2⟩ := best_unique hne h h3
  exact low_eq hl h2 e1 e2
end Go.Proofs.Ytlemipnplgbckaa
