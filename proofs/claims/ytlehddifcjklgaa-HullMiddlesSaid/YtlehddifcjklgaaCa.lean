import Derived.Test.YtlehddifcjklgaaBo
namespace Go.Proofs.Ytlehddifcjklgaa
/-! the hull round points, as the reference goes round -/
theorem plucker (d u v w : Pt) : crs d v * crs u w = crs d u * crs v w + crs d w * crs u v := by unfold crs; grind
theorem lagr (u v : Pt) : dt u v * dt u v + crs u v * crs u v = dt u u * dt v v := by unfold crs dt; grind
theorem thirdv (p q n : Pt) : dt p p * crs n q = dt p q * crs n p + crs p q * dt n p := by unfold crs dt; grind
theorem crs_anti (u v : Pt) : crs v u = - crs u v := by unfold crs; grind
theorem dt_comm (u v : Pt) : dt v u = dt u v := by unfold dt; grind
theorem sq_nonneg (x : Int) : 0 ≤ x * x := by
  rcases Int.le_total 0 x with h | h
  · exact Int.mul_nonneg h h
  · exact Int.mul_nonneg_of_nonpos_of_nonpos h h
theorem sq_zero {x : Int} (h : x * x = 0) : x = 0 := by
  rcases Int.mul_eq_zero.1 h with h | h <;> exact h
theorem dt_nonneg (u : Pt) : 0 ≤ dt u u := by
  have h1 := sq_nonneg u.1
  have h2 := sq_nonneg u.2
  unfold dt; omega
theorem dt_zero {u : Pt} (h : dt u u = 0) : u = (0, 0) := by
  have h1 := sq_nonneg u.1
  have h2 := sq_nonneg u.2
  unfold dt at h
  have e1 : u.1 = 0 := sq_zero (by omega)
  have e2 : u.2 = 0 := sq_zero (by omega)
  exact Prod.ext e1 e2
theorem dt_pos' {u : Pt} (h : u ≠ (0, 0)) : 0 < dt u u := by
  have := dt_nonneg u
  rcases Int.lt_or_eq_of_le this with h1 | h1
  · exact h1
  · exact absurd (dt_zero h1.symm) h
theorem mn_zero {a b : Pt} (h : mn a b = (0, 0)) : a = b := by
  unfold mn at h
  simp only [Prod.mk.injEq] at h
  exact Prod.ext (by omega) (by omega)
theorem mn_ne {a b : Pt} (h : a ≠ b) : mn a b ≠ (0, 0) := fun e => h (mn_zero e)
/-- u lies to the left of d, or behind -/
def Half (d u : Pt) : Prop := 0 < crs d u ∨ (crs d u = 0 ∧ dt d u < 0)
theorem Half.nonneg {d u : Pt} (h : Half d u) : 0 ≤ crs d u := by
  rcases h with h | h <;> omega
theorem Half.ne {d u : Pt} (h : Half d u) : d ≠ (0, 0) ∧ u ≠ (0, 0) := by
  constructor
  · rintro rfl; unfold Half crs dt at h; simp at h
  · rintro rfl; unfold Half crs dt at h; simp at h
/-- two on one ray -/
theorem half_ray {d u v : Pt} (hu : Half d u) (hv : Half d v) (h : crs u v = 0) : 0 < dt u v := by
  have hl := lagr u v
  rw [h] at hl
  have p1 := dt_pos' hu.ne.2
  have p2 := dt_pos' hv.ne.2
  have p3 := Int.mul_pos p1 p2
  have hne : dt u v ≠ 0 := fun e => by rw [e] at hl; omega
  -- d d . u v = (d . u) (d . v) + (d x u) (d x v)
  have e : dt d d * dt u v = dt d u * dt d v + crs d u * crs d v := by unfold dt crs; grind
  have e2 : dt u u * crs d v = dt u v * crs d u + crs u v * dt d u := thirdv u v d
  rw [h, Int.zero_mul, Int.add_zero] at e2
  have hdd := dt_pos' hu.ne.1
  rcases Int.lt_trichotomy (dt u v) 0 with h1 | h1 | h1
  · exfalso
    rcases hu with hu | ⟨hu, hu2⟩
    · have := Int.mul_neg_of_neg_of_pos h1 hu
      have := Int.mul_nonneg (Int.le_of_lt p1) hv.nonneg
      omega
    · rw [hu, Int.mul_zero] at e2
      have hv0 : crs d v = 0 := by
        rcases Int.mul_eq_zero.1 e2 with h | h
        · omega
        · exact h
      rcases hv with hv | ⟨_, hv2⟩
      · omega
      · rw [hu, Int.zero_mul, Int.add_zero] at e
        have := Int.mul_pos_of_neg_of_neg hu2 hv2
        have := Int.mul_neg_of_pos_of_neg hdd h1
        omega
  · exact absurd h1 hne
  · exact h1
theorem half_trans {d u v w : Pt} (hu : Half d u) (hv : Half d v) (hw : Half d w) (h1 : 0 ≤ crs u v) (h2 : 0 ≤ crs v w) : 0 ≤ crs u w := by
  have hp := plucker d u v w
  rcases hv with hv | ⟨hv, hv2⟩
  · have a1 := Int.mul_nonneg hu.nonneg h2
    have a2 := Int.mul_nonneg hw.nonneg h1
    rcases Int.lt_or_le (crs u w) 0 with h | h
    · have := Int.mul_neg_of_pos_of_neg hv h; omega
    · exact h
  · -- v behind: then w behind, too
    have e1 : dt d d * crs v w = dt d v * crs d w - crs d v * dt d w := by unfold dt crs; grind
    rw [hv, Int.zero_mul, Int.sub_zero] at e1
    have hdd := dt_pos' hu.ne.1
    have hw0 : crs d w = 0 := by
      have a1 := Int.mul_nonneg (Int.le_of_lt hdd) h2
      have hwn := hw.nonneg
      rcases Int.lt_or_eq_of_le hwn with h | h
      · have := Int.mul_neg_of_neg_of_pos hv2 h; omega
      · exact h.symm
    have hw2 : dt d w < 0 := by rcases hw with h | h; omega; exact h.2
    have e2 : dt d d * crs u w = dt d u * crs d w - crs d u * dt d w := by unfold dt crs; grind
    rw [hw0, Int.mul_zero] at e2
    have a3 := Int.mul_nonneg hu.nonneg (show 0 ≤ - dt d w by omega)
    rw [Int.mul_neg] at a3
    rcases Int.lt_or_le (crs u w) 0 with h | h
    · have := Int.mul_neg_of_pos_of_neg hdd h; omega
    · exact h
/-- one that is before another is before what is on the other's ray -/
theorem ray_sign {d u v n : Pt} (hu : Half d u) (hv : Half d v) (h : crs u v = 0) : (0 ≤ crs n u → 0 ≤ crs n v) ∧ (0 < crs n u → 0 < crs n v) := by
  have hr := half_ray hu hv h
  have e := thirdv u v n
  rw [h, Int.zero_mul, Int.add_zero] at e
  have p1 := dt_pos' hu.ne.2
  constructor
  · intro hn
    have := Int.mul_nonneg (Int.le_of_lt hr) hn
    rcases Int.lt_or_le (crs n v) 0 with h | h
    · have := Int.mul_neg_of_pos_of_neg p1 h; omega
    · exact h
  · intro hn
    have := Int.mul_pos hr hn
    rcases Int.lt_or_le 0 (crs n v) with h | h
    · exact h
    · have := Int.mul_nonneg (Int.le_of_lt p1) (show 0 ≤ - crs n v by omega)
      rw [Int.mul_neg] at this; omega
/-- a point that no other two have between them: all others are in one half plane -/
def Ext (S : List Pt) (a : Pt) : Prop := ∃ d, ∀ p ∈ S, p ≠ a → Half d (mn p a)
/-- the square of the distance, as the reference reckons -/
def far (a b : Pt) : Int := (a.1 - b.1) * (a.1 - b.1) + (a.2 - b.2) * (a.2 - b.2)
theorem far_dt (a b : Pt) : far a b = dt (mn b a) (mn b a) := by unfold far dt mn; grind
def betterB (a n p : Pt) : Bool := decide (n = a) || (decide (turn a n p < 0) || (decide (turn a n p = 0) && decide (far a n < far a p)))
/-- one round of the search -/
def pick1 (a n p : Pt) : Pt := if p = a then n else if betterB a n p then p else n
def pick (S : List Pt) (a : Pt) : Pt := S.foldl (pick1 a) a
/-- n is the best of T as seen from a -/
def Best (T : List Pt) (a n : Pt) : Prop := n ∈ T ∧ n ≠ a ∧ ∀ p ∈ T, p ≠ a → 0 ≤ crs (mn n a) (mn p a) ∧ (crs (mn n a) (mn p a) = 0 → dt (mn p a) (mn p a) ≤ dt (mn n a) (mn n a))
theorem best_step {S : List Pt} {a d : Pt} (hS : ∀ p ∈ S, p ≠ a → Half d (mn p a)) {T : List Pt} {n p : Pt} (hT : ∀ q ∈ T, q ∈ S) (hp : p ∈ S) (h : (n = a ∧ ∀ q ∈ T, q = a) ∨ Best T a n) :
    (pick1 a n p = a ∧ ∀ q ∈ T ++ [p], q = a) ∨ Best (T ++ [p]) a (pick1 a n p) := by
  unfold pick1
  by_cases hpa : p = a
  · rw [if_pos hpa]
    rcases h with ⟨h1, h2⟩ | ⟨h1, h2, h3⟩
    · left
      refine ⟨h1, fun q hq => ?_⟩
      rcases List.mem_append.1 hq with hq | hq
      · exact h2 q hq
      · rw [List.mem_singleton.1 hq]; exact hpa
    · right
      refine ⟨List.mem_append_left _ h1, h2, fun q hq hqa => ?_⟩
      rcases List.mem_append.1 hq with hq | hq
      · exact h3 q hq hqa
      · rw [List.mem_singleton.1 hq] at hqa; exact absurd hpa hqa
  rw [if_neg hpa]
  have hHp := hS p hp hpa
  rcases h with ⟨h1, h2⟩ | ⟨h1, h2, h3⟩
  · have hb : betterB a n p = true := by unfold betterB; simp [h1]
    rw [if_pos hb]
    right
    refine ⟨by simp, hpa, fun q hq hqa => ?_⟩
    rcases List.mem_append.1 hq with hq | hq
    · exact absurd (h2 q hq) hqa
    · rw [List.mem_singleton.1 hq]
      exact ⟨by rw [crs_self]; omega, fun _ => Int.le_refl _⟩
  have hHn := hS n (hT n h1) h2
  have ht : turn a n p = crs (mn n a) (mn p a) := turn_crs a n p
  by_cases hneg : crs (mn n a) (mn p a) < 0
  · have hb : betterB a n p = true := by unfold betterB; rw [ht]; simp [hneg]
    rw [if_pos hb]
    right
    have hpn : 0 < crs (mn p a) (mn n a) := by rw [crs_anti]; omega
    refine ⟨by simp, hpa, fun q hq hqa => ?_⟩
    rcases List.mem_append.1 hq with hq | hq
    · have hHq := hS q (hT q hq) hqa
      obtain ⟨g1, _⟩ := h3 q hq hqa
      refine ⟨half_trans hHp hHn hHq (Int.le_of_lt hpn) g1, fun h0 => ?_⟩
      exfalso
      have hqp : crs (mn q a) (mn p a) = 0 := by rw [crs_anti, h0]; rfl
      have := (ray_sign hHq hHp hqp (n := mn n a)).1 g1
      omega
    · rw [List.mem_singleton.1 hq]
      exact ⟨by rw [crs_self]; omega, fun _ => Int.le_refl _⟩
  by_cases hz : crs (mn n a) (mn p a) = 0 ∧ dt (mn n a) (mn n a) < dt (mn p a) (mn p a)
  · have hb : betterB a n p = true := by unfold betterB; rw [ht, far_dt, far_dt]; simp [hz.1, hz.2]
    rw [if_pos hb]
    right
    refine ⟨by simp, hpa, fun q hq hqa => ?_⟩
    rcases List.mem_append.1 hq with hq | hq
    · have hHq := hS q (hT q hq) hqa
      obtain ⟨g1, g2⟩ := h3 q hq hqa
      have hnn : 0 ≤ crs (mn p a) (mn n a) := by rw [crs_anti, hz.1]; omega
      refine ⟨half_trans hHp hHn hHq hnn g1, fun h0 => ?_⟩
      have e1 : crs (mn n a) (mn q a) = 0 := by
        have hnp : crs (mn p a) (mn n a) = 0 := by rw [crs_anti, hz.1]; rfl
        have hqp : crs (mn q a) (mn p a) = 0 := by rw [crs_anti, h0]; rfl
        have := (ray_sign hHp hHn hnp (n := mn q a)).1 (by omega)
        rw [crs_anti] at this; omega
      have := g2 e1
      omega
    · rw [List.mem_singleton.1 hq]
      exact ⟨by rw [crs_self]; omega, fun _ => Int.le_refl _⟩
  · have hb : ¬ betterB a n p = true := by
      unfold betterB; rw [ht, far_dt, far_dt]
      simp only [Bool.or_eq_true, Bool.and_eq_true, decide_eq_true_eq]
      rintro (h | h | h)
      · exact h2 h
      · exact hneg h
      · exact hz h
    rw [if_neg hb]
    right
    refine ⟨List.mem_append_left _ h1, h2, fun q hq hqa => ?_⟩
    rcases List.mem_append.1 hq with hq | hq
    · exact h3 q hq hqa
    · rw [List.mem_singleton.1 hq]
      refine ⟨by omega, fun h0 => ?_⟩
      rcases Int.lt_or_le (dt (mn n a) (mn n a)) (dt (mn p a) (mn p a)) with h | h
      · exact absurd ⟨h0, h⟩ hz
      · exact h
theorem pick_best {S : List Pt} {a : Pt} (ha : Ext S a) (hne : ∃ p ∈ S, p ≠ a) : Best S a (pick S a) := by
  obtain ⟨d, hd⟩ := ha
  have key : ∀ (R T : List Pt) (n : Pt), (∀ q ∈ T, q ∈ S) → (∀ q ∈ R, q ∈ S) → ((n = a ∧ ∀ q ∈ T, q = a) ∨ Best T a n) → ((R.foldl (pick1 a) n = a ∧ ∀ q ∈ T ++ R, q = a) ∨ Best (T ++ R) a (R.foldl (pick1 a) n)) := by
    intro R
    induction R with
    | nil => intro T n _ _ h; simpa using h
    | cons p R ih =>
      intro T n hT hR h
      have h2 := best_step hd hT (hR p List.mem_cons_self) h
      have := ih (T ++ [p]) (pick1 a n p) (fun q hq => by
        rcases List.mem_append.1 hq with hq | hq
        · exact hT q hq
        · rw [List.mem_singleton.1 hq]; exact hR p List.mem_cons_self) (fun q hq => hR q (List.mem_cons_of_mem _ hq)) h2
      rw [List.append_assoc] at this
      simpa using this
  have := key S [] a (fun q h => by cases h) (fun q h => h) (.inl ⟨rfl, fun q h => by cases h⟩)
  rw [List.nil_append] at this
  rcases this with ⟨_, h⟩ | h
  · obtain ⟨p, hp, hpa⟩ := hne
    exact absurd (h p hp) hpa
  · exact h
end Go.Proofs.Ytlehddifcjklgaa
