/-! the theorem of Domokos, Papadopulos and Ruina over rational numbers: Ring.two -/
namespace Go.Proofs.Ytlehddifcjklgaa
abbrev Q2 := Rat × Rat
def cq (a b : Q2) : Rat := a.1 * b.2 - a.2 * b.1
def dq (a b : Q2) : Rat := a.1 * b.1 + a.2 * b.2
def mom (p a b : Q2) : Rat := cq a b * (cq p a + cq p b)
def onQ (a b : Q2) (t : Rat) : Q2 := (a.1 + t * (b.1 - a.1), a.2 + t * (b.2 - a.2))
def scQ (s : Rat) (a : Q2) : Q2 := (s * a.1, s * a.2)
theorem mom_split (p a b : Q2) (t : Rat) : mom p a b = mom p a (onQ a b t) + mom p (onQ a b t) b := by
  unfold mom cq onQ; grind
theorem mom_sc (p a b : Q2) (s r : Rat) : mom p (scQ s a) (scQ r b) = s * r * cq a b * (s * cq p a + r * cq p b) := by
  unfold mom cq scQ; grind
theorem cq_on (c a b : Q2) (t : Rat) : cq c (onQ a b t) = (1 - t) * cq c a + t * cq c b := by unfold cq onQ; grind
theorem cq_on_l (c a b : Q2) (t : Rat) : cq (onQ a b t) c = (1 - t) * cq a c + t * cq b c := by unfold cq onQ; grind
theorem cq_self (a : Q2) : cq a a = 0 := by unfold cq; grind
theorem three (a b c : Q2) : cq a b * c.1 = cq c b * a.1 + cq a c * b.1 ∧ cq a b * c.2 = cq c b * a.2 + cq a c * b.2 := by unfold cq; grind
theorem div_ex (a b : Rat) (hb : 0 < b) : ∃ t : Rat, t * b = a := ⟨a / b, by grind⟩
theorem pos_of_mul {t b : Rat} (hb : 0 < b) (h : 0 < t * b) : 0 < t := by
  rcases Classical.em (0 < t) with h1 | h1
  · exact h1
  · have h2 : t ≤ 0 := by grind
    have := Rat.mul_nonneg (show 0 ≤ -t by grind) (Rat.le_of_lt hb)
    grind
theorem le_of_mul {t u b : Rat} (hb : 0 < b) (h : t * b ≤ u * b) : t ≤ u := by
  rcases Classical.em (t ≤ u) with h1 | h1
  · exact h1
  · have := Rat.mul_pos (show 0 < t - u by grind) hb
    grind
theorem lt_of_mul {t u b : Rat} (hb : 0 < b) (h : t * b < u * b) : t < u := by
  rcases Classical.em (t < u) with h1 | h1
  · exact h1
  · have := Rat.mul_nonneg (show 0 ≤ t - u by grind) (Rat.le_of_lt hb)
    grind
theorem sq_le_one {s : Rat} (hs : 0 < s) (h : s * s ≤ 1) : s ≤ 1 := by
  rcases Classical.em (s ≤ 1) with h1 | h1
  · exact h1
  · have := Rat.mul_pos (show 0 < s - 1 by grind) hs
    grind
theorem sq_lt_one {s : Rat} (hs : 0 < s) (h : s * s < 1) : s < 1 := by
  rcases Classical.em (s < 1) with h1 | h1
  · exact h1
  · have := Rat.mul_nonneg (show 0 ≤ s - 1 by grind) (Rat.le_of_lt hs)
    grind
theorem sqQ_nonneg (a : Rat) : 0 ≤ a * a := by
  rcases Classical.em (0 ≤ a) with h | h
  · exact Rat.mul_nonneg h h
  · have := Rat.mul_nonneg (show 0 ≤ -a by grind) (show 0 ≤ -a by grind)
    grind
theorem dq_nonneg (a : Q2) : 0 ≤ dq a a := by
  have h1 := sqQ_nonneg a.1
  have h2 := sqQ_nonneg a.2
  unfold dq; grind
theorem dq_sc (s : Rat) (a : Q2) : dq (scQ s a) (scQ s a) = s * s * dq a a := by unfold dq scQ; grind
/-- a point of a way within a circle is within it -/
theorem in_on {a b : Q2} {t R : Rat} (h0 : 0 ≤ t) (h1 : t ≤ 1) (ha : dq a a ≤ R) (hb : dq b b ≤ R) : dq (onQ a b t) (onQ a b t) ≤ R := by
  have e : dq (onQ a b t) (onQ a b t) = (1 - t) * dq a a + t * dq b b - t * (1 - t) * dq (b.1 - a.1, b.2 - a.2) (b.1 - a.1, b.2 - a.2) := by
    unfold dq onQ; grind
  have k1 := Rat.mul_nonneg (show 0 ≤ 1 - t by grind) (show 0 ≤ R - dq a a by grind)
  have k2 := Rat.mul_nonneg h0 (show 0 ≤ R - dq b b by grind)
  have k3 := Rat.mul_nonneg (Rat.mul_nonneg h0 (show 0 ≤ 1 - t by grind)) (dq_nonneg (b.1 - a.1, b.2 - a.2))
  grind
/-- no foot inside: the way goes away all the time, or comes nearer -/
def Mono (a b : Q2) : Prop := 0 ≤ dq a b - dq a a ∨ dq b b - dq a b ≤ 0
theorem mono_on {a b : Q2} {t : Rat} (h0 : 0 ≤ t) (h1 : t ≤ 1) (h : Mono a b) : Mono (onQ a b t) b := by
  rcases h with h | h
  · left
    have e : dq (onQ a b t) b - dq (onQ a b t) (onQ a b t) = (1 - t) * ((dq a b - dq a a) + t * dq (b.1 - a.1, b.2 - a.2) (b.1 - a.1, b.2 - a.2)) := by unfold dq onQ; grind
    rw [e]
    refine Rat.mul_nonneg (by grind) ?_
    have := Rat.mul_nonneg h0 (dq_nonneg (b.1 - a.1, b.2 - a.2))
    grind
  · right
    have e : dq b b - dq (onQ a b t) b = (1 - t) * (dq b b - dq a b) := by unfold dq onQ; grind
    have := Rat.mul_nonneg (show 0 ≤ 1 - t by grind) (show 0 ≤ -(dq b b - dq a b) by grind)
    grind
theorem out_on {a b : Q2} {t R : Rat} (h0 : 0 ≤ t) (h1 : t ≤ 1) (h : Mono a b) (ha : R ≤ dq a a) (hb : R ≤ dq b b) : R ≤ dq (onQ a b t) (onQ a b t) := by
  have hd := dq_nonneg (b.1 - a.1, b.2 - a.2)
  rcases h with h | h
  · have e : dq (onQ a b t) (onQ a b t) = dq a a + 2 * (t * (dq a b - dq a a)) + t * t * dq (b.1 - a.1, b.2 - a.2) (b.1 - a.1, b.2 - a.2) := by unfold dq onQ; grind
    have k1 := Rat.mul_nonneg h0 h
    have k2 := Rat.mul_nonneg (Rat.mul_nonneg h0 h0) hd
    grind
  · have e : dq (onQ a b t) (onQ a b t) = dq b b + 2 * ((1 - t) * -(dq b b - dq a b)) + (1 - t) * (1 - t) * dq (b.1 - a.1, b.2 - a.2) (b.1 - a.1, b.2 - a.2) := by unfold dq onQ; grind
    have k1 := Rat.mul_nonneg (show 0 ≤ 1 - t by grind) (show 0 ≤ -(dq b b - dq a b) by grind)
    have k2 := Rat.mul_nonneg (Rat.mul_nonneg (show 0 ≤ 1 - t by grind) (show 0 ≤ 1 - t by grind)) hd
    grind
/-- from a point of the circle a way that stays outside leaves it at once -/
theorem out_strict {a b : Q2} {t R : Rat} (h0 : 0 < t) (_h1 : t ≤ 1) (h : Mono a b) (ha : dq a a = R) (hb : R ≤ dq b b) (hc : 0 < cq a b) : R < dq (onQ a b t) (onQ a b t) := by
  have hd : 0 < dq (b.1 - a.1, b.2 - a.2) (b.1 - a.1, b.2 - a.2) := by
    rcases Classical.em (0 < dq (b.1 - a.1, b.2 - a.2) (b.1 - a.1, b.2 - a.2)) with k | k
    · exact k
    · exfalso
      have k1 := sqQ_nonneg (b.1 - a.1)
      have k2 := sqQ_nonneg (b.2 - a.2)
      have k0 : dq (b.1 - a.1, b.2 - a.2) (b.1 - a.1, b.2 - a.2) = (b.1 - a.1) * (b.1 - a.1) + (b.2 - a.2) * (b.2 - a.2) := by unfold dq; grind
      have k3 : (b.1 - a.1) * (b.1 - a.1) = 0 := by grind
      have k4 : (b.2 - a.2) * (b.2 - a.2) = 0 := by grind
      have k5 : b.1 - a.1 = 0 := by rcases Rat.mul_eq_zero.1 k3 with k | k <;> exact k
      have k6 : b.2 - a.2 = 0 := by rcases Rat.mul_eq_zero.1 k4 with k | k <;> exact k
      have : cq a b = 0 := by unfold cq; grind
      grind
  rcases h with h | h
  · have e : dq (onQ a b t) (onQ a b t) = dq a a + 2 * (t * (dq a b - dq a a)) + t * t * dq (b.1 - a.1, b.2 - a.2) (b.1 - a.1, b.2 - a.2) := by unfold dq onQ; grind
    have k1 := Rat.mul_nonneg (Rat.le_of_lt h0) h
    have k2 := Rat.mul_pos (Rat.mul_pos h0 h0) hd
    grind
  · exfalso
    have e : dq a a = dq b b + 2 * (-(dq b b - dq a b)) + dq (b.1 - a.1, b.2 - a.2) (b.1 - a.1, b.2 - a.2) := by unfold dq; grind
    grind
def momL (p : Q2) : List Q2 → Rat
  | a :: b :: r => mom p a b + momL p (b :: r)
  | _ => 0
def InC (p : Q2) (R : Rat) : List Q2 → Prop
  | a :: b :: r => (a = b ∨ 0 < cq a b) ∧ 0 ≤ cq p a ∧ dq a a ≤ R ∧ InC p R (b :: r)
  | [a] => 0 ≤ cq p a ∧ dq a a ≤ R
  | [] => True
def OutC (p : Q2) (R : Rat) : List Q2 → Prop
  | a :: b :: r => (a = b ∨ 0 < cq a b ∧ Mono a b) ∧ 0 ≤ cq p a ∧ R ≤ dq a a ∧ OutC p R (b :: r)
  | [a] => 0 ≤ cq p a ∧ R ≤ dq a a
  | [] => True
theorem InC.hd {p : Q2} {R : Rat} {a : Q2} {r : List Q2} (h : InC p R (a :: r)) : 0 ≤ cq p a ∧ dq a a ≤ R := by
  cases r with
  | nil => exact h
  | cons b r => exact ⟨h.2.1, h.2.2.1⟩
theorem OutC.hd {p : Q2} {R : Rat} {a : Q2} {r : List Q2} (h : OutC p R (a :: r)) : 0 ≤ cq p a ∧ R ≤ dq a a := by
  cases r with
  | nil => exact h
  | cons b r => exact ⟨h.2.1, h.2.2.1⟩
theorem mom_self (p a : Q2) : mom p a a = 0 := by unfold mom; rw [cq_self]; grind
theorem eq_scQ {x y : Q2} {s : Rat} (h1 : x.1 = s * y.1) (h2 : x.2 = s * y.2) : x = scQ s y := Prod.ext h1 h2
/-- one sector: the inner one has less moment -/
theorem sector {p y z : Q2} {s r : Rat} (hs : 0 < s) (hs1 : s ≤ 1) (hr : 0 < r) (hr1 : r ≤ 1) (hc : 0 < cq y z) (hy : 0 ≤ cq p y) (hz : 0 ≤ cq p z) :
    mom p (scQ s y) (scQ r z) ≤ mom p y z ∧ (s < 1 → 0 < cq p y → mom p (scQ s y) (scQ r z) < mom p y z) := by
  rw [mom_sc]
  unfold mom
  have k1 := Rat.mul_nonneg (Rat.mul_nonneg (show 0 ≤ 1 - s by grind) (Rat.le_of_lt hc)) (show 0 ≤ cq p y + cq p z by grind)
  have k2 : 0 ≤ s * (1 - r) * cq y z * (cq p y + cq p z) := Rat.mul_nonneg (Rat.mul_nonneg (Rat.mul_nonneg (Rat.le_of_lt hs) (by grind)) (Rat.le_of_lt hc)) (by grind)
  have k3 : 0 ≤ s * r * cq y z * ((1 - s) * cq p y) := Rat.mul_nonneg (Rat.mul_nonneg (Rat.mul_nonneg (Rat.le_of_lt hs) (Rat.le_of_lt hr)) (Rat.le_of_lt hc)) (Rat.mul_nonneg (by grind) hy)
  have k4 : 0 ≤ s * r * cq y z * ((1 - r) * cq p z) := Rat.mul_nonneg (Rat.mul_nonneg (Rat.mul_nonneg (Rat.le_of_lt hs) (Rat.le_of_lt hr)) (Rat.le_of_lt hc)) (Rat.mul_nonneg (by grind) hz)
  refine ⟨by grind, fun hs2 hp => ?_⟩
  have k5 := Rat.mul_pos (Rat.mul_pos (show 0 < 1 - s by grind) hc) (show 0 < cq p y + cq p z by grind)
  grind
theorem sq_scale {s R : Rat} {x y : Q2} (hs : 0 < s) (he : x = scQ s y) (hx : dq x x ≤ R) (hy : R ≤ dq y y) (hy0 : 0 < dq y y) : s ≤ 1 ∧ (R < dq y y → s < 1) := by
  subst he
  rw [dq_sc] at hx
  exact ⟨sq_le_one hs (le_of_mul hy0 (by grind)), fun h => sq_lt_one hs (lt_of_mul hy0 (by grind))⟩
theorem dq_pos_of_cq {a b : Q2} (h : 0 < cq a b) : 0 < dq a a ∧ 0 < dq b b := by
  refine ⟨?_, ?_⟩
  · rcases Classical.em (0 < dq a a) with k | k
    · exact k
    · exfalso
      have k1 := sqQ_nonneg a.1
      have k2 := sqQ_nonneg a.2
      unfold dq at k
      have k3 : a.1 * a.1 = 0 := by grind
      have k4 : a.2 * a.2 = 0 := by grind
      have k5 : a.1 = 0 := by rcases Rat.mul_eq_zero.1 k3 with k | k <;> exact k
      have k6 : a.2 = 0 := by rcases Rat.mul_eq_zero.1 k4 with k | k <;> exact k
      unfold cq at h; rw [k5, k6, Rat.zero_mul, Rat.zero_mul] at h; exact absurd h (by grind)
  · rcases Classical.em (0 < dq b b) with k | k
    · exact k
    · exfalso
      have k1 := sqQ_nonneg b.1
      have k2 := sqQ_nonneg b.2
      unfold dq at k
      have k3 : b.1 * b.1 = 0 := by grind
      have k4 : b.2 * b.2 = 0 := by grind
      have k5 : b.1 = 0 := by rcases Rat.mul_eq_zero.1 k3 with k | k <;> exact k
      have k6 : b.2 = 0 := by rcases Rat.mul_eq_zero.1 k4 with k | k <;> exact k
      unfold cq at h; rw [k5, k6, Rat.mul_zero, Rat.mul_zero] at h; exact absurd h (by grind)
/-- two ways from one ray to the opposite one, one within a circle, one outside of it -/
theorem sweep (p : Q2) (R : Rat) : ∀ (n : Nat) (x0 y0 : Q2) (xs ys : List Q2) (s : Rat), xs.length + ys.length ≤ n → 0 < s → s ≤ 1 → x0 = scQ s y0 →
    InC p R (x0 :: xs) → OutC p R (y0 :: ys) → (x0 :: xs).getLast? = some (scQ (-1) p) → (y0 :: ys).getLast? = some (scQ (-1) p) →
    momL p (x0 :: xs) ≤ momL p (y0 :: ys) ∧ ((s < 1 ∧ 0 < cq p y0 ∨ y0 = p ∧ dq p p = R ∧ ∃ y1 r, ys = y1 :: r ∧ 0 < cq y0 y1) → momL p (x0 :: xs) < momL p (y0 :: ys))
  | n, x0, y0, [], [], s, hn, hs, hs1, he, hX, hY, hlX, hlY => by
    have e1 : x0 = scQ (-1) p := by simpa using hlX
    have e2 : y0 = scQ (-1) p := by simpa using hlY
    refine ⟨by unfold momL; grind, ?_⟩
    rintro (⟨_, h⟩ | ⟨_, _, y1, r, h, _⟩)
    · exfalso; rw [e2] at h; unfold cq scQ at h; grind
    · cases h
  | n, x0, y0, [], y1 :: ys, s, hn, hs, hs1, he, hX, hY, hlX, hlY => by
    have e1 : x0 = scQ (-1) p := by simpa using hlX
    have hy1 := hY.2.2.2.hd
    rcases hY.1 with e | ⟨hc, hm⟩
    · subst e
      match n, hn with
      | n + 1, hn =>
        obtain ⟨h1, h2⟩ := sweep p R n x0 y0 [] ys s (by simp at hn ⊢; omega) hs hs1 he hX hY.2.2.2 hlX (by simpa using hlY)
        have e3 : momL p (y0 :: y0 :: ys) = momL p (y0 :: ys) := by rw [momL, mom_self]; grind
        rw [e3]
        refine ⟨h1, ?_⟩
        rintro (h | ⟨_, _, y1, r, h, hc⟩)
        · exact h2 (.inl h)
        · obtain ⟨rfl, rfl⟩ := List.cons.inj h
          rw [cq_self] at hc; grind
    · exfalso
      have k1 : s * cq y0 y1 = -cq p y1 := by rw [he] at e1; unfold scQ at e1; obtain ⟨f1, f2⟩ := Prod.mk.inj e1; unfold cq; grind
      have := Rat.mul_pos hs hc
      grind
  | n, x0, y0, x1 :: xs, [], s, hn, hs, hs1, he, hX, hY, hlX, hlY => by
    have e1 : y0 = scQ (-1) p := by simpa using hlY
    have hx1 := hX.2.2.2.hd
    rcases hX.1 with e | hc
    · subst e
      match n, hn with
      | n + 1, hn =>
        obtain ⟨h1, h2⟩ := sweep p R n x0 y0 xs [] s (by simp at hn ⊢; omega) hs hs1 he hX.2.2.2 hY (by simpa using hlX) hlY
        have e3 : momL p (x0 :: x0 :: xs) = momL p (x0 :: xs) := by rw [momL, mom_self]; grind
        rw [e3]
        exact ⟨h1, h2⟩
    · exfalso
      have k1 : cq x0 x1 = -(s * cq p x1) := by rw [he, e1]; unfold cq scQ; grind
      have := Rat.mul_nonneg (Rat.le_of_lt hs) hx1.1
      grind
  | n, x0, y0, x1 :: xs, y1 :: ys, s, hn, hs, hs1, he, hX, hY, hlX, hlY => by
    have hx1 := hX.2.2.2.hd
    have hy1 := hY.2.2.2.hd
    have hx0 := hX.hd
    have hy0 := hY.hd
    match n, hn with
    | n + 1, hn =>
      rcases hX.1 with e | hcx
      · subst e
        obtain ⟨h1, h2⟩ := sweep p R n x0 y0 xs (y1 :: ys) s (by simp at hn ⊢; omega) hs hs1 he hX.2.2.2 hY (by simpa using hlX) hlY
        have e3 : momL p (x0 :: x0 :: xs) = momL p (x0 :: xs) := by rw [momL, mom_self]; grind
        rw [e3]
        exact ⟨h1, h2⟩
      rcases hY.1 with e | ⟨hcy, hm⟩
      · subst e
        obtain ⟨h1, h2⟩ := sweep p R n x0 y0 (x1 :: xs) ys s (by simp at hn ⊢; omega) hs hs1 he hX hY.2.2.2 hlX (by simpa using hlY)
        have e3 : momL p (y0 :: y0 :: ys) = momL p (y0 :: ys) := by rw [momL, mom_self]; grind
        rw [e3]
        refine ⟨h1, ?_⟩
        rintro (h | ⟨_, _, y1, r, h, hc⟩)
        · exact h2 (.inl h)
        · obtain ⟨rfl, rfl⟩ := List.cons.inj h
          rw [cq_self] at hc; grind
      have hu : 0 < cq y0 x1 := by
        have : cq x0 x1 = s * cq y0 x1 := by rw [he]; unfold cq scQ; grind
        rcases Classical.em (0 < cq y0 x1) with k | k
        · exact k
        · have := Rat.mul_nonneg (Rat.le_of_lt hs) (show 0 ≤ -cq y0 x1 by grind)
          grind
      have hpy : ∀ t : Rat, y0 = p → cq p (onQ y0 y1 t) = t * cq y0 y1 := by rintro t rfl; rw [cq_on, cq_self]; grind
      rcases Classical.em (cq x1 y1 = 0) with h0 | h0
      · -- on one ray
        obtain ⟨s', hs'⟩ := div_ex (cq y0 x1) (cq y0 y1) hcy
        have hs'0 : 0 < s' := pos_of_mul hcy (by rw [hs']; exact hu)
        obtain ⟨t1, t2⟩ := three y0 y1 x1
        have he' : x1 = scQ s' y1 := by
          refine eq_scQ ?_ ?_
          · have : cq y0 y1 * x1.1 = cq y0 y1 * (s' * y1.1) := by grind
            grind
          · have : cq y0 y1 * x1.2 = cq y0 y1 * (s' * y1.2) := by grind
            grind
        obtain ⟨l1, l2⟩ := sq_scale hs'0 he' hx1.2 hy1.2 (dq_pos_of_cq hcy).2
        obtain ⟨h1, h2⟩ := sweep p R n x1 y1 xs ys s' (by simp at hn ⊢; omega) hs'0 l1 he' hX.2.2.2 hY.2.2.2 (by simpa using hlX) (by simpa using hlY)
        obtain ⟨k1, k2⟩ := sector (p := p) hs hs1 hs'0 l1 hcy hy0.1 hy1.1
        rw [← he, ← he'] at k1 k2
        rw [momL, momL]
        refine ⟨by grind, ?_⟩
        rintro (⟨h, h'⟩ | ⟨e, hR, _⟩)
        · have := k2 h h'; grind
        · have hst := out_strict (t := 1) (R := R) (by decide) (by decide) hm (by rw [e]; exact hR) hy1.2 hcy
          have e1 : onQ y0 y1 1 = y1 := by unfold onQ; exact Prod.ext (by simp; grind) (by simp; grind)
          rw [e1] at hst
          have := h2 (.inl ⟨l2 hst, by rw [← e]; exact hcy⟩)
          grind
      rcases Classical.em (0 < cq x1 y1) with h1' | h1'
      · -- the inner corner comes first
        have hden : 0 < cq y0 x1 + cq x1 y1 := by grind
        obtain ⟨t, ht⟩ := div_ex (cq y0 x1) (cq y0 x1 + cq x1 y1) hden
        obtain ⟨s', hs'⟩ := div_ex (cq y0 x1 + cq x1 y1) (cq y0 y1) hcy
        have ht0 : 0 < t := pos_of_mul hden (by rw [ht]; exact hu)
        have ht1 : t < 1 := lt_of_mul hden (by grind)
        have hs'0 : 0 < s' := pos_of_mul hcy (by rw [hs']; exact hden)
        obtain ⟨t1, t2⟩ := three y0 y1 x1
        obtain ⟨z, hz⟩ : ∃ z, onQ y0 y1 t = z := ⟨_, rfl⟩
        have hz1 : z.1 = y0.1 + t * (y1.1 - y0.1) := by rw [← hz]; rfl
        have hz2 : z.2 = y0.2 + t * (y1.2 - y0.2) := by rw [← hz]; rfl
        have he' : x1 = scQ s' z := by
          refine eq_scQ ?_ ?_
          · have e1 : cq y0 y1 * (s' * z.1) = (cq y0 x1 + cq x1 y1) * z.1 := by rw [← hs']; grind
            have e2 : (cq y0 x1 + cq x1 y1) * z.1 = (cq y0 x1 + cq x1 y1) * y0.1 + cq y0 x1 * (y1.1 - y0.1) := by rw [hz1, ← ht]; grind
            have : cq y0 y1 * x1.1 = cq y0 y1 * (s' * z.1) := by grind
            grind
          · have e1 : cq y0 y1 * (s' * z.2) = (cq y0 x1 + cq x1 y1) * z.2 := by rw [← hs']; grind
            have e2 : (cq y0 x1 + cq x1 y1) * z.2 = (cq y0 x1 + cq x1 y1) * y0.2 + cq y0 x1 * (y1.2 - y0.2) := by rw [hz2, ← ht]; grind
            have : cq y0 y1 * x1.2 = cq y0 y1 * (s' * z.2) := by grind
            grind
        have ho := out_on (Rat.le_of_lt ht0) (Rat.le_of_lt ht1) hm hy0.2 hy1.2
        have hcz1 := cq_on y0 y0 y1 t
        have hcz2 := cq_on_l y1 y0 y1 t
        have hcp := cq_on p y0 y1 t
        have hsp := mom_split p y0 y1 t
        have hmz := mono_on (Rat.le_of_lt ht0) (Rat.le_of_lt ht1) hm
        rw [cq_self] at hcz1 hcz2
        have hpz := hpy t
        have hst := fun e hR => out_strict (t := t) (R := R) ht0 (Rat.le_of_lt ht1) hm e hR hcy
        rw [hz] at ho hcz1 hcz2 hcp hsp hmz hpz hst
        have hc1 : 0 < cq y0 z := by have := Rat.mul_pos ht0 hcy; grind
        have hc2 : 0 < cq z y1 := by have := Rat.mul_pos (show 0 < 1 - t by grind) hcy; grind
        have hcp0 : 0 ≤ cq p z := by
          have a1 := Rat.mul_nonneg (show 0 ≤ 1 - t by grind) hy0.1
          have a2 := Rat.mul_nonneg (Rat.le_of_lt ht0) hy1.1
          grind
        obtain ⟨l1, l2⟩ := sq_scale hs'0 he' hx1.2 ho (dq_pos_of_cq hc1).2
        obtain ⟨h1, h2⟩ := sweep p R n x1 z xs (y1 :: ys) s' (by simp at hn ⊢; omega) hs'0 l1 he' hX.2.2.2 ⟨.inr ⟨hc2, hmz⟩, hcp0, ho, hY.2.2.2⟩ (by simpa using hlX) (by simpa using hlY)
        obtain ⟨k1, k2⟩ := sector (p := p) hs hs1 hs'0 l1 hc1 hy0.1 hcp0
        rw [← he, ← he'] at k1 k2
        have e3 : momL p (y0 :: y1 :: ys) = mom p y0 z + momL p (z :: y1 :: ys) := by rw [momL, momL]; grind
        rw [e3, momL]
        refine ⟨by grind, ?_⟩
        rintro (⟨h, h'⟩ | ⟨e, hR, _⟩)
        · have := k2 h h'; grind
        · have hst' := hst (by rw [e]; exact hR) hy1.2
          have := h2 (.inl ⟨l2 hst', by rw [hpz e]; exact Rat.mul_pos ht0 hcy⟩)
          grind
      · -- the outer corner comes first
        have hneg : 0 < cq y1 x1 := by
          have : cq y1 x1 = -cq x1 y1 := by unfold cq; grind
          grind
        have hv : 0 < cq x0 y1 := by
          have : cq x0 y1 = s * cq y0 y1 := by rw [he]; unfold cq scQ; grind
          rw [this]; exact Rat.mul_pos hs hcy
        have hden : 0 < cq x0 y1 + cq y1 x1 := by grind
        obtain ⟨t, ht⟩ := div_ex (cq x0 y1) (cq x0 y1 + cq y1 x1) hden
        obtain ⟨s', hs'⟩ := div_ex (cq x0 x1) (cq x0 y1 + cq y1 x1) hden
        have ht0 : 0 < t := pos_of_mul hden (by rw [ht]; exact hv)
        have ht1 : t < 1 := lt_of_mul hden (by grind)
        have hs'0 : 0 < s' := pos_of_mul hden (by rw [hs']; exact hcx)
        obtain ⟨t1, t2⟩ := three x0 x1 y1
        obtain ⟨z, hz⟩ : ∃ z, onQ x0 x1 t = z := ⟨_, rfl⟩
        have hz1 : z.1 = x0.1 + t * (x1.1 - x0.1) := by rw [← hz]; rfl
        have hz2 : z.2 = x0.2 + t * (x1.2 - x0.2) := by rw [← hz]; rfl
        have he' : z = scQ s' y1 := by
          refine eq_scQ ?_ ?_
          · have e1 : (cq x0 y1 + cq y1 x1) * z.1 = (cq x0 y1 + cq y1 x1) * x0.1 + cq x0 y1 * (x1.1 - x0.1) := by rw [hz1, ← ht]; grind
            have e2 : (cq x0 y1 + cq y1 x1) * (s' * y1.1) = cq x0 x1 * y1.1 := by rw [← hs']; grind
            have : (cq x0 y1 + cq y1 x1) * z.1 = (cq x0 y1 + cq y1 x1) * (s' * y1.1) := by grind
            grind
          · have e1 : (cq x0 y1 + cq y1 x1) * z.2 = (cq x0 y1 + cq y1 x1) * x0.2 + cq x0 y1 * (x1.2 - x0.2) := by rw [hz2, ← ht]; grind
            have e2 : (cq x0 y1 + cq y1 x1) * (s' * y1.2) = cq x0 x1 * y1.2 := by rw [← hs']; grind
            have : (cq x0 y1 + cq y1 x1) * z.2 = (cq x0 y1 + cq y1 x1) * (s' * y1.2) := by grind
            grind
        have hi := in_on (Rat.le_of_lt ht0) (Rat.le_of_lt ht1) hx0.2 hx1.2
        have hcz2 := cq_on_l x1 x0 x1 t
        have hcp := cq_on p x0 x1 t
        have hsp := mom_split p x0 x1 t
        rw [cq_self] at hcz2
        rw [hz] at hi hcz2 hcp hsp
        have hc2 : 0 < cq z x1 := by have := Rat.mul_pos (show 0 < 1 - t by grind) hcx; grind
        have hcp0 : 0 ≤ cq p z := by
          have a1 := Rat.mul_nonneg (show 0 ≤ 1 - t by grind) hx0.1
          have a2 := Rat.mul_nonneg (Rat.le_of_lt ht0) hx1.1
          grind
        obtain ⟨l1, l2⟩ := sq_scale hs'0 he' hi hy1.2 (dq_pos_of_cq hcy).2
        obtain ⟨h1, h2⟩ := sweep p R n z y1 (x1 :: xs) ys s' (by simp at hn ⊢; omega) hs'0 l1 he' ⟨.inr hc2, hcp0, hi, hX.2.2.2⟩ hY.2.2.2 (by simpa using hlX) (by simpa using hlY)
        obtain ⟨k1, k2⟩ := sector (p := p) hs hs1 hs'0 l1 hcy hy0.1 hy1.1
        rw [← he, ← he'] at k1 k2
        have e3 : momL p (x0 :: x1 :: xs) = mom p x0 z + momL p (z :: x1 :: xs) := by rw [momL, momL]; grind
        have e4 : momL p (y0 :: y1 :: ys) = mom p y0 y1 + momL p (y1 :: ys) := by rw [momL]
        rw [e3, e4]
        refine ⟨by grind, ?_⟩
        rintro (⟨h, h'⟩ | ⟨e, hR, _⟩)
        · have := k2 h h'; grind
        · have hst := out_strict (t := 1) (R := R) (by decide) (by decide) hm (by rw [e]; exact hR) hy1.2 hcy
          have e1 : onQ y0 y1 1 = y1 := by unfold onQ; exact Prod.ext (by simp; grind) (by simp; grind)
          rw [e1] at hst
          have := h2 (.inl ⟨l2 hst, by rw [← e]; exact hcy⟩)
          grind
def tq (a b c : Q2) : Rat := cq (b.1 - a.1, b.2 - a.2) (c.1 - a.1, c.2 - a.2)
theorem tq_cyc (a b c : Q2) : tq a b c = tq b c a := by unfold tq cq; grind
theorem tq_aab (a b : Q2) : tq a a b = 0 := by unfold tq cq; grind
theorem tq_abb (a b : Q2) : tq a b b = 0 := by unfold tq cq; grind
theorem tq_aba (a b : Q2) : tq a b a = 0 := by unfold tq cq; grind
def sumQ (f : Nat → Rat) (a : Nat) : Nat → Rat
  | 0 => 0
  | m + 1 => sumQ f a m + f (a + m)
theorem sumQ_next (f : Nat → Rat) (a : Nat) : ∀ m, sumQ f (a + 1) m = sumQ f a m + f (a + m) - f a
  | 0 => by simp [sumQ]; grind
  | m + 1 => by
    have ih := sumQ_next f a m
    simp only [sumQ]
    rw [ih, show a + 1 + m = a + (m + 1) by omega]; grind
theorem sumQ_shift {f : Nat → Rat} {n : Nat} (h : ∀ k, f (k + n) = f k) : ∀ a, sumQ f a n = sumQ f 0 n
  | 0 => rfl
  | a + 1 => by rw [sumQ_next, sumQ_shift h a, h]; grind
theorem sumQ_split (f : Nat → Rat) (a m : Nat) : ∀ k, sumQ f a (m + k) = sumQ f a m + sumQ f (a + m) k
  | 0 => by simp [sumQ]; grind
  | k + 1 => by
    have ih := sumQ_split f a m k
    rw [show m + (k + 1) = (m + k) + 1 by omega]
    simp only [sumQ]
    rw [ih, show a + m + k = a + (m + k) by omega]; grind
theorem sumQ_head (f : Nat → Rat) (a m : Nat) : sumQ f a (m + 1) = f a + sumQ f (a + 1) m := by
  rw [Nat.add_comm, sumQ_split]; simp [sumQ]; grind
/-- a hull round the origin, its corners in endless turns -/
structure Ring (n : Nat) (V : Nat → Q2) : Prop where
  n3 : 3 ≤ n
  per : ∀ k, V (k + n) = V k
  pos : ∀ k, 0 < cq (V k) (V (k + 1))
  left : ∀ k j, k + 1 < j → j < k + n → 0 < tq (V k) (V (k + 1)) (V j)
  cen : ∀ p, sumQ (fun k => mom p (V k) (V (k + 1))) 0 n = 0
theorem Ring.conv {n : Nat} {V : Nat → Q2} (h : Ring n V) {i j : Nat} (hij : i < j) : ∀ d : Nat, j + 1 + d < i + n → 0 < tq (V i) (V j) (V (j + 1 + d))
  | 0, hk => by
    have := h.left j (i + n) (by omega) (by omega)
    rw [h.per, ← tq_cyc] at this
    exact this
  | d + 1, hk => by
    have ih := h.conv hij d (by omega)
    rcases Classical.em (j = i + 1) with e | e
    · subst e
      exact h.left i (i + 1 + 1 + (d + 1)) (by omega) (by omega)
    have h1 := h.left i j (by omega) (by omega)
    have h2 := h.left i (j + 1 + d) (by omega) (by omega)
    have h3 := h.left i (j + 1 + (d + 1)) (by omega) (by omega)
    have h4 := h.left (j + 1 + d) (i + n) (by omega) (by omega)
    rw [h.per, ← tq_cyc] at h4
    rw [show j + 1 + d + 1 = j + 1 + (d + 1) by omega] at h4
    have e1 : tq (V i) (V (i + 1)) (V (j + 1 + d)) * tq (V i) (V j) (V (j + 1 + (d + 1))) = tq (V i) (V (i + 1)) (V j) * tq (V i) (V (j + 1 + d)) (V (j + 1 + (d + 1))) + tq (V i) (V (i + 1)) (V (j + 1 + (d + 1))) * tq (V i) (V j) (V (j + 1 + d)) := by
      unfold tq cq; grind
    have k1 := Rat.mul_pos h1 h4
    have k2 := Rat.mul_pos h3 ih
    refine pos_of_mul h2 ?_
    grind
theorem Ring.weak {n : Nat} {V : Nat → Q2} (h : Ring n V) {i j k : Nat} (hij : i ≤ j) (hjk : j ≤ k) (hk : k ≤ i + n) : 0 ≤ tq (V i) (V j) (V k) := by
  rcases Classical.em (i = j) with e | e
  · subst e; rw [tq_aab]; exact Rat.le_refl
  rcases Classical.em (j = k) with e2 | e2
  · subst e2; rw [tq_abb]; exact Rat.le_refl
  rcases Classical.em (k = i + n) with e3 | e3
  · subst e3; rw [h.per, tq_aba]; exact Rat.le_refl
  obtain ⟨d, rfl⟩ : ∃ d, k = j + 1 + d := ⟨k - j - 1, by omega⟩
  exact Rat.le_of_lt (h.conv (by omega) d (by omega))
/-- the corners between two opposite points of the border are on one side -/
theorem Ring.side {n : Nat} {V : Nat → Q2} (h : Ring n V) {a b k : Nat} {t u : Rat} {p : Q2} (ha : a + 1 ≤ k) (hb : k ≤ b) (hn : b + 1 ≤ a + n) (ht0 : 0 ≤ t) (ht1 : t ≤ 1) (hu0 : 0 ≤ u) (hu1 : u ≤ 1)
    (hp : p = onQ (V a) (V (a + 1)) t) (hm : scQ (-1) p = onQ (V b) (V (b + 1)) u) : 0 ≤ cq p (V k) := by
  have w1 := h.weak (i := a) (j := k) (k := b) (by omega) hb (by omega)
  have w2 := h.weak (i := a) (j := k) (k := b + 1) (by omega) (by omega) (by omega)
  have w3 := h.weak (i := a + 1) (j := k) (k := b) (by omega) hb (by omega)
  have w4 := h.weak (i := a + 1) (j := k) (k := b + 1) (by omega) (by omega) (by omega)
  have e1 : 2 * cq p (V k) = tq p (V k) (scQ (-1) p) := by unfold tq cq scQ; grind
  have e2 : tq p (V k) (scQ (-1) p) = (1 - t) * (1 - u) * tq (V a) (V k) (V b) + (1 - t) * u * tq (V a) (V k) (V (b + 1)) + t * (1 - u) * tq (V (a + 1)) (V k) (V b) + t * u * tq (V (a + 1)) (V k) (V (b + 1)) := by
    rw [hm, hp]; unfold tq cq onQ; grind
  have k1 := Rat.mul_nonneg (Rat.mul_nonneg (show 0 ≤ 1 - t by grind) (show 0 ≤ 1 - u by grind)) w1
  have k2 := Rat.mul_nonneg (Rat.mul_nonneg (show 0 ≤ 1 - t by grind) hu0) w2
  have k3 := Rat.mul_nonneg (Rat.mul_nonneg ht0 (show 0 ≤ 1 - u by grind)) w3
  have k4 := Rat.mul_nonneg (Rat.mul_nonneg ht0 hu0) w4
  grind
def segL (V : Nat → Q2) (c : Nat) : Nat → List Q2
  | 0 => []
  | m + 1 => V c :: segL V (c + 1) m
theorem momL_seg (p e : Q2) (V : Nat → Q2) : ∀ m c, momL p (segL V c (m + 1) ++ [e]) = sumQ (fun k => mom p (V k) (V (k + 1))) c m + mom p (V (c + m)) e
  | 0, c => by simp [segL, momL, sumQ]; grind
  | m + 1, c => by
    have ih := momL_seg p e V m (c + 1)
    rw [show c + 1 + m = c + (m + 1) by omega] at ih
    rw [sumQ_head]
    simp only [segL, List.cons_append, momL] at ih ⊢
    rw [ih]; grind
theorem outC_seg (p e : Q2) (R : Rat) (V : Nat → Q2) : ∀ m c, (∀ k, c ≤ k → k ≤ c + m → 0 ≤ cq p (V k) ∧ R ≤ dq (V k) (V k)) → (∀ k, c ≤ k → k < c + m → 0 < cq (V k) (V (k + 1)) ∧ Mono (V k) (V (k + 1))) →
    (V (c + m) = e ∨ 0 < cq (V (c + m)) e ∧ Mono (V (c + m)) e) → 0 ≤ cq p e → R ≤ dq e e → OutC p R (segL V c (m + 1) ++ [e])
  | 0, c, h1, _, h3, h4, h5 => ⟨h3, (h1 c (by omega) (by omega)).1, (h1 c (by omega) (by omega)).2, h4, h5⟩
  | m + 1, c, h1, h2, h3, h4, h5 => by
    have ih := outC_seg p e R V m (c + 1) (fun k a b => h1 k (by omega) (by omega)) (fun k a b => h2 k (by omega) (by omega)) (by rw [show c + 1 + m = c + (m + 1) by omega]; exact h3) h4 h5
    exact ⟨.inr (h2 c (by omega) (by omega)), (h1 c (by omega) (by omega)).1, (h1 c (by omega) (by omega)).2, ih⟩
theorem inC_seg (p e : Q2) (R : Rat) (V : Nat → Q2) : ∀ m c, (∀ k, c ≤ k → k ≤ c + m → 0 ≤ cq p (V k) ∧ dq (V k) (V k) ≤ R) → (∀ k, c ≤ k → k < c + m → 0 < cq (V k) (V (k + 1))) →
    (V (c + m) = e ∨ 0 < cq (V (c + m)) e) → 0 ≤ cq p e → dq e e ≤ R → InC p R (segL V c (m + 1) ++ [e])
  | 0, c, h1, _, h3, h4, h5 => ⟨h3, (h1 c (by omega) (by omega)).1, (h1 c (by omega) (by omega)).2, h4, h5⟩
  | m + 1, c, h1, h2, h3, h4, h5 => by
    have ih := inC_seg p e R V m (c + 1) (fun k a b => h1 k (by omega) (by omega)) (fun k a b => h2 k (by omega) (by omega)) (by rw [show c + 1 + m = c + (m + 1) by omega]; exact h3) h4 h5
    exact ⟨.inr (h2 c (by omega) (by omega)), (h1 c (by omega) (by omega)).1, (h1 c (by omega) (by omega)).2, ih⟩
def ngQ (a : Q2) : Q2 := scQ (-1) a
theorem ng_ng (a : Q2) : ngQ (ngQ a) = a := Prod.ext (by simp [ngQ, scQ]; grind) (by simp [ngQ, scQ]; grind)
theorem cq_ng (a b : Q2) : cq (ngQ a) (ngQ b) = cq a b := by unfold cq ngQ scQ; grind
theorem dq_ng (a : Q2) : dq (ngQ a) (ngQ a) = dq a a := by unfold dq ngQ scQ; grind
theorem mom_ng (p a b : Q2) : mom p (ngQ a) (ngQ b) = -mom p a b := by unfold mom cq ngQ scQ; grind
theorem sumQ_neg (f g : Nat → Rat) (h : ∀ k, f k = -g k) (a : Nat) : ∀ m, sumQ f a m = -sumQ g a m
  | 0 => by simp [sumQ]
  | m + 1 => by simp only [sumQ]; rw [sumQ_neg f g h a m, h]; grind
/-- a hull round its middle has no border that is farther than some distance on one side of a line, and nearer on the other one -/
theorem Ring.final {n : Nat} {V : Nat → Q2} (h : Ring n V) {a b : Nat} {t u : Rat} {p : Q2} (hab : a < b) (hba : b < a + n) (ht0 : 0 ≤ t) (ht1 : t < 1) (hu0 : 0 ≤ u) (hu1 : u ≤ 1)
    (hp : p = onQ (V a) (V (a + 1)) t) (hm : ngQ p = onQ (V b) (V (b + 1)) u)
    (hU : ∀ k, a + 1 ≤ k → k ≤ b → dq p p ≤ dq (V k) (V k)) (hL : ∀ k, b + 1 ≤ k → k ≤ a + n → dq (V k) (V k) ≤ dq p p)
    (mU : ∀ k, a + 1 ≤ k → k < b → Mono (V k) (V (k + 1))) (m1 : Mono p (V (a + 1))) (m2 : V b = ngQ p ∨ Mono (V b) (ngQ p)) : False := by
  have hpos := h.pos a
  have hposb := h.pos b
  have hcp : cq p (V (a + 1)) = (1 - t) * cq (V a) (V (a + 1)) := by rw [hp, cq_on_l, cq_self]; grind
  have hcp0 : 0 < cq p (V (a + 1)) := by rw [hcp]; exact Rat.mul_pos (by grind) hpos
  have hca : cq (V a) p = t * cq (V a) (V (a + 1)) := by rw [hp, cq_on, cq_self]; grind
  have hcb : cq (V b) (ngQ p) = u * cq (V b) (V (b + 1)) := by rw [hm, cq_on, cq_self]; grind
  have hcb2 : cq (ngQ p) (V (b + 1)) = (1 - u) * cq (V b) (V (b + 1)) := by rw [hm, cq_on_l, cq_self]; grind
  have hpp : cq p (ngQ p) = 0 := by unfold cq ngQ scQ; grind
  have hu_0 : u = 0 → V b = ngQ p := by rintro rfl; rw [hm]; exact Prod.ext (by simp [onQ]; grind) (by simp [onQ]; grind)
  have hu_1 : u = 1 → ngQ p = V (b + 1) := by rintro rfl; rw [hm]; exact Prod.ext (by simp [onQ]; grind) (by simp [onQ]; grind)
  have ht_0 : t = 0 → p = V a := by rintro rfl; rw [hp]; exact Prod.ext (by simp [onQ]; grind) (by simp [onQ]; grind)
  obtain ⟨m, rfl⟩ : ∃ m, b = a + 1 + m := ⟨b - a - 1, by omega⟩
  obtain ⟨l, hl⟩ : ∃ l, a + n = a + 1 + m + 1 + l := ⟨a + n - (a + 1 + m + 1), by omega⟩
  -- the far side
  have oU := outC_seg p (ngQ p) (dq p p) V m (a + 1) (fun k k1 k2 => ⟨h.side (b := a + 1 + m) k1 k2 (by omega) ht0 (Rat.le_of_lt ht1) hu0 hu1 hp hm, hU k k1 k2⟩) (fun k k1 k2 => ⟨h.pos k, mU k k1 k2⟩)
    (by
      rcases m2 with e | e
      · exact .inl e
      · rcases Classical.em (u = 0) with e0 | e0
        · exact .inl (hu_0 e0)
        · exact .inr ⟨by rw [hcb]; exact Rat.mul_pos (by grind) hposb, e⟩) (by rw [hpp]; exact Rat.le_refl) (by rw [dq_ng]; exact Rat.le_refl)
  have oU2 : OutC p (dq p p) (p :: (segL V (a + 1) (m + 1) ++ [ngQ p])) := ⟨.inr ⟨hcp0, m1⟩, by rw [cq_self]; exact Rat.le_refl, Rat.le_refl, oU⟩
  -- the near side, turned by half a turn
  have hVl : V (a + 1 + m + 1 + l) = V a := by rw [← hl, h.per]
  have iL := inC_seg p (ngQ p) (dq p p) (fun k => ngQ (V k)) l (a + 1 + m + 1) (fun k k1 k2 => by
      have hs := h.side (a := a + 1 + m) (b := a + n) (k := k) (t := u) (u := t) (p := ngQ p) (by omega) (by omega) (by omega) hu0 hu1 ht0 (Rat.le_of_lt ht1) hm (by
        have e1 := h.per a
        have e2 := h.per (a + 1)
        rw [show a + 1 + n = a + n + 1 by omega] at e2
        rw [e1, e2, ← hp]; exact ng_ng p)
      refine ⟨?_, by rw [dq_ng]; exact hL k k1 (by omega)⟩
      have : cq p (ngQ (V k)) = cq (ngQ p) (V k) := by unfold cq ngQ scQ; grind
      rw [this]; exact hs) (fun k k1 k2 => by rw [cq_ng]; exact h.pos k)
    (by
      rw [hVl]
      rcases Classical.em (t = 0) with e0 | e0
      · exact .inl (by rw [← ht_0 e0])
      · exact .inr (by rw [cq_ng, hca]; exact Rat.mul_pos (by grind) hpos)) (by rw [hpp]; exact Rat.le_refl) (by rw [dq_ng]; exact Rat.le_refl)
  have iL2 : InC p (dq p p) (p :: (segL (fun k => ngQ (V k)) (a + 1 + m + 1) (l + 1) ++ [ngQ p])) := by
    refine ⟨?_, by rw [cq_self]; exact Rat.le_refl, Rat.le_refl, iL⟩
    rcases Classical.em (u = 1) with e0 | e0
    · exact .inl (by show p = ngQ (V (a + 1 + m + 1)); rw [← hu_1 e0, ng_ng])
    · refine .inr ?_
      show 0 < cq p (ngQ (V (a + 1 + m + 1)))
      have : cq p (ngQ (V (a + 1 + m + 1))) = cq (ngQ p) (V (a + 1 + m + 1)) := by unfold cq ngQ scQ; grind
      rw [this, hcb2]; exact Rat.mul_pos (by grind) hposb
  have key := (sweep p (dq p p) _ p p (segL (fun k => ngQ (V k)) (a + 1 + m + 1) (l + 1) ++ [ngQ p]) (segL V (a + 1) (m + 1) ++ [ngQ p]) 1 (Nat.le_refl _) (by decide) (by decide) (Prod.ext (by simp [scQ]) (by simp [scQ])) iL2 oU2
    (by rw [← List.cons_append, List.getLast?_append]; simp [ngQ]) (by rw [← List.cons_append, List.getLast?_append]; simp [ngQ])).2 (.inr ⟨rfl, rfl, V (a + 1), segL V (a + 1 + 1) m ++ [ngQ p], rfl, hcp0⟩)
  -- the moments
  have c0 := h.cen p
  have c1 := sumQ_shift (f := fun k => mom p (V k) (V (k + 1))) (n := n) (fun k => by
    have e1 := h.per k
    have e2 := h.per (k + 1)
    rw [show k + 1 + n = k + n + 1 by omega] at e2
    rw [e1, e2]) a
  rw [c0] at c1
  have hn : n = (1 + m) + (1 + l) + 0 := by omega
  have c2 : sumQ (fun k => mom p (V k) (V (k + 1))) a n = mom p (V a) (V (a + 1)) + sumQ (fun k => mom p (V k) (V (k + 1))) (a + 1) m + (mom p (V (a + 1 + m)) (V (a + 1 + m + 1)) + sumQ (fun k => mom p (V k) (V (k + 1))) (a + 1 + m + 1) l) := by
    rw [hn, Nat.add_zero, sumQ_split, Nat.add_comm 1 m, sumQ_head, Nat.add_comm 1 l, sumQ_head, show a + (m + 1) = a + 1 + m by omega]
  have e1 : momL p (p :: (segL V (a + 1) (m + 1) ++ [ngQ p])) = mom p p (V (a + 1)) + (sumQ (fun k => mom p (V k) (V (k + 1))) (a + 1) m + mom p (V (a + 1 + m)) (ngQ p)) := by
    rw [← momL_seg]; rfl
  have e2 : momL p (p :: (segL (fun k => ngQ (V k)) (a + 1 + m + 1) (l + 1) ++ [ngQ p])) = mom p p (ngQ (V (a + 1 + m + 1))) + (sumQ (fun k => mom p (ngQ (V k)) (ngQ (V (k + 1)))) (a + 1 + m + 1) l + mom p (ngQ (V (a + 1 + m + 1 + l))) (ngQ p)) := by
    rw [← momL_seg p (ngQ p) (fun k => ngQ (V k))]; rfl
  have e3 : mom p p (ngQ (V (a + 1 + m + 1))) = -mom p (ngQ p) (V (a + 1 + m + 1)) := by rw [← mom_ng, ng_ng]
  have e4 := sumQ_neg (fun k => mom p (ngQ (V k)) (ngQ (V (k + 1)))) (fun k => mom p (V k) (V (k + 1))) (fun k => mom_ng p (V k) (V (k + 1))) (a + 1 + m + 1) l
  have s1 := mom_split p (V a) (V (a + 1)) t
  have s2 := mom_split p (V (a + 1 + m)) (V (a + 1 + m + 1)) u
  rw [← hp] at s1
  rw [← hm] at s2
  rw [e1, e2, e3, e4, hVl, mom_ng] at key
  rw [c2] at c1
  grind
def Inc (a b : Q2) : Prop := 0 ≤ dq a b - dq a a
def Dec (a b : Q2) : Prop := dq b b - dq a b ≤ 0
def dif (a b : Q2) : Q2 := (b.1 - a.1, b.2 - a.2)
theorem dist_pos {a b : Q2} (hc : 0 < cq a b) : 0 < dq (dif a b) (dif a b) := by
  rcases Classical.em (0 < dq (dif a b) (dif a b)) with k | k
  · exact k
  · exfalso
    have k1 := sqQ_nonneg (b.1 - a.1)
    have k2 := sqQ_nonneg (b.2 - a.2)
    have k0 : dq (dif a b) (dif a b) = (b.1 - a.1) * (b.1 - a.1) + (b.2 - a.2) * (b.2 - a.2) := by unfold dq dif; grind
    have k3 : (b.1 - a.1) * (b.1 - a.1) = 0 := by grind
    have k4 : (b.2 - a.2) * (b.2 - a.2) = 0 := by grind
    have k5 : b.1 - a.1 = 0 := by rcases Rat.mul_eq_zero.1 k3 with k | k <;> exact k
    have k6 : b.2 - a.2 = 0 := by rcases Rat.mul_eq_zero.1 k4 with k | k <;> exact k
    have : cq a b = 0 := by unfold cq; grind
    grind
theorem inc_lt {a b : Q2} {t r : Rat} (h : Inc a b) (hc : 0 < cq a b) (h0 : 0 ≤ t) (hr : t < r) : dq (onQ a b t) (onQ a b t) < dq (onQ a b r) (onQ a b r) := by
  have hd := dist_pos hc
  have e : dq (onQ a b r) (onQ a b r) = dq (onQ a b t) (onQ a b t) + (r - t) * (2 * (dq a b - dq a a) + (r + t) * dq (dif a b) (dif a b)) := by unfold dq onQ dif; grind
  unfold Inc at h
  have k1 := Rat.mul_pos (show 0 < r + t by grind) hd
  have k2 := Rat.mul_pos (show 0 < r - t by grind) (show 0 < 2 * (dq a b - dq a a) + (r + t) * dq (dif a b) (dif a b) by grind)
  grind
theorem onQ_0 (a b : Q2) : onQ a b 0 = a := Prod.ext (by simp [onQ]; grind) (by simp [onQ]; grind)
theorem onQ_1 (a b : Q2) : onQ a b 1 = b := Prod.ext (by simp [onQ]; grind) (by simp [onQ]; grind)
theorem inc_end {a b : Q2} (h : Inc a b) (hc : 0 < cq a b) : dq a a < dq b b := by
  have := inc_lt (t := 0) (r := 1) h hc (by decide) (by decide)
  rwa [onQ_0, onQ_1] at this
theorem dec_le {a b : Q2} {t r : Rat} (h : Dec a b) (ht : t ≤ r) (hr : r ≤ 1) : dq (onQ a b r) (onQ a b r) ≤ dq (onQ a b t) (onQ a b t) := by
  have hd := dq_nonneg (dif a b)
  have e : dq (onQ a b t) (onQ a b t) = dq (onQ a b r) (onQ a b r) + (r - t) * (2 * -(dq b b - dq a b) + ((1 - r) + (1 - t)) * dq (dif a b) (dif a b)) := by unfold dq onQ dif; grind
  unfold Dec at h
  have k1 := Rat.mul_nonneg (show 0 ≤ (1 - r) + (1 - t) by grind) hd
  have k2 := Rat.mul_nonneg (show 0 ≤ r - t by grind) (show 0 ≤ 2 * -(dq b b - dq a b) + ((1 - r) + (1 - t)) * dq (dif a b) (dif a b) by grind)
  grind
theorem dec_end {a b : Q2} (h : Dec a b) (hc : 0 < cq a b) : dq b b < dq a a := by
  have hd := dist_pos hc
  have e : dq a a = dq b b + 2 * -(dq b b - dq a b) + dq (dif a b) (dif a b) := by unfold dq dif; grind
  unfold Dec at h
  grind
theorem dec_on {a b : Q2} {t : Rat} (h : Dec a b) (h0 : 0 ≤ t) (h1 : t ≤ 1) : Dec a (onQ a b t) := by
  have hd := dq_nonneg (dif a b)
  have e : dq (onQ a b t) (onQ a b t) - dq a (onQ a b t) = t * ((dq b b - dq a b) - (1 - t) * dq (dif a b) (dif a b)) := by unfold dq onQ dif; grind
  unfold Dec at *
  have k1 := Rat.mul_nonneg (show 0 ≤ 1 - t by grind) hd
  have k2 := Rat.mul_nonneg h0 (show 0 ≤ -((dq b b - dq a b) - (1 - t) * dq (dif a b) (dif a b)) by grind)
  grind
theorem Ring.noDI {n : Nat} {V : Nat → Q2} (h : Ring n V) {k : Nat} (hd : Dec (V k) (V (k + 1))) (hi : Inc (V (k + 1)) (V (k + 2))) : False := by
  have ht := h.left k (k + 2) (by omega) (by have := h.n3; omega)
  have c1 := h.pos k
  have c2 := h.pos (k + 1)
  have n1 := (dq_pos_of_cq c1).2
  have e : tq (V k) (V (k + 1)) (V (k + 2)) * dq (V (k + 1)) (V (k + 1)) = cq (V (k + 1)) (V (k + 2)) * (dq (V (k + 1)) (V (k + 1)) - dq (V k) (V (k + 1))) - cq (V k) (V (k + 1)) * (dq (V (k + 1)) (V (k + 2)) - dq (V (k + 1)) (V (k + 1))) := by
    unfold tq cq dq; grind
  unfold Inc at hi
  unfold Dec at hd
  have k1 := Rat.mul_nonneg (Rat.le_of_lt c2) (show 0 ≤ -(dq (V (k + 1)) (V (k + 1)) - dq (V k) (V (k + 1))) by grind)
  have k2 := Rat.mul_nonneg (Rat.le_of_lt c1) hi
  have k3 := Rat.mul_pos ht n1
  grind
/-- sides that go away, then sides that come nearer -/
theorem Ring.top {n : Nat} {V : Nat → Q2} (h : Ring n V) {s : Nat} : ∀ m, (∀ k, s < k → k ≤ s + m → Mono (V k) (V (k + 1))) →
    ∃ T, T ≤ m ∧ (∀ k, s + 1 ≤ k → k ≤ s + T → Inc (V k) (V (k + 1))) ∧ (∀ k, s + T + 1 ≤ k → k ≤ s + m → Dec (V k) (V (k + 1)))
  | 0, _ => ⟨0, by omega, fun k _ _ => by omega, fun k _ _ => by omega⟩
  | m + 1, hm => by
    obtain ⟨T, h1, h2, h3⟩ := h.top (s := s) m (fun k a b => hm k a (by omega))
    rcases hm (s + m + 1) (by omega) (by omega) with hi | hd
    · rcases Nat.lt_or_ge T m with hT | hT
      · exfalso
        exact h.noDI (h3 (s + m) (by omega) (by omega)) hi
      · obtain rfl : T = m := by omega
        refine ⟨T + 1, by omega, fun k a b => ?_, fun k a b => by omega⟩
        rcases Nat.lt_or_ge k (s + T + 1) with hk | hk
        · exact h2 k a (by omega)
        · obtain rfl : k = s + T + 1 := by omega
          exact hi
    · refine ⟨T, by omega, h2, fun k a b => ?_⟩
      rcases Nat.lt_or_ge k (s + m + 1) with hk | hk
      · exact h3 k a (by omega)
      · obtain rfl : k = s + m + 1 := by omega
        exact hd
theorem clip0 (A B : Nat → Rat) (hA : ∀ k, 0 ≤ A k) : ∀ m, ∃ t, 0 ≤ t ∧ t ≤ 1 ∧ (∀ k, k < m → 0 ≤ A k + t * (B k - A k)) ∧ (t = 1 ∨ ∃ j, j < m ∧ A j + t * (B j - A j) = 0)
  | 0 => ⟨1, by decide, by decide, fun k hk => by omega, .inl rfl⟩
  | m + 1 => by
    obtain ⟨t, h0, h1, h2, h3⟩ := clip0 A B hA m
    rcases Classical.em (0 ≤ A m + t * (B m - A m)) with h | h
    · refine ⟨t, h0, h1, fun k hk => ?_, ?_⟩
      · rcases Nat.lt_or_ge k m with h' | h'
        · exact h2 k h'
        · obtain rfl : k = m := by omega
          exact h
      · rcases h3 with e | ⟨j, hj, e⟩
        · exact .inl e
        · exact .inr ⟨j, by omega, e⟩
    · have ha := hA m
      have hden : 0 < A m - (A m + t * (B m - A m)) := by grind
      obtain ⟨r, hr⟩ := div_ex (t * A m) (A m - (A m + t * (B m - A m))) hden
      have hr0 : 0 ≤ r := by
        have := Rat.mul_nonneg h0 ha
        refine le_of_mul hden ?_
        rw [hr]; grind
      have hrt : r ≤ t := by
        refine le_of_mul hden ?_
        have := Rat.mul_nonneg h0 (show 0 ≤ -(A m + t * (B m - A m)) by grind)
        rw [hr]; grind
      have hz : A m + r * (B m - A m) = 0 := by
        have htp : t ≠ 0 := by rintro rfl; grind
        have e1 : t * (A m + r * (B m - A m)) = 0 := by grind
        rcases Rat.mul_eq_zero.1 e1 with e | e
        · exact absurd e htp
        · exact e
      refine ⟨r, hr0, by grind, fun k hk => ?_, .inr ⟨m, by omega, hz⟩⟩
      rcases Nat.lt_or_ge k m with h' | h'
      · have k1 := h2 k h'
        have k2 := hA k
        rcases Classical.em (0 ≤ B k - A k) with hs | hs
        · have := Rat.mul_nonneg hr0 hs; grind
        · have := Rat.mul_nonneg (show 0 ≤ t - r by grind) (show 0 ≤ -(B k - A k) by grind); grind
      · obtain rfl : k = m := by omega
        rw [hz]; exact Rat.le_refl
theorem clip (A B : Nat → Rat) (m : Nat) (hA : ∀ k, 0 ≤ A k) (hB : ∃ k, k < m ∧ B k < 0) : ∃ t, 0 ≤ t ∧ t < 1 ∧ (∀ k, k < m → 0 ≤ A k + t * (B k - A k)) ∧ ∃ j, j < m ∧ A j + t * (B j - A j) = 0 := by
  obtain ⟨t, h0, h1, h2, h3⟩ := clip0 A B hA m
  obtain ⟨k, hk, hkB⟩ := hB
  have hk2 := h2 k hk
  have ht : t < 1 := by
    rcases Classical.em (t < 1) with h | h
    · exact h
    · have : t = 1 := by grind
      subst this; grind
  refine ⟨t, h0, ht, h2, ?_⟩
  rcases h3 with e | h3
  · grind
  · exact h3
/-- how far a point is to the left of a side -/
def sd (V : Nat → Q2) (k : Nat) (x : Q2) : Rat := tq (V k) (V (k + 1)) x
theorem sd_on (V : Nat → Q2) (k : Nat) (a b : Q2) (t : Rat) : sd V k (ngQ (onQ a b t)) = sd V k (ngQ a) + t * (sd V k (ngQ b) - sd V k (ngQ a)) := by unfold sd tq cq ngQ scQ onQ; grind
/-- a point that is in the hull and on the line of a side is on the side -/
theorem Ring.onside {n : Nat} {V : Nat → Q2} (h : Ring n V) {j : Nat} {y : Q2} (h0 : sd V (j + 1) y = 0) (h1 : 0 ≤ sd V (j + 2) y) (h2 : 0 ≤ sd V j y) : ∃ u, 0 ≤ u ∧ u ≤ 1 ∧ y = onQ (V (j + 1)) (V (j + 2)) u := by
  have hd := dist_pos (h.pos (j + 1))
  have n3 := h.n3
  have t1 := h.left j (j + 2) (by omega) (by omega)
  have t2 := h.left (j + 1) (j + 3) (by omega) (by omega)
  simp only [show j + 1 + 1 = j + 2 from rfl] at hd t1 t2
  unfold sd at h0 h1 h2
  simp only [show j + 1 + 1 = j + 2 from rfl, show j + 2 + 1 = j + 3 from rfl] at h0 h1 h2
  generalize V j = A at *
  generalize V (j + 1) = B at *
  generalize V (j + 2) = C at *
  generalize V (j + 3) = D at *
  obtain ⟨u, hu⟩ := div_ex (dq (dif B y) (dif B C)) (dq (dif B C) (dif B C)) hd
  have e1 : dq (dif B C) (dif B C) * y.1 = dq (dif B C) (dif B C) * (B.1 + u * (C.1 - B.1)) := by
    have : dq (dif B C) (dif B C) * (y.1 - B.1) = dq (dif B y) (dif B C) * (C.1 - B.1) - tq B C y * (C.2 - B.2) := by unfold dq dif tq cq; grind
    rw [h0, ← hu] at this
    grind
  have e2 : dq (dif B C) (dif B C) * y.2 = dq (dif B C) (dif B C) * (B.2 + u * (C.2 - B.2)) := by
    have : dq (dif B C) (dif B C) * (y.2 - B.2) = dq (dif B y) (dif B C) * (C.2 - B.2) + tq B C y * (C.1 - B.1) := by unfold dq dif tq cq; grind
    rw [h0, ← hu] at this
    grind
  have ey : y = onQ B C u := Prod.ext (by show y.1 = B.1 + u * (C.1 - B.1); grind) (by show y.2 = B.2 + u * (C.2 - B.2); grind)
  refine ⟨u, ?_, ?_, ey⟩
  · have : tq A B y = u * tq A B C := by rw [ey]; unfold tq cq onQ; grind
    refine le_of_mul t1 ?_
    rw [← this]; grind
  · have : tq C D y = (1 - u) * tq B C D := by rw [ey]; unfold tq cq onQ; grind
    have : 0 ≤ 1 - u := by
      refine le_of_mul t2 ?_
      rw [← this]; grind
    grind
section nodes
variable {Z : Nat → Q2} {T : Nat} (hE : ∀ i, i ≤ T → Inc (Z i) (Z (i + 1)) ∧ 0 < cq (Z i) (Z (i + 1)))
include hE
theorem node_le {i : Nat} : ∀ d, i + d ≤ T + 1 → dq (Z i) (Z i) ≤ dq (Z (i + d)) (Z (i + d))
  | 0, _ => Rat.le_refl
  | d + 1, hd => by
    have ih := node_le (i := i) d (by omega)
    obtain ⟨h1, h2⟩ := hE (i + d) (by omega)
    have := inc_end h1 h2
    rw [show i + d + 1 = i + (d + 1) by omega] at this
    grind
theorem node_le' {i j : Nat} (h : i ≤ j) (hj : j ≤ T + 1) : dq (Z i) (Z i) ≤ dq (Z j) (Z j) := by
  have := node_le hE (i := i) (j - i) (by omega)
  rwa [show i + (j - i) = j by omega] at this
theorem node_lt {i j : Nat} (h : i < j) (hj : j ≤ T + 1) : dq (Z i) (Z i) < dq (Z j) (Z j) := by
  obtain ⟨h1, h2⟩ := hE i (by omega)
  have k1 := inc_end h1 h2
  have k2 := node_le' hE (i := i + 1) (j := j) (by omega) hj
  grind
theorem on_lo {i : Nat} {t : Rat} (hi : i ≤ T) (h0 : 0 ≤ t) : dq (Z i) (Z i) ≤ dq (onQ (Z i) (Z (i + 1)) t) (onQ (Z i) (Z (i + 1)) t) ∧ (0 < t → dq (Z i) (Z i) < dq (onQ (Z i) (Z (i + 1)) t) (onQ (Z i) (Z (i + 1)) t)) := by
  obtain ⟨h1, h2⟩ := hE i hi
  have k : 0 < t → dq (Z i) (Z i) < dq (onQ (Z i) (Z (i + 1)) t) (onQ (Z i) (Z (i + 1)) t) := by
    intro h
    have := inc_lt (t := 0) (r := t) h1 h2 (by decide) h
    rwa [onQ_0] at this
  refine ⟨?_, k⟩
  rcases Classical.em (t = 0) with e | e
  · subst e; rw [onQ_0]; exact Rat.le_refl
  · exact Rat.le_of_lt (k (by grind))
theorem on_hi {i : Nat} {t : Rat} (hi : i ≤ T) (h0 : 0 ≤ t) (h1' : t ≤ 1) : dq (onQ (Z i) (Z (i + 1)) t) (onQ (Z i) (Z (i + 1)) t) ≤ dq (Z (i + 1)) (Z (i + 1)) ∧ (t < 1 → dq (onQ (Z i) (Z (i + 1)) t) (onQ (Z i) (Z (i + 1)) t) < dq (Z (i + 1)) (Z (i + 1))) := by
  obtain ⟨h1, h2⟩ := hE i hi
  have k : t < 1 → dq (onQ (Z i) (Z (i + 1)) t) (onQ (Z i) (Z (i + 1)) t) < dq (Z (i + 1)) (Z (i + 1)) := by
    intro h
    have := inc_lt (t := t) (r := 1) h1 h2 h0 h
    rwa [onQ_1] at this
  refine ⟨?_, k⟩
  rcases Classical.em (t = 1) with e | e
  · subst e; rw [onQ_1]; exact Rat.le_refl
  · exact Rat.le_of_lt (k (by grind))
/-- on the way away from the middle no two points have the same distance -/
theorem on_eq {i j : Nat} {t r : Rat} (hij : i ≤ j) (hj : j ≤ T) (ht0 : 0 ≤ t) (ht1 : t ≤ 1) (hr0 : 0 ≤ r) (hr1 : r ≤ 1)
    (he : dq (onQ (Z i) (Z (i + 1)) t) (onQ (Z i) (Z (i + 1)) t) = dq (onQ (Z j) (Z (j + 1)) r) (onQ (Z j) (Z (j + 1)) r)) : onQ (Z i) (Z (i + 1)) t = onQ (Z j) (Z (j + 1)) r := by
  rcases Nat.lt_or_ge i j with h | h
  · obtain ⟨a1, a2⟩ := on_hi hE (i := i) (t := t) (by omega) ht0 ht1
    obtain ⟨b1, b2⟩ := on_lo hE (i := j) (t := r) hj hr0
    have c := node_le' hE (i := i + 1) (j := j) (by omega) (by omega)
    have e1 : t = 1 := by
      rcases Classical.em (t < 1) with k | k
      · have := a2 k; grind
      · grind
    have e2 : r = 0 := by
      rcases Classical.em (0 < r) with k | k
      · have := b2 k; grind
      · grind
    subst e1; subst e2
    rw [onQ_1, onQ_0] at he ⊢
    rcases Nat.lt_or_ge (i + 1) j with h' | h'
    · have := node_lt hE h' (by omega); grind
    · rw [show i + 1 = j by omega]
  · obtain rfl : i = j := by omega
    obtain ⟨h1, h2⟩ := hE i hj
    rcases Classical.em (t < r) with k | k
    · have := inc_lt h1 h2 ht0 k; grind
    · rcases Classical.em (r < t) with k2 | k2
      · have := inc_lt h1 h2 hr0 k2; grind
      · rw [show t = r by grind]
end nodes
theorem cross (P : Nat → Prop) (h0 : P 0) : ∀ T, ¬P (T + 1) → ∃ i, i ≤ T ∧ P i ∧ ¬P (i + 1)
  | 0, h => ⟨0, by omega, h0, h⟩
  | T + 1, h => by
    rcases Classical.em (P (T + 1)) with k | k
    · exact ⟨T + 1, by omega, k, h⟩
    · obtain ⟨i, a, b⟩ := cross P h0 T k
      exact ⟨i, by omega, b⟩
theorem least (f : Nat → Rat) : ∀ m, ∃ j, j < m + 1 ∧ ∀ k, k < m + 1 → f j ≤ f k
  | 0 => ⟨0, by omega, fun k hk => by rw [show k = 0 by omega]; exact Rat.le_refl⟩
  | m + 1 => by
    obtain ⟨j, hj, h⟩ := least f m
    rcases Classical.em (f j ≤ f (m + 1)) with k | k
    · refine ⟨j, by omega, fun i hi => ?_⟩
      rcases Nat.lt_or_ge i (m + 1) with h' | h'
      · exact h i h'
      · rw [show i = m + 1 by omega]; exact k
    · refine ⟨m + 1, by omega, fun i hi => ?_⟩
      rcases Nat.lt_or_ge i (m + 1) with h' | h'
      · have := h i h'; grind
      · rw [show i = m + 1 by omega]; exact Rat.le_refl
theorem Ring.perM {n : Nat} {V : Nat → Q2} (h : Ring n V) (k : Nat) : ∀ m, V (k + n * m) = V k
  | 0 => rfl
  | m + 1 => by rw [Nat.mul_succ, ← Nat.add_assoc, h.per, h.perM k m]
theorem Ring.mod {n : Nat} {V : Nat → Q2} (h : Ring n V) (k : Nat) : V k = V (k % n) := by
  have := h.perM (k % n) (k / n)
  rw [Nat.mod_add_div] at this
  exact this
theorem Ring.same {n : Nat} {V : Nat → Q2} (h : Ring n V) {a b : Nat} (e : a % n = b % n) : V a = V b := by rw [h.mod a, e, ← h.mod b]
theorem Ring.sd_mod {n : Nat} {V : Nat → Q2} (h : Ring n V) {a b : Nat} (e : a % n = b % n) (x : Q2) : sd V a x = sd V b x := by
  unfold sd
  rw [h.same e, h.same (a := a + 1) (b := b + 1) (by rw [Nat.add_mod, e, ← Nat.add_mod])]
/-- a hull round its middle has a second side with the foot inside -/
theorem Ring.two {n : Nat} {V : Nat → Q2} (h : Ring n V) {s : Nat} {τ : Rat} {q : Q2} (hτ0 : 0 < τ) (hτ1 : τ < 1) (hq : q = onQ (V s) (V (s + 1)) τ) (hf1 : dq q (V s) = dq q q) (hf2 : dq q (V (s + 1)) = dq q q)
    (hmono : ∀ k, s < k → k < s + n → Mono (V k) (V (k + 1))) (hlow : ∀ k, dq q q * dq (dif (V k) (V (k + 1))) (dif (V k) (V (k + 1))) ≤ cq (V k) (V (k + 1)) * cq (V k) (V (k + 1))) : False := by
  have n3 := h.n3
  obtain ⟨T, hT, hI, hD⟩ := h.top (s := s) (n - 1) (fun k a b => hmono k a (by omega))
  have hcs := h.pos s
  have hqs : cq q (V (s + 1)) = (1 - τ) * cq (V s) (V (s + 1)) := by rw [hq, cq_on_l, cq_self]; grind
  have hsq : cq (V s) q = τ * cq (V s) (V (s + 1)) := by rw [hq, cq_on, cq_self]; grind
  have hqs0 : 0 < cq q (V (s + 1)) := by rw [hqs]; exact Rat.mul_pos (by grind) hcs
  have hsq0 : 0 < cq (V s) q := by rw [hsq]; exact Rat.mul_pos hτ0 hcs
  obtain ⟨Z, hZ0, hZ1⟩ : ∃ Z : Nat → Q2, Z 0 = q ∧ ∀ i, Z (i + 1) = V (s + i + 1) := ⟨fun i => if i = 0 then q else V (s + i), rfl, fun i => by simp [Nat.add_assoc]⟩
  have hE : ∀ i, i ≤ T → Inc (Z i) (Z (i + 1)) ∧ 0 < cq (Z i) (Z (i + 1)) := by
    intro i hi
    cases i with
    | zero => rw [hZ0, hZ1]; exact ⟨by unfold Inc; rw [Nat.add_zero]; grind, hqs0⟩
    | succ i => rw [hZ1, hZ1]; exact ⟨hI (s + i + 1) (by omega) (by omega), h.pos _⟩
  have hDq : Dec (V s) q := by unfold Dec; grind [dq]
  -- distances of the corners
  have hVI : ∀ k, s + 1 ≤ k → k ≤ s + T + 1 → V k = Z (k - s) := fun k a b => by
    obtain ⟨i, rfl⟩ : ∃ i, k = s + i + 1 := ⟨k - s - 1, by omega⟩
    rw [show s + i + 1 - s = i + 1 by omega, hZ1]
  have hVD : ∀ d k, s + T + 1 ≤ k → k + d ≤ s + n → dq (V (k + d)) (V (k + d)) ≤ dq (V k) (V k) := by
    intro d
    induction d with
    | zero => intro k _ _; exact Rat.le_refl
    | succ d ih =>
      intro k a b
      have k1 := ih k a (by omega)
      have k2 := dec_end (hD (k + d) (by omega) (by omega)) (h.pos _)
      rw [show k + d + 1 = k + (d + 1) by omega] at k2
      grind
  have hVD' : ∀ i j, s + T + 1 ≤ i → i ≤ j → j ≤ s + n → dq (V j) (V j) ≤ dq (V i) (V i) := fun i j a b c => by
    have := hVD (j - i) i a (by omega)
    rwa [show i + (j - i) = j by omega] at this
  obtain ⟨M, hM⟩ : ∃ M, V (s + T + 1) = M := ⟨_, rfl⟩
  have hMp : 0 < dq M M := by rw [← hM]; exact (dq_pos_of_cq (h.pos _)).1
  have hmax : ∀ k, s + 1 ≤ k → k ≤ s + n → V k = M ∨ dq (V k) (V k) < dq M M := by
    intro k a b
    rcases Nat.lt_trichotomy k (s + T + 1) with h' | h' | h'
    · right
      rw [← hM, hVI k a (by omega), hVI (s + T + 1) (by omega) (by omega)]
      exact node_lt hE (by omega) (by omega)
    · left; rw [h', hM]
    · right
      have k1 := dec_end (hD (s + T + 1) (by omega) (by omega)) (h.pos _)
      have k2 := hVD' (s + T + 2) k (by omega) (by omega) b
      rw [hM] at k1
      grind
  -- the nearest point's opposite is in the hull
  have hin0 : ∀ k, 0 ≤ sd V k (ngQ (Z 0)) := by
    intro k
    rw [hZ0]
    have e : sd V k (ngQ q) = cq (V k) (V (k + 1)) - cq (dif (V k) (V (k + 1))) q := by unfold sd tq cq ngQ scQ dif; grind
    have e2 : cq (dif (V k) (V (k + 1))) q * cq (dif (V k) (V (k + 1))) q = dq q q * dq (dif (V k) (V (k + 1))) (dif (V k) (V (k + 1))) - dq (dif (V k) (V (k + 1))) q * dq (dif (V k) (V (k + 1))) q := by
      generalize dif (V k) (V (k + 1)) = d
      unfold cq dq; grind
    have e3 := hlow k
    have e4 := sqQ_nonneg (dq (dif (V k) (V (k + 1))) q)
    have e5 := h.pos k
    rw [e]
    rcases Classical.em (cq (dif (V k) (V (k + 1))) q ≤ cq (V k) (V (k + 1))) with k0 | k0
    · grind
    · exfalso
      have := Rat.mul_pos (show 0 < cq (dif (V k) (V (k + 1))) q - cq (V k) (V (k + 1)) by grind) (show 0 < cq (dif (V k) (V (k + 1))) q + cq (V k) (V (k + 1)) by grind)
      grind
  -- that of the farthest one isn't
  have hout : ¬ ∀ k, 0 ≤ sd V k (ngQ (Z (T + 1))) := by
    intro hk
    rw [hZ1, hM] at hk
    obtain ⟨j, hj, hmin⟩ := least (fun k => dq (V (s + 2 + k)) M) (n - 1)
    have hA := hk (s + 1 + j)
    have hB := hk (s + 2 + j)
    have ht := h.left (s + 1 + j) (s + 3 + j) (by omega) (by omega)
    have m1 : dq (V (s + 2 + j)) M ≤ dq (V (s + 1 + j)) M := by
      rcases Nat.eq_zero_or_pos j with e | e
      · have := hmin (n - 1) (by omega)
        rw [show s + 2 + (n - 1) = s + 1 + j + n by omega, h.per] at this
        exact this
      · have := hmin (j - 1) (by omega)
        rw [show s + 2 + (j - 1) = s + 1 + j by omega] at this
        exact this
    have m2 : dq (V (s + 2 + j)) M ≤ dq (V (s + 3 + j)) M := by
      rcases Nat.lt_or_ge (j + 1) n with e | e
      · have := hmin (j + 1) (by omega)
        rw [show s + 2 + (j + 1) = s + 3 + j by omega] at this
        exact this
      · have := hmin 0 (by omega)
        rw [show s + 3 + j = s + 2 + 0 + n by omega, h.per]
        exact this
    have hB2 : V (s + 2 + j) = M ∨ dq (V (s + 2 + j)) (V (s + 2 + j)) < dq M M := by
      rcases Nat.lt_or_ge (j + 1) n with e | e
      · exact hmax (s + 2 + j) (by omega) (by omega)
      · rw [show s + 2 + j = s + 1 + n by omega, h.per]
        exact hmax (s + 1) (by omega) (by omega)
    unfold sd at hA hB
    rw [show s + 1 + j + 1 = s + 2 + j by omega] at hA ht
    rw [show s + 2 + j + 1 = s + 3 + j by omega] at hB
    generalize V (s + 1 + j) = A at *
    generalize V (s + 2 + j) = B at *
    generalize V (s + 3 + j) = C at *
    have e1 : tq A B C * (dq (ngQ M) M - dq B M) = tq B C (ngQ M) * (dq A M - dq B M) + tq A B (ngQ M) * (dq C M - dq B M) := by
      generalize ngQ M = y
      unfold tq cq dq; grind
    have k1 := Rat.mul_nonneg hB (show 0 ≤ dq A M - dq B M by grind)
    have k2 := Rat.mul_nonneg hA (show 0 ≤ dq C M - dq B M by grind)
    have k3 : 0 ≤ dq (ngQ M) M - dq B M := by
      refine le_of_mul ht ?_
      grind
    have k4 : dq (ngQ M) M = -dq M M := by unfold dq ngQ scQ; grind
    rcases hB2 with e | e
    · rw [e] at k3; grind
    · have k5 := dq_nonneg (B.1 + M.1, B.2 + M.2)
      have k6 : dq (B.1 + M.1, B.2 + M.2) (B.1 + M.1, B.2 + M.2) = dq B B + 2 * dq B M + dq M M := by unfold dq; grind
      grind
  -- so somewhere on the way away the opposite point is on the border
  obtain ⟨i, hi, hP, hN⟩ := cross (fun i => ∀ k, 0 ≤ sd V k (ngQ (Z i))) hin0 T hout
  have hN' : ∃ k, k < n ∧ sd V k (ngQ (Z (i + 1))) < 0 := by
    rcases Classical.em (∃ k, k < n ∧ sd V k (ngQ (Z (i + 1))) < 0) with k | k
    · exact k
    · exfalso
      refine hN (fun k' => ?_)
      rw [h.sd_mod (a := k') (b := k' % n) (by rw [Nat.mod_mod])]
      rcases Classical.em (0 ≤ sd V (k' % n) (ngQ (Z (i + 1)))) with h' | h'
      · exact h'
      · exact absurd ⟨k' % n, Nat.mod_lt _ (by omega), by grind⟩ k
  obtain ⟨t, ht0, ht1, hall, j0, hj0, hz0⟩ := clip (fun k => sd V k (ngQ (Z i))) (fun k => sd V k (ngQ (Z (i + 1)))) n hP hN'
  obtain ⟨p, hp⟩ : ∃ p, onQ (Z i) (Z (i + 1)) t = p := ⟨_, rfl⟩
  have hall' : ∀ k, 0 ≤ sd V k (ngQ p) := by
    intro k
    rw [h.sd_mod (a := k) (b := k % n) (by rw [Nat.mod_mod]), ← hp, sd_on]
    exact hall (k % n) (Nat.mod_lt _ (by omega))
  obtain ⟨j, hj1, hj2, hjm⟩ : ∃ j, s ≤ j ∧ j < s + n ∧ (j + 1) % n = j0 % n := by
    refine ⟨s + (j0 + n * (s + 1) - (s + 1)) % n, by omega, by have := Nat.mod_lt (j0 + n * (s + 1) - (s + 1)) (show 0 < n by omega); omega, ?_⟩
    rw [show s + (j0 + n * (s + 1) - (s + 1)) % n + 1 = (s + 1) + (j0 + n * (s + 1) - (s + 1)) % n by omega, Nat.add_mod_mod]
    have : s + 1 ≤ n * (s + 1) := Nat.le_mul_of_pos_left _ (by omega)
    rw [show s + 1 + (j0 + n * (s + 1) - (s + 1)) = j0 + n * (s + 1) by omega, Nat.add_mul_mod_self_left]
  have hz : sd V (j + 1) (ngQ p) = 0 := by
    rw [h.sd_mod hjm, ← hp, sd_on]; exact hz0
  obtain ⟨u, hu0, hu1, hy⟩ := h.onside hz (hall' (j + 2)) (hall' j)
  have hnp : dq (ngQ p) (ngQ p) = dq p p := dq_ng p
  have hpp : 0 < dq p p := by
    have := (hE i hi).2
    have e : cq p (Z (i + 1)) = (1 - t) * cq (Z i) (Z (i + 1)) := by rw [← hp, cq_on_l, cq_self]; grind
    exact (dq_pos_of_cq (show 0 < cq p (Z (i + 1)) by rw [e]; exact Rat.mul_pos (by grind) this)).1
  -- the opposite point isn't on the way away
  have hnot : ∀ i' r, i' ≤ T → 0 ≤ r → r ≤ 1 → ngQ p = onQ (Z i') (Z (i' + 1)) r → False := by
    intro i' r a b c e
    have e1 : p = ngQ p := by
      rcases Nat.le_total i i' with h' | h'
      · have := on_eq hE (i := i) (j := i') (t := t) (r := r) h' a ht0 (Rat.le_of_lt ht1) b c (by rw [← e, hp, hnp])
        rw [hp, ← e] at this; exact this
      · have := on_eq hE (i := i') (j := i) (t := r) (r := t) h' hi b c ht0 (Rat.le_of_lt ht1) (by rw [← e, hp, hnp])
        rw [hp, ← e] at this; exact this.symm
    have e2 : dq p p = -dq p p := by
      have : dq p (ngQ p) = -dq p p := by unfold dq ngQ scQ; grind
      rw [← e1] at this; exact this
    grind
  -- where the two points are
  have hpa : ∃ t', 0 ≤ t' ∧ t' < 1 ∧ p = onQ (V (s + i)) (V (s + i + 1)) t' := by
    cases i with
    | zero =>
      refine ⟨τ + t * (1 - τ), ?_, ?_, ?_⟩
      · have := Rat.mul_nonneg ht0 (show 0 ≤ 1 - τ by grind); grind
      · have := Rat.mul_pos (show 0 < 1 - t by grind) (show 0 < 1 - τ by grind); grind
      · rw [← hp, hZ0, hZ1, hq]; exact Prod.ext (by simp only [onQ, Nat.add_zero]; grind) (by simp only [onQ, Nat.add_zero]; grind)
    | succ i => exact ⟨t, ht0, ht1, by rw [← hp, hZ1, hZ1, show s + (i + 1) = s + i + 1 by omega]⟩
  obtain ⟨t', ht'0, ht'1, hpe⟩ := hpa
  have hm1 : Mono p (V (s + i + 1)) := by
    have := mono_on (t := t) ht0 (Rat.le_of_lt ht1) (a := Z i) (b := Z (i + 1)) (.inl (hE i hi).1)
    rwa [hp, hZ1] at this
  have hpZ := (on_lo hE (i := i) (t := t) hi ht0).1
  have hpZ1 := (on_hi hE (i := i) (t := t) hi ht0 (Rat.le_of_lt ht1)).1
  rw [hp] at hpZ hpZ1
  have hUI : ∀ k, s + i + 1 ≤ k → k ≤ s + T + 1 → dq p p ≤ dq (V k) (V k) := fun k a b => by
    rw [hVI k (by omega) b]
    have := node_le' hE (i := i + 1) (j := k - s) (by omega) (by omega)
    grind
  have hLI : ∀ k, s + n + 1 ≤ k → k ≤ s + i + n → dq (V k) (V k) ≤ dq p p := fun k a b => by
    obtain ⟨k', rfl⟩ : ∃ k', k = k' + n := ⟨k - n, by omega⟩
    rw [h.per, hVI k' (by omega) (by omega)]
    have := node_le' hE (i := k' - s) (j := i) (by omega) (by omega)
    grind
  rcases Nat.lt_or_ge (j + 1) (s + T + 1) with c1 | c1
  · refine hnot (j + 1 - s) u (by omega) hu0 hu1 ?_
    rw [← hVI (j + 1) (by omega) (by omega), show j + 1 - s + 1 = j + 2 - s by omega, ← hVI (j + 2) (by omega) (by omega)]
    exact hy
  rcases Nat.lt_or_ge (j + 1) (s + n) with c2 | c2
  · have hDj := hD (j + 1) c1 (by omega)
    have hyD := dec_le (t := 0) (r := u) hDj hu0 hu1
    have hyE := dec_le (t := u) (r := 1) hDj hu1 Rat.le_refl
    rw [onQ_0] at hyD
    rw [onQ_1] at hyE
    rw [show j + 1 + 1 = j + 2 from rfl] at hyD hyE hDj
    rw [← hy, hnp] at hyD hyE
    refine h.final (a := s + i) (b := j + 1) (t := t') (u := u) (p := p) (by omega) (by omega) ht'0 ht'1 hu0 hu1 hpe hy ?_ ?_ (fun k a b => hmono k (by omega) (by omega)) hm1 (.inr (.inr (by rw [hy]; exact dec_on hDj hu0 hu1)))
    · intro k a b
      rcases Nat.lt_or_ge k (s + T + 2) with h' | h'
      · exact hUI k a (by omega)
      · have := hVD' k (j + 1) (by omega) b (by omega)
        grind
    · intro k a b
      rcases Nat.lt_or_ge k (s + n + 1) with h' | h'
      · have := hVD' (j + 2) k (by omega) (by omega) (by omega)
        grind
      · exact hLI k h' b
  · have hjs : j + 1 = s + n := by omega
    have ev1 : V (j + 1) = V s := by rw [hjs, h.per]
    have ev2 : V (j + 2) = V (s + 1) := by rw [show j + 2 = s + 1 + n by omega, h.per]
    have hy' := hy
    rw [ev1, ev2] at hy'
    rcases Classical.em (τ ≤ u) with c3 | c3
    · obtain ⟨r, hr⟩ := div_ex (u - τ) (1 - τ) (by grind)
      have hr0 : 0 ≤ r := le_of_mul (b := 1 - τ) (by grind) (by rw [hr]; grind)
      have hr1 : r ≤ 1 := le_of_mul (b := 1 - τ) (by grind) (by rw [hr]; grind)
      refine hnot 0 r (by omega) hr0 hr1 ?_
      rw [hZ0, hZ1, hy', hq]
      have eu : u = τ + r * (1 - τ) := by grind
      rw [eu]
      exact Prod.ext (by simp only [onQ, Nat.add_zero]; grind) (by simp only [onQ, Nat.add_zero]; grind)
    · obtain ⟨r, hr⟩ := div_ex u τ hτ0
      have hr0 : 0 ≤ r := le_of_mul hτ0 (by rw [hr]; grind)
      have hr1 : r ≤ 1 := le_of_mul hτ0 (by rw [hr]; grind)
      have hyr : ngQ p = onQ (V s) q r := by
        rw [hy', hq, ← hr]
        exact Prod.ext (by simp only [onQ]; grind) (by simp only [onQ]; grind)
      have hyD := dec_le (t := 0) (r := r) hDq hr0 hr1
      rw [onQ_0, ← hyr, hnp] at hyD
      have hi0 : i ≠ 0 := by
        rintro rfl
        have e1 : cq (dif (V s) (V (s + 1))) p = -cq (V s) (V (s + 1)) := by rw [hpe]; unfold cq dif onQ; simp only [Nat.add_zero]; grind
        have e2 : cq (dif (V s) (V (s + 1))) (ngQ p) = -cq (V s) (V (s + 1)) := by rw [hy']; unfold cq dif onQ; grind
        have e3 : cq (dif (V s) (V (s + 1))) (ngQ p) = -cq (dif (V s) (V (s + 1))) p := by unfold cq ngQ scQ; grind
        grind
      refine h.final (a := s + i) (b := j + 1) (t := t') (u := u) (p := p) (by omega) (by omega) ht'0 ht'1 hu0 hu1 hpe hy ?_ ?_ (fun k a b => hmono k (by omega) (by omega)) hm1 (.inr (.inr (by rw [ev1, hyr]; exact dec_on hDq hr0 hr1)))
      · intro k a b
        rcases Nat.lt_or_ge k (s + T + 2) with h' | h'
        · exact hUI k a (by omega)
        · have k1 := hVD' k (j + 1) (by omega) b (by omega)
          rw [ev1] at k1
          grind
      · intro k a b
        exact hLI k (by omega) b
end Go.Proofs.Ytlehddifcjklgaa
