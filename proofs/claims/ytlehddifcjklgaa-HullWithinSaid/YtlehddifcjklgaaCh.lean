import Derived.Test.YtlehddifcjklgaaMD
namespace Go.Proofs.Ytlehddifcjklgaa
/-! the middle of a hull, from one of its corners: what holds of all corners holds of it -/
theorem gcdI_dvd_l (n d : Int) : gcdI n d ∣ n := by unfold gcdI; exact Int.gcd_dvd_left ..
def tri (ps : List Pt) (i : Nat) : Int := turn (ptAt ps i) (nx ps i) (ptAt ps 0)
def linF (u v w : Int) (p : Pt) : Int := u * p.1 + v * p.2 + w
theorem chk_areP {ps : List Pt} (h : chk ps = true) : areP ps = true := by
  unfold chk at h; exact (Bool.and_eq_true _ _ ▸ h : _ ∧ _).1
theorem chk_turn {ps : List Pt} (h : chk ps = true) {i : Nat} (hi : i < ps.length) {k : Nat} (hk : k < ps.length) (h1 : k ≠ i) (h2 : k ≠ (i + 1) % ps.length) :
    0 < turn (ptAt ps i) (nx ps i) (ptAt ps k) := by
  have h3 := (areP_len (chk_areP h)).1
  have hs : sideAt ps i = true := by
    unfold chk at h
    rw [Bool.and_eq_true, List.all_eq_true] at h
    exact h.2 i (List.mem_range.2 hi)
  exact (sideAt_iff h3 hi).1 hs k hk h1 h2
theorem chk_turn0 {ps : List Pt} (h : chk ps = true) {i : Nat} (hi : i < ps.length) {k : Nat} (hk : k < ps.length) :
    0 ≤ turn (ptAt ps i) (nx ps i) (ptAt ps k) := by
  by_cases h1 : k = i
  · subst h1; rw [turn_end1]; omega
  · by_cases h2 : k = (i + 1) % ps.length
    · have : nx ps i = ptAt ps k := by unfold nx; rw [← h2]
      rw [this, turn_end2]; omega
    · exact Int.le_of_lt (chk_turn h hi hk h1 h2)
theorem tri_nonneg {ps : List Pt} (h : chk ps = true) {i : Nat} (hi : i < ps.length) : 0 ≤ tri ps i := chk_turn0 h hi (by omega)
theorem tri_pos1 {ps : List Pt} (h : chk ps = true) : 0 < tri ps 1 := by
  have h3 := (areP_len (chk_areP h)).1
  exact chk_turn h (by omega) (by omega) (by omega) (by rw [Nat.mod_eq_of_lt (by omega)]; omega)
theorem sum_cyc0 (ps : List Pt) (h : 0 < ps.length) (G : Pt → Int) : ((List.range ps.length).map (fun i => G (nx ps i))).sum = ((List.range ps.length).map (fun i => G (ptAt ps i))).sum := by
  have := sum_range_cyc (fun i => G (ptAt ps i)) (ps.length - 1)
  rw [show ps.length - 1 + 1 = ps.length by omega] at this
  exact this
theorem sum_tele (ps : List Pt) (h : 0 < ps.length) (f : Nat → Int) (G : Pt → Int) : ((List.range ps.length).map (fun i => f i + (G (ptAt ps i) - G (nx ps i)))).sum = ((List.range ps.length).map f).sum := by
  rw [sum_map_add, sum_map_sub, sum_cyc0 ps h G]; omega
theorem sum_map_mul (c : Int) (f : Nat → Int) : ∀ l : List Nat, (l.map (fun i => c * f i)).sum = c * (l.map f).sum
  | [] => by simp
  | x :: l => by simp only [List.map_cons, List.sum_cons, sum_map_mul c f l]; rw [Int.mul_add]
theorem x_from (ps : List Pt) (h : 0 < ps.length) : xSum ps = ((List.range ps.length).map (fun i => tri ps i * ((ptAt ps i).1 + (nx ps i).1 + (ptAt ps 0).1))).sum := by
  unfold xSum
  rw [← sum_tele ps h (fun i => tri ps i * ((ptAt ps i).1 + (nx ps i).1 + (ptAt ps 0).1)) (fun p => - crs (ptAt ps 0) p * (p.1 + (ptAt ps 0).1))]
  refine congrArg List.sum (List.map_congr_left fun i _ => ?_)
  unfold xAt crsAt tri turn crs; grind
theorem y_from (ps : List Pt) (h : 0 < ps.length) : ySum ps = ((List.range ps.length).map (fun i => tri ps i * ((ptAt ps i).2 + (nx ps i).2 + (ptAt ps 0).2))).sum := by
  unfold ySum
  rw [← sum_tele ps h (fun i => tri ps i * ((ptAt ps i).2 + (nx ps i).2 + (ptAt ps 0).2)) (fun p => - crs (ptAt ps 0) p * (p.2 + (ptAt ps 0).2))]
  refine congrArg List.sum (List.map_congr_left fun i _ => ?_)
  unfold yAt crsAt tri turn crs; grind
theorem a_from (ps : List Pt) (h : 0 < ps.length) : area ps = ((List.range ps.length).map (tri ps)).sum := area_from ps _ h
theorem lin_from (ps : List Pt) (h : 0 < ps.length) (u v w : Int) : u * xSum ps + v * ySum ps + w * (3 * area ps) =
    ((List.range ps.length).map (fun i => tri ps i * (linF u v w (ptAt ps i) + linF u v w (nx ps i) + linF u v w (ptAt ps 0)))).sum := by
  rw [x_from ps h, y_from ps h, a_from ps h, ← sum_map_mul, ← sum_map_mul, ← sum_map_mul 3, ← sum_map_mul w, ← sum_map_add, ← sum_map_add]
  refine congrArg List.sum (List.map_congr_left fun i _ => ?_)
  unfold linF; grind
theorem sum_nonneg {f : Nat → Int} : ∀ {l : List Nat}, (∀ i ∈ l, 0 ≤ f i) → 0 ≤ (l.map f).sum
  | [], _ => by simp
  | x :: l, h => by
    simp only [List.map_cons, List.sum_cons]
    have := h x List.mem_cons_self
    have := sum_nonneg (l := l) (fun i hi => h i (List.mem_cons_of_mem _ hi))
    omega
/-- the numbers of the middle, without the division -/
theorem mid_g {ps : List Pt} (hA : 0 < area ps) : ∃ g, 0 < g ∧ xSum ps = g * (mid ps).1 ∧ ySum ps = g * (mid ps).2.1 ∧ 3 * area ps = g * (mid ps).2.2 := by
  refine ⟨gcdI (gcdI (xSum ps) (ySum ps)) (3 * area ps), gcdI_pos (by omega), ?_, ?_, ?_⟩
  · exact (Int.mul_tdiv_cancel' (Int.dvd_trans (gcdI_dvd_l _ _) (gcdI_dvd_l _ _))).symm
  · exact (Int.mul_tdiv_cancel' (Int.dvd_trans (gcdI_dvd_l _ _) (gcdI_dvd_right _ _))).symm
  · exact (Int.mul_tdiv_cancel' (gcdI_dvd_right _ _)).symm
theorem mid_lin0 {ps : List Pt} (hA : 0 < area ps) (h : 0 < ps.length) (u v w : Int) : ∃ g, 0 < g ∧ g * (u * (mid ps).1 + v * (mid ps).2.1 + w * (mid ps).2.2) = ((List.range ps.length).map (fun i => tri ps i * (linF u v w (ptAt ps i) + linF u v w (nx ps i) + linF u v w (ptAt ps 0)))).sum := by
  obtain ⟨g, hg, e1, e2, e3⟩ := mid_g hA
  refine ⟨g, hg, ?_⟩
  rw [← lin_from ps h, e1, e2, e3]; grind
theorem mid_lin {ps : List Pt} (hc : chk ps = true) (u v w : Int) (hl : ∀ k, k < ps.length → 0 ≤ linF u v w (ptAt ps k)) :
    0 ≤ u * (mid ps).1 + v * (mid ps).2.1 + w * (mid ps).2.2 := by
  have h3 := (areP_len (chk_areP hc)).1
  obtain ⟨g, hg, e⟩ := mid_lin0 (chk_area hc) (by omega) u v w
  have := sum_nonneg (l := List.range ps.length) (f := fun i => tri ps i * (linF u v w (ptAt ps i) + linF u v w (nx ps i) + linF u v w (ptAt ps 0))) (fun i hi => by
    have hi := List.mem_range.1 hi
    exact Int.mul_nonneg (tri_nonneg hc hi) (by have := hl i hi; have := hl _ (show (i + 1) % ps.length < ps.length from Nat.mod_lt _ (by omega)); have := hl 0 (by omega); unfold nx; omega))
  rw [← e] at this
  exact Int.nonneg_of_mul_nonneg_right this hg
theorem mid_lin_pos {ps : List Pt} (hc : chk ps = true) (u v w : Int) (hl : ∀ k, k < ps.length → 0 ≤ linF u v w (ptAt ps k)) {j : Nat} (hj : j < ps.length) (hjp : 0 < linF u v w (ptAt ps j)) :
    0 < u * (mid ps).1 + v * (mid ps).2.1 + w * (mid ps).2.2 := by
  have h3 := (areP_len (chk_areP hc)).1
  obtain ⟨g, hg, e⟩ := mid_lin0 (chk_area hc) (by omega) u v w
  have hnn : ∀ i, i < ps.length → 0 ≤ linF u v w (ptAt ps i) + linF u v w (nx ps i) + linF u v w (ptAt ps 0) := fun i hi => by
    have := hl i hi; have := hl _ (show (i + 1) % ps.length < ps.length from Nat.mod_lt _ (by omega)); have := hl 0 (by omega); unfold nx; omega
  have hex : ∃ i, i < ps.length ∧ 0 < tri ps i ∧ 0 < linF u v w (ptAt ps i) + linF u v w (nx ps i) + linF u v w (ptAt ps 0) := by
    by_cases j0 : j = 0
    · subst j0
      refine ⟨1, by omega, tri_pos1 hc, ?_⟩
      have := hl 1 (by omega); have := hl _ (show (1 + 1) % ps.length < ps.length from Nat.mod_lt _ (by omega)); unfold nx; omega
    · by_cases j1 : j + 1 < ps.length
      · refine ⟨j, hj, chk_turn hc hj (by omega) (by omega) (by rw [Nat.mod_eq_of_lt j1]; omega), ?_⟩
        have := hl _ (show (j + 1) % ps.length < ps.length from Nat.mod_lt _ (by omega)); have := hl 0 (by omega); unfold nx; omega
      · refine ⟨j - 1, by omega, chk_turn hc (by omega) (by omega) (by omega) (by rw [Nat.mod_eq_of_lt (by omega)]; omega), ?_⟩
        have e1 : nx ps (j - 1) = ptAt ps j := by unfold nx; rw [Nat.mod_eq_of_lt (by omega)]; congr 1; omega
        have := hl (j - 1) (by omega); have := hl 0 (by omega); rw [e1]; omega
  obtain ⟨i, hi, h1, h2⟩ := hex
  have := sum_pos_of (l := List.range ps.length) (f := fun i => tri ps i * (linF u v w (ptAt ps i) + linF u v w (nx ps i) + linF u v w (ptAt ps 0))) (fun i hi => by
    have hi := List.mem_range.1 hi
    exact Int.mul_nonneg (tri_nonneg hc hi) (hnn i hi)) ⟨i, List.mem_range.2 hi, Int.mul_pos h1 h2⟩
  rw [← e] at this
  exact Int.pos_of_mul_pos_right this (by omega) |> fun h => h
/-! lowest terms -/
theorem gcdI_comm (a b : Int) : gcdI a b = gcdI b a := by unfold gcdI; rw [Int.gcd_comm]
theorem frac_spec {n d : Int} (hd : 0 < d) : ∃ g, 0 < g ∧ n = g * (frac n d).1 ∧ d = g * (frac n d).2 ∧ 0 < (frac n d).2 ∧ Int.gcd (frac n d).1 (frac n d).2 = 1 := by
  have hg : 0 < gcdI n d := gcdI_pos hd
  have e1 : gcdI n d * (frac n d).1 = n := Int.mul_tdiv_cancel' (gcdI_dvd_l n d)
  have e2 : gcdI n d * (frac n d).2 = d := Int.mul_tdiv_cancel' (gcdI_dvd_right n d)
  refine ⟨gcdI n d, hg, e1.symm, e2.symm, ?_, ?_⟩
  · exact Int.pos_of_mul_pos_right (by rw [e2]; exact hd) (by omega)
  · have h : Int.gcd (gcdI n d * (frac n d).1) (gcdI n d * (frac n d).2) = (gcdI n d).natAbs * Int.gcd (frac n d).1 (frac n d).2 := Int.gcd_mul_left ..
    rw [e1, e2] at h
    have h2 : (gcdI n d).natAbs = Int.gcd n d := by unfold gcdI; rfl
    rw [h2] at h
    have hp : 0 < Int.gcd n d := by rw [← h2]; omega
    exact Nat.eq_of_mul_eq_mul_left hp (by omega)
theorem dvd_left_of_gcd {b a d : Int} (h : Int.gcd a b = 1) (hd : b ∣ a * d) : b ∣ d := by
  refine Int.natAbs_dvd_natAbs.1 (Nat.Coprime.dvd_of_dvd_mul_left (m := a.natAbs) (by show Nat.gcd _ _ = 1; rw [Nat.gcd_comm]; exact h) ?_)
  rw [← Int.natAbs_mul]; exact Int.natAbs_dvd_natAbs.2 hd
/-- two fractions in lowest terms that are equal are the same -/
theorem lowest_eq {a b c d : Int} (hb : 0 < b) (hd : 0 < d) (h1 : Int.gcd a b = 1) (h2 : Int.gcd c d = 1) (h : a * d = c * b) : a = c ∧ b = d := by
  have hbd : b ∣ d := by
    have : b ∣ a * d := ⟨c, by rw [h, Int.mul_comm]⟩
    exact dvd_left_of_gcd h1 this
  have hdb : d ∣ b := by
    have : d ∣ c * b := ⟨a, by rw [← h, Int.mul_comm]⟩
    exact dvd_left_of_gcd h2 this
  have hbd2 : b = d := Int.le_antisymm (Int.le_of_dvd hd hbd) (Int.le_of_dvd hb hdb)
  subst hbd2
  exact ⟨Int.eq_of_mul_eq_mul_right (by omega) h, rfl⟩
theorem mul_pos_lt {g a b : Int} (hg : 0 < g) : g * a < g * b ↔ a < b := ⟨fun h => Int.lt_of_mul_lt_mul_left h (by omega), fun h => Int.mul_lt_mul_of_pos_left h hg⟩
theorem less0 {n d : Int} (hd : 0 < d) : lessF (frac n d) (0, 1) = decide (n < 0) := by
  obtain ⟨g, hg, e1, e2, h2, h3⟩ := frac_spec (n := n) hd
  unfold lessF; dsimp only
  rw [Int.mul_one, Int.zero_mul]
  refine decide_eq_decide.2 ?_
  have := mul_pos_lt (a := (frac n d).1) (b := 0) hg
  rw [← e1, Int.mul_zero] at this
  exact this.symm
theorem less1 {n d : Int} (hd : 0 < d) : lessF (1, 1) (frac n d) = decide (d < n) := by
  obtain ⟨g, hg, e1, e2, h2, h3⟩ := frac_spec (n := n) hd
  unfold lessF; dsimp only
  rw [Int.mul_one, Int.one_mul]
  refine decide_eq_decide.2 ?_
  have := mul_pos_lt (a := (frac n d).2) (b := (frac n d).1) hg
  rw [← e1, ← e2] at this
  exact this.symm
theorem within01 {n d : Int} (hd : 0 < d) : withinF (frac n d) (0, 1) (1, 1) = (decide (0 ≤ n) && decide (n ≤ d)) := by
  unfold withinF; rw [less0 hd, less1 hd]
  congr 1
  · by_cases h : n < 0 <;> simp [h] <;> omega
  · by_cases h : d < n <;> simp [h] <;> omega
theorem frac_is0 {n d : Int} (hd : 0 < d) : frac n d = (0, 1) ↔ n = 0 := by
  obtain ⟨g, hg, e1, e2, h2, h3⟩ := frac_spec (n := n) hd
  constructor
  · intro h; rw [e1, h]; simp
  · intro h
    have a0 : (frac n d).1 = 0 := by
      rcases Int.mul_eq_zero.1 (e1.symm.trans h) with h | h
      · omega
      · exact h
    rw [a0, Int.gcd_zero_left] at h3
    exact Prod.ext a0 (show (frac n d).2 = 1 by omega)
theorem frac_is1 {n d : Int} (hd : 0 < d) : frac n d = (1, 1) ↔ n = d := by
  obtain ⟨g, hg, e1, e2, h2, h3⟩ := frac_spec (n := n) hd
  constructor
  · intro h; rw [h] at e1 e2; dsimp only at e1 e2; omega
  · intro h
    have a0 : (frac n d).1 = (frac n d).2 := Int.eq_of_mul_eq_mul_left (show g ≠ 0 by omega) (by rw [← e1, ← e2]; exact h)
    rw [a0, Int.gcd_self] at h3
    exact Prod.ext (show (frac n d).1 = 1 by omega) (show (frac n d).2 = 1 by omega)
/-! rests, as the reference reckons -/
/-- the way along a side, times D, from its first end to the foot, and from its second end -/
def footA (ps : List Pt) (m : Int × Int × Int) (s : Nat) : Int := dt (inw m (ptAt ps s)) (alongS ps s)
def footD (ps : List Pt) (m : Int × Int × Int) (s : Nat) : Int := m.2.2 * dt (alongS ps s) (alongS ps s)
theorem foot_def (ps : List Pt) (m : Int × Int × Int) (s : Nat) : foot ps m s = frac (footA ps m s) (footD ps m s) := rfl
theorem rest_eq {ps : List Pt} {m : Int × Int × Int} {s : Nat} (h : 0 < footD ps m s) : restB ps m s = (decide (0 ≤ footA ps m s) && decide (footA ps m s ≤ footD ps m s)) := by
  unfold restB; rw [foot_def]; exact within01 h
theorem firm_eq {ps : List Pt} {m : Int × Int × Int} {s : Nat} (h : 0 < footD ps m s) : firmB ps m s = (decide (0 < footA ps m s) && decide (footA ps m s < footD ps m s)) := by
  unfold firmB; rw [rest_eq h, foot_def]
  have h0 := frac_is0 (n := footA ps m s) h
  have h1 := frac_is1 (n := footA ps m s) h
  generalize footA ps m s = n at *
  generalize footD ps m s = d at *
  rw [Bool.eq_iff_iff]
  simp only [Bool.and_eq_true, decide_eq_true_eq, ne_eq, h0, h1]
  omega
/-- as the reference reckons: the scalar product from one end towards the other -/
def alF (m : Int × Int × Int) (f t : Pt) : Int := (t.1 - f.1) * (m.1 - f.1 * m.2.2) + (t.2 - f.2) * (m.2.1 - f.2 * m.2.2)
theorem al_first (ps : List Pt) (m : Int × Int × Int) (s : Nat) : alF m (ptAt ps s) (nx ps s) = footA ps m s := by
  unfold alF footA dt inw alongS mn; dsimp only; grind
theorem al_second (ps : List Pt) (m : Int × Int × Int) (s : Nat) : alF m (nx ps s) (ptAt ps s) = footD ps m s - footA ps m s := by
  unfold alF footA footD dt inw alongS mn; dsimp only; grind
/-! leans -/
theorem mid_D {ps : List Pt} (hc : chk ps = true) : 0 < (mid ps).2.2 := by
  obtain ⟨g, hg, _, _, e⟩ := mid_g (chk_area hc)
  have := chk_area hc
  exact Int.pos_of_mul_pos_right (a := g) (by rw [← e]; omega) (by omega)
theorem footD_pos {ps : List Pt} (hc : chk ps = true) {s : Nat} (hs : s < ps.length) : 0 < footD ps (mid ps) s := Int.mul_pos (mid_D hc) (along_pos hc hs)
/-- as the reference makes the lean -/
def rleanF (ps : List Pt) (m : Int × Int × Int) (s : Nat) : Int × Int :=
  let f := frac (heightH ps m s) m.2.2
  let h := frac (f.1 * f.1) (dt (alongS ps s) (alongS ps s))
  (h.1, h.2 * f.2 * f.2)
theorem gcd_one_mul {a b c : Int} (h1 : Int.gcd a b = 1) (h2 : Int.gcd a c = 1) : Int.gcd a (b * c) = 1 := by
  have h1' : Nat.Coprime a.natAbs b.natAbs := h1
  have h2' : Nat.Coprime a.natAbs c.natAbs := h2
  show Nat.gcd a.natAbs (b * c).natAbs = 1
  rw [Int.natAbs_mul]; exact Nat.Coprime.mul_right h1' h2'
theorem gcd_one_dvd {a b k : Int} (h : Int.gcd a b = 1) (hk : k ∣ a) : Int.gcd k b = 1 := by
  have h' : Nat.Coprime a.natAbs b.natAbs := h
  exact Nat.Coprime.coprime_dvd_left (Int.natAbs_dvd_natAbs.2 hk) h'
theorem lean_eq {ps : List Pt} {m : Int × Int × Int} {s : Nat} (hD : 0 < m.2.2) (hS : 0 < dt (alongS ps s) (alongS ps s)) : leanF ps m s = rleanF ps m s := by
  unfold leanF rleanF height
  dsimp only
  generalize heightH ps m s = H at *
  generalize dt (alongS ps s) (alongS ps s) = S at *
  generalize m.2.2 = D at *
  obtain ⟨g1, hg1, a1, a2, a3, a4⟩ := frac_spec (n := H) hD
  obtain ⟨g2, hg2, b1, b2, b3, b4⟩ := frac_spec (n := (frac H D).1 * (frac H D).1) hS
  obtain ⟨g3, hg3, c1, c2, c3, c4⟩ := frac_spec (n := H * H) hS
  obtain ⟨g4, hg4, d1, d2, d3, d4⟩ := frac_spec (n := (frac (H * H) S).1) (d := (frac (H * H) S).2 * D * D) (Int.mul_pos (Int.mul_pos c3 hD) hD)
  generalize frac (frac (H * H) S).1 ((frac (H * H) S).2 * D * D) = L at *
  generalize frac (H * H) S = K at *
  generalize frac ((frac H D).1 * (frac H D).1) S = R at *
  generalize frac H D = f at *
  obtain ⟨l1, l2⟩ := L
  obtain ⟨k1, k2⟩ := K
  obtain ⟨r1, r2⟩ := R
  obtain ⟨t, d⟩ := f
  dsimp only at *
  have hR : Int.gcd r1 (r2 * d * d) = 1 := by
    have hrd : Int.gcd r1 d = 1 := by
      have : Int.gcd (t * t) d = 1 := by rw [Int.gcd_comm]; exact gcd_one_mul (by rw [Int.gcd_comm]; exact a4) (by rw [Int.gcd_comm]; exact a4)
      exact gcd_one_dvd this ⟨g2, by rw [b1, Int.mul_comm]⟩
    exact gcd_one_mul (gcd_one_mul b4 hrd) hrd
  have hcr : l1 * (r2 * d * d) = r1 * l2 := by
    -- l1/l2 = k1/(k2 D D), k1/k2 = H H/S, r1/r2 = t t/S, t/d = H/D
    have e1 : l1 * (k2 * D * D) = l2 * k1 := by rw [d1, d2]; grind
    have e2 : k1 * S = k2 * (H * H) := by
      have h1 : k1 * S = k1 * (g3 * k2) := congrArg (k1 * ·) c2
      have h2 : k2 * (H * H) = k2 * (g3 * k1) := congrArg (k2 * ·) c1
      rw [h1, h2]; grind
    have e3 : r1 * S = r2 * (t * t) := by
      have h1 : r1 * S = r1 * (g2 * r2) := congrArg (r1 * ·) b2
      have h2 : r2 * (t * t) = r2 * (g2 * r1) := congrArg (r2 * ·) b1
      rw [h1, h2]; grind
    have e4 : t * D = d * H := by
      have h1 : t * D = t * (g1 * d) := congrArg (t * ·) a2
      have h2 : d * H = d * (g1 * t) := congrArg (d * ·) a1
      rw [h1, h2]; grind
    have hz : k2 * D * D * S ≠ 0 := by
      have := Int.mul_pos (Int.mul_pos (Int.mul_pos c3 hD) hD) hS; omega
    refine Int.eq_of_mul_eq_mul_right hz ?_
    have f1 : l1 * (r2 * d * d) * (k2 * D * D * S) = (l1 * (k2 * D * D)) * (r2 * d * d * S) := by grind
    have f2 : r1 * l2 * (k2 * D * D * S) = l2 * (r1 * S) * (k2 * D * D) := by grind
    rw [f1, e1, f2, e3]
    have f3 : l2 * k1 * (r2 * d * d * S) = l2 * r2 * (k1 * S) * (d * d) := by grind
    have f4 : l2 * (r2 * (t * t)) * (k2 * D * D) = l2 * r2 * k2 * ((t * D) * (t * D)) := by grind
    rw [f3, f4, e2, e4]; grind
  obtain ⟨x1, x2⟩ := lowest_eq d3 (Int.mul_pos (Int.mul_pos b3 a3) a3) d4 hR hcr
  exact Prod.ext x1 x2
theorem less_frac {a b c d : Int} (hb : 0 < b) (hd : 0 < d) : lessF (frac a b) (frac c d) = decide (a * d < c * b) := by
  obtain ⟨g, hg, e1, e2, h2, _⟩ := frac_spec (n := a) hb
  obtain ⟨k, hk, f1, f2, j2, _⟩ := frac_spec (n := c) hd
  unfold lessF
  refine decide_eq_decide.2 ?_
  have h := mul_pos_lt (a := (frac a b).1 * (frac c d).2) (b := (frac c d).1 * (frac a b).2) (Int.mul_pos hg hk)
  have g1 : g * k * ((frac a b).1 * (frac c d).2) = a * d := by
    have h1 : a * d = (g * (frac a b).1) * d := congrArg (· * d) e1
    have h2 : (g * (frac a b).1) * d = (g * (frac a b).1) * (k * (frac c d).2) := congrArg ((g * (frac a b).1) * ·) f2
    rw [h1, h2]; grind
  have g2 : g * k * ((frac c d).1 * (frac a b).2) = c * b := by
    have h1 : c * b = (k * (frac c d).1) * b := congrArg (· * b) f1
    have h2 : (k * (frac c d).1) * b = (k * (frac c d).1) * (g * (frac a b).2) := congrArg ((k * (frac c d).1) * ·) e2
    rw [h1, h2]; grind
  rw [g1, g2] at h
  exact h.symm
/-- side s has a less lean than side t -/
def Low (ps : List Pt) (m : Int × Int × Int) (s t : Nat) : Prop :=
  heightH ps m s * heightH ps m s * dt (alongS ps t) (alongS ps t) < heightH ps m t * heightH ps m t * dt (alongS ps s) (alongS ps s)
instance (ps : List Pt) (m : Int × Int × Int) (s t : Nat) : Decidable (Low ps m s t) := inferInstanceAs (Decidable (_ < _))
theorem low_height {ps : List Pt} {m : Int × Int × Int} {s t : Nat} (hs : 0 < dt (alongS ps s) (alongS ps s)) (ht : 0 < dt (alongS ps t) (alongS ps t)) : lessF (height ps m s) (height ps m t) = decide (Low ps m s t) := less_frac hs ht
theorem low_lean {ps : List Pt} {m : Int × Int × Int} {s t : Nat} (hD : 0 < m.2.2) (hs : 0 < dt (alongS ps s) (alongS ps s)) (ht : 0 < dt (alongS ps t) (alongS ps t)) :
    decide ((leanF ps m s).1 * (leanF ps m t).2 < (leanF ps m t).1 * (leanF ps m s).2) = decide (Low ps m s t) := by
  rw [← low_height hs ht]
  unfold leanF
  have h1 : 0 < (height ps m s).2 := by unfold height; exact (frac_spec hs).elim fun _ h => h.2.2.2.1
  have h2 : 0 < (height ps m t).2 := by unfold height; exact (frac_spec ht).elim fun _ h => h.2.2.2.1
  have h := less_frac (a := (height ps m s).1) (c := (height ps m t).1) (Int.mul_pos (Int.mul_pos h1 hD) hD) (Int.mul_pos (Int.mul_pos h2 hD) hD)
  unfold lessF at h ⊢
  rw [h]
  refine decide_eq_decide.2 ?_
  have k := mul_pos_lt (a := (height ps m s).1 * (height ps m t).2) (b := (height ps m t).1 * (height ps m s).2) (Int.mul_pos hD hD)
  rw [← k]
  have g1 : (height ps m s).1 * ((height ps m t).2 * m.2.2 * m.2.2) = m.2.2 * m.2.2 * ((height ps m s).1 * (height ps m t).2) := by grind
  have g2 : (height ps m t).1 * ((height ps m s).2 * m.2.2 * m.2.2) = m.2.2 * m.2.2 * ((height ps m t).1 * (height ps m s).2) := by grind
  rw [g1, g2]
theorem sq_lt {x y : Int} (h0 : 0 ≤ x) (h : x < y) : x * x < y * y := by
  have h1 : x * x ≤ x * y := Int.mul_le_mul_of_nonneg_left (by omega) h0
  have h2 : x * y < y * y := Int.mul_lt_mul_of_pos_right h (by omega)
  omega
theorem fall_core {s s' v : Pt} (_hH : 0 < crs s v) (hH' : 0 ≤ crs s' v) (hPQ : 0 < dt s v * crs s s') (hS : 0 < dt s s) :
    crs s' v * crs s' v * dt s s < crs s v * crs s v * dt s' s' := by
  have e1 : dt s s * crs s' v = crs s v * dt s s' - dt s v * crs s s' := by unfold crs dt; grind
  have e2 := lagr s s'
  have a1 : dt s s * crs s' v < crs s v * dt s s' := by omega
  have a0 : 0 ≤ dt s s * crs s' v := Int.mul_nonneg (by omega) hH'
  have a2 := sq_lt a0 a1
  have a3 : 0 ≤ crs s v * crs s v * (crs s s' * crs s s') := Int.mul_nonneg (sq_nonneg _) (sq_nonneg _)
  have a4 : crs s v * dt s s' * (crs s v * dt s s') = crs s v * crs s v * (dt s s * dt s' s') - crs s v * crs s v * (crs s s' * crs s s') := by
    rw [← e2]; grind
  have a5 : dt s s * (crs s' v * crs s' v * dt s s) < dt s s * (crs s v * crs s v * dt s' s') := by
    have f1 : dt s s * (crs s' v * crs s' v * dt s s) = dt s s * crs s' v * (dt s s * crs s' v) := by grind
    have f2 : dt s s * (crs s v * crs s v * dt s' s') = crs s v * crs s v * (dt s s * dt s' s') := by grind
    omega
  exact Int.lt_of_mul_lt_mul_left a5 (by omega)
/-- the middle lies to the left of a side -/
theorem heightH_lin (ps : List Pt) (m : Int × Int × Int) (s : Nat) : heightH ps m s = -(alongS ps s).2 * m.1 + (alongS ps s).1 * m.2.1 + ((alongS ps s).2 * (ptAt ps s).1 - (alongS ps s).1 * (ptAt ps s).2) * m.2.2 := by
  unfold heightH crs inw; dsimp only; grind
theorem lin_turn (ps : List Pt) (s : Nat) (p : Pt) : linF (-(alongS ps s).2) (alongS ps s).1 ((alongS ps s).2 * (ptAt ps s).1 - (alongS ps s).1 * (ptAt ps s).2) p = turn (ptAt ps s) (nx ps s) p := by
  unfold linF turn alongS mn; dsimp only; grind
theorem height_pos {ps : List Pt} (hc : chk ps = true) {s : Nat} (hs : s < ps.length) : 0 < heightH ps (mid ps) s := by
  have h3 := (areP_len (chk_areP hc)).1
  rw [heightH_lin]
  have hj : (s + 2) % ps.length < ps.length := Nat.mod_lt _ (by omega)
  refine mid_lin_pos hc _ _ _ (fun k hk => by rw [lin_turn]; exact chk_turn0 hc hs hk) hj (by
    rw [lin_turn]
    have e1 : (s + 2) % ps.length = if s + 2 < ps.length then s + 2 else s + 2 - ps.length := by
      split
      · exact Nat.mod_eq_of_lt (by omega)
      · rw [Nat.mod_eq_sub_mod (by omega), Nat.mod_eq_of_lt (by omega)]
    have e2 : (s + 1) % ps.length = if s + 1 < ps.length then s + 1 else 0 := by
      split
      · exact Nat.mod_eq_of_lt (by omega)
      · rw [show s + 1 = ps.length by omega, Nat.mod_self]
    refine chk_turn hc hs hj ?_ ?_
    · rw [e1]; split <;> omega
    · rw [e1, e2]; split <;> split <;> omega)
theorem low_next {ps : List Pt} (hc : chk ps = true) {s : Nat} (hs : s < ps.length) (h : footD ps (mid ps) s < footA ps (mid ps) s) : Low ps (mid ps) ((s + 1) % ps.length) s := by
  have h3 := (areP_len (chk_areP hc)).1
  have hj : (s + 1) % ps.length < ps.length := Nat.mod_lt _ (by omega)
  have hH := height_pos hc hs
  have hH' := height_pos hc hj
  have hS := along_pos hc hs
  have hP : 0 < dt (alongS ps s) (inw (mid ps) (nx ps s)) := by
    have : footA ps (mid ps) s - footD ps (mid ps) s = dt (alongS ps s) (inw (mid ps) (nx ps s)) := by
      unfold footA footD dt inw alongS mn; dsimp only; grind
    omega
  have hHe : heightH ps (mid ps) s = crs (alongS ps s) (inw (mid ps) (nx ps s)) := by
    unfold heightH crs inw alongS mn; dsimp only; grind
  have hQ : 0 < crs (alongS ps s) (alongS ps ((s + 1) % ps.length)) := by
    have hj2 : ((s + 1) % ps.length + 1) % ps.length < ps.length := Nat.mod_lt _ (by omega)
    have e2 : (s + 1) % ps.length = if s + 1 < ps.length then s + 1 else 0 := by
      split
      · exact Nat.mod_eq_of_lt (by omega)
      · rw [show s + 1 = ps.length by omega, Nat.mod_self]
    have e3 : ((s + 1) % ps.length + 1) % ps.length = if (s + 1) % ps.length + 1 < ps.length then (s + 1) % ps.length + 1 else 0 := by
      split
      · exact Nat.mod_eq_of_lt (by omega)
      · rw [show (s + 1) % ps.length + 1 = ps.length by omega, Nat.mod_self]
    have hne : ((s + 1) % ps.length + 1) % ps.length ≠ s := by
      rw [e3]
      generalize (s + 1) % ps.length = j at e2
      by_cases h1 : s + 1 < ps.length
      · rw [if_pos h1] at e2; subst e2; split <;> omega
      · rw [if_neg h1] at e2; subst e2; split <;> omega
    have := chk_turn hc hs hj2 hne (by rw [e3]; split <;> omega)
    have e : turn (ptAt ps s) (nx ps s) (ptAt ps (((s + 1) % ps.length + 1) % ps.length)) = crs (alongS ps s) (alongS ps ((s + 1) % ps.length)) := by
      show turn (ptAt ps s) (nx ps s) (nx ps ((s + 1) % ps.length)) = crs (mn (nx ps s) (ptAt ps s)) (mn (nx ps ((s + 1) % ps.length)) (nx ps s))
      unfold turn crs mn; dsimp only; grind
    omega
  have := fall_core (s := alongS ps s) (s' := alongS ps ((s + 1) % ps.length)) (v := inw (mid ps) (nx ps s)) (by rw [← hHe]; exact hH) (Int.le_of_lt hH') (Int.mul_pos hP hQ) hS
  unfold Low
  rw [hHe]
  exact this
theorem low_prev {ps : List Pt} (hc : chk ps = true) {s : Nat} (hs : s < ps.length) (h : footA ps (mid ps) s < 0) : Low ps (mid ps) ((s + ps.length - 1) % ps.length) s := by
  have h3 := (areP_len (chk_areP hc)).1
  have hj : (s + ps.length - 1) % ps.length < ps.length := Nat.mod_lt _ (by omega)
  have ej : (s + ps.length - 1) % ps.length = if s = 0 then ps.length - 1 else s - 1 := by
    split
    · next h => subst h; rw [Nat.zero_add]; exact Nat.mod_eq_of_lt (by omega)
    · rw [Nat.mod_eq_sub_mod (by omega), Nat.mod_eq_of_lt (by omega)]; omega
  have en : ((s + ps.length - 1) % ps.length + 1) % ps.length = s := by
    rw [ej]; split
    · next h => subst h; rw [show ps.length - 1 + 1 = ps.length by omega, Nat.mod_self]
    · rw [show s - 1 + 1 = s by omega]; exact Nat.mod_eq_of_lt hs
  generalize (s + ps.length - 1) % ps.length = j at *
  have hH := height_pos hc hs
  have hH' := height_pos hc hj
  have hS := along_pos hc hs
  have enx : nx ps j = ptAt ps s := by unfold nx; rw [en]
  have hP : dt (alongS ps s) (inw (mid ps) (ptAt ps s)) < 0 := by
    have : footA ps (mid ps) s = dt (alongS ps s) (inw (mid ps) (ptAt ps s)) := by
      unfold footA dt; grind
    omega
  have hHe : heightH ps (mid ps) j = crs (alongS ps j) (inw (mid ps) (ptAt ps s)) := by
    rw [← enx]; unfold heightH crs inw alongS mn; dsimp only; grind
  have hQ : crs (alongS ps s) (alongS ps j) < 0 := by
    have e2 : (s + 1) % ps.length = if s + 1 < ps.length then s + 1 else 0 := by
      split
      · exact Nat.mod_eq_of_lt (by omega)
      · rw [show s + 1 = ps.length by omega, Nat.mod_self]
    have := chk_turn hc hs hj (by rw [ej]; split <;> omega) (by rw [ej, e2]; split <;> split <;> omega)
    have e : turn (ptAt ps s) (nx ps s) (ptAt ps j) = - crs (alongS ps s) (alongS ps j) := by
      show _ = - crs (mn (nx ps s) (ptAt ps s)) (mn (nx ps j) (ptAt ps j))
      rw [enx]
      unfold turn crs mn; dsimp only; grind
    omega
  have hPQ : 0 < dt (alongS ps s) (inw (mid ps) (ptAt ps s)) * crs (alongS ps s) (alongS ps j) := Int.mul_pos_of_neg_of_neg hP hQ
  have := fall_core (s := alongS ps s) (s' := alongS ps j) (v := inw (mid ps) (ptAt ps s)) hH (by rw [← hHe]; exact Int.le_of_lt hH') hPQ hS
  unfold Low
  rw [hHe]
  exact this
/-! rolls: the leans fall, so they end -/
theorem low_trans {ps : List Pt} {m : Int × Int × Int} {s t u : Nat} (h1 : Low ps m s t) (h2 : Low ps m t u) (hs : 0 < dt (alongS ps s) (alongS ps s)) (ht : 0 < dt (alongS ps t) (alongS ps t)) (hu : 0 < dt (alongS ps u) (alongS ps u)) : Low ps m s u := by
  unfold Low at *
  generalize heightH ps m s * heightH ps m s = A at *
  generalize heightH ps m t * heightH ps m t = B at *
  generalize heightH ps m u * heightH ps m u = C at *
  generalize dt (alongS ps s) (alongS ps s) = a at *
  generalize dt (alongS ps t) (alongS ps t) = b at *
  generalize dt (alongS ps u) (alongS ps u) = c at *
  have e1 : b * (A * c) < b * (C * a) := by
    have f1 : b * (A * c) = c * (A * b) := by grind
    have f2 : b * (C * a) = a * (C * b) := by grind
    have g1 : c * (A * b) < c * (B * a) := Int.mul_lt_mul_of_pos_left h1 hu
    have g2 : a * (B * c) < a * (C * b) := Int.mul_lt_mul_of_pos_left h2 hs
    have g3 : c * (B * a) = a * (B * c) := by grind
    omega
  exact Int.lt_of_mul_lt_mul_left e1 (by omega)
theorem low_irrefl (ps : List Pt) (m : Int × Int × Int) (s : Nat) : ¬ Low ps m s s := by unfold Low; omega
/-- how many sides have a less lean -/
def rank (ps : List Pt) (m : Int × Int × Int) (s : Nat) : Nat := (List.range ps.length).countP (fun t => decide (Low ps m t s))
theorem countP_lt {p q : Nat → Bool} : ∀ {l : List Nat}, (∀ x ∈ l, p x = true → q x = true) → (∃ x ∈ l, p x = false ∧ q x = true) → l.countP p < l.countP q
  | [], _, ⟨_, h, _⟩ => by cases h
  | x :: l, h, ⟨y, hy, h1, h2⟩ => by
    have hle : l.countP p ≤ l.countP q := List.countP_mono_left (fun z hz => h z (List.mem_cons_of_mem _ hz))
    rw [List.countP_cons, List.countP_cons]
    rcases List.mem_cons.1 hy with rfl | hy
    · rw [h1, h2]; simp; omega
    · have := countP_lt (fun z hz => h z (List.mem_cons_of_mem _ hz)) ⟨y, hy, h1, h2⟩
      have hx := h x List.mem_cons_self
      cases hp : p x
      · simp; omega
      · rw [hx hp]; simp; omega
theorem rank_lt {ps : List Pt} {m : Int × Int × Int} {s t : Nat} (hall : ∀ i, i < ps.length → 0 < dt (alongS ps i) (alongS ps i)) (hs : s < ps.length) (ht : t < ps.length) (h : Low ps m s t) : rank ps m s < rank ps m t := by
  refine countP_lt (fun x hx hp => ?_) ⟨s, List.mem_range.2 hs, decide_eq_false (low_irrefl ps m s), decide_eq_true h⟩
  exact decide_eq_true (low_trans (of_decide_eq_true hp) h (hall x (List.mem_range.1 hx)) (hall s hs) (hall t ht))
theorem rank_le (ps : List Pt) (m : Int × Int × Int) {s : Nat} (hs : s < ps.length) : rank ps m s < ps.length := by
  have h : (List.range ps.length).countP (fun t => decide (Low ps m t s)) < (List.range ps.length).countP (fun _ => true) :=
    countP_lt (fun _ _ _ => rfl) ⟨s, List.mem_range.2 hs, decide_eq_false (low_irrefl ps m s), rfl⟩
  simpa [rank] using h
/-- a roll: the sides over which it goes -/
inductive RollW (ps : List Pt) (m : Int × Int × Int) : Nat → List Nat → Prop
  | stop {s : Nat} : s < ps.length → restB ps m s = true → RollW ps m s [s]
  | step {s t : Nat} {T : List Nat} : s < ps.length → restB ps m s = false → (t = (s + 1) % ps.length ∨ s = (t + 1) % ps.length) → Low ps m t s → RollW ps m t T → RollW ps m s (s :: T)
theorem prev_next {n s : Nat} (h : s < n) : ((s + n - 1) % n + 1) % n = s := by
  by_cases h0 : s = 0
  · subst h0; rw [Nat.zero_add, Nat.mod_eq_of_lt (a := n - 1) (by omega), show n - 1 + 1 = n by omega, Nat.mod_self]
  · rw [Nat.mod_eq_sub_mod (a := s + n - 1) (by omega), Nat.mod_eq_of_lt (a := s + n - 1 - n) (by omega), show s + n - 1 - n + 1 = s by omega, Nat.mod_eq_of_lt h]
theorem roll_ex {ps : List Pt} (hc : chk ps = true) : ∀ (f s : Nat), s < ps.length → rank ps (mid ps) s < f → ∃ T : List Nat, rollF ps (mid ps) f s = some (T.map Int.ofNat) ∧ RollW ps (mid ps) s T ∧ T.length ≤ f
  | 0, _, _, h => by omega
  | f + 1, s, hs, h => by
    have h3 := (areP_len (chk_areP hc)).1
    have hd := footD_pos hc hs
    have hr := rest_eq (m := mid ps) hd
    have hall : ∀ i, i < ps.length → 0 < dt (alongS ps i) (alongS ps i) := fun i hi => along_pos hc hi
    unfold rollF
    rw [foot_def, less0 hd, less1 hd]
    by_cases h1 : footA ps (mid ps) s < 0
    · have hl := low_prev hc hs h1
      have hj : (s + ps.length - 1) % ps.length < ps.length := Nat.mod_lt _ (by omega)
      obtain ⟨T, e1, e2, e3⟩ := roll_ex hc f _ hj (by have := rank_lt hall hj hs hl; omega)
      refine ⟨s :: T, ?_, RollW.step hs (by rw [hr]; simp; omega) (.inr (prev_next hs).symm) hl e2, by simp; omega⟩
      rw [if_pos (decide_eq_true h1), e1]; rfl
    · rw [if_neg (by simp; omega)]
      by_cases h2 : footD ps (mid ps) s < footA ps (mid ps) s
      · have hl := low_next hc hs h2
        have hj : (s + 1) % ps.length < ps.length := Nat.mod_lt _ (by omega)
        obtain ⟨T, e1, e2, e3⟩ := roll_ex hc f _ hj (by have := rank_lt hall hj hs hl; omega)
        refine ⟨s :: T, ?_, RollW.step hs (by rw [hr]; simp; omega) (.inl rfl) hl e2, by simp; omega⟩
        rw [if_pos (decide_eq_true h2), e1]; rfl
      · rw [if_neg (by simp; omega)]
        exact ⟨[s], rfl, RollW.stop hs (by rw [hr]; simp; omega), by simp⟩
theorem roll_all {ps : List Pt} (hc : chk ps = true) {s : Nat} (hs : s < ps.length) : ∃ T : List Nat, rollF ps (mid ps) ps.length s = some (T.map Int.ofNat) ∧ RollW ps (mid ps) s T ∧ T.length ≤ ps.length :=
  roll_ex hc _ s hs (rank_le ps (mid ps) hs)
/-! the bounds of a height -/
theorem sum_le {f g : Nat → Int} : ∀ {l : List Nat}, (∀ i ∈ l, f i ≤ g i) → (l.map f).sum ≤ (l.map g).sum
  | [], _ => by simp
  | x :: l, h => by
    simp only [List.map_cons, List.sum_cons]
    have := h x List.mem_cons_self
    have := sum_le (l := l) (f := f) (g := g) (fun i hi => h i (List.mem_cons_of_mem _ hi))
    omega
/-- a side that goes to the left over the strip from k to k + 1 -/
def covB (ps : List Pt) (k : Int) (i : Nat) : Bool := decide ((nx ps i).1 ≤ k) && decide (k + 1 ≤ (ptAt ps i).1)
/-- two sides that go to the left over one strip are one -/
theorem cov_one {ps : List Pt} (hc : chk ps = true) {k : Int} {i j : Nat} (hi : i < ps.length) (hj : j < ps.length) (hci : covB ps k i = true) (hcj : covB ps k j = true) : i = j := by
  refine Classical.byContradiction fun hij => ?_
  have h3 := (areP_len (chk_areP hc)).1
  unfold covB at hci hcj
  simp only [Bool.and_eq_true, decide_eq_true_eq] at hci hcj
  have hni : (i + 1) % ps.length < ps.length := Nat.mod_lt _ (by omega)
  have hnj : (j + 1) % ps.length < ps.length := Nat.mod_lt _ (by omega)
  have a1 : 0 ≤ turn (ptAt ps i) (nx ps i) (ptAt ps j) := chk_turn0 hc hi hj
  have a2 : 0 ≤ turn (ptAt ps i) (nx ps i) (nx ps j) := chk_turn0 hc hi hnj
  have a3 : 0 ≤ turn (ptAt ps j) (nx ps j) (ptAt ps i) := chk_turn0 hc hj hi
  have a4 : 0 ≤ turn (ptAt ps j) (nx ps j) (nx ps i) := chk_turn0 hc hj hni
  -- one of the four is more than 0: j's first end is not on i's line, or it is its second end
  have hs : 0 < turn (ptAt ps i) (nx ps i) (ptAt ps j) ∨ 0 < turn (ptAt ps i) (nx ps i) (nx ps j) := by
    by_cases hn : j = (i + 1) % ps.length
    · right
      refine chk_turn hc hi hnj ?_ ?_
      · intro e
        have e1 : nx ps j = ptAt ps i := by unfold nx; rw [e]
        have e2 : nx ps i = ptAt ps j := by unfold nx; rw [hn]
        rw [e1] at hcj; rw [e2] at hci; omega
      · intro e
        have e1 : nx ps j = ptAt ps j := by rw [hn]; unfold nx; rw [hn] at e; rw [e]
        rw [e1] at hcj; omega
    · left
      exact chk_turn hc hi hj (fun e => hij e.symm) hn
  clear hni hnj
  generalize ptAt ps i = a at *
  generalize nx ps i = b at *
  generalize ptAt ps j = c at *
  generalize nx ps j = d at *
  have N : ∀ x : Int, turn a b c * (x - d.1) + turn a b d * (c.1 - x) + (turn c d a * (x - b.1) + turn c d b * (a.1 - x)) = 0 := fun x => by unfold turn; grind
  have n1 := N k
  have n2 := N (k + 1)
  generalize turn a b c = p at *
  generalize turn a b d = q at *
  generalize turn c d a = r at *
  generalize turn c d b = t at *
  have m1 : 0 ≤ p * (k - d.1) := Int.mul_nonneg a1 (by omega)
  have m2 : 0 ≤ r * (k - b.1) := Int.mul_nonneg a3 (by omega)
  have m3 : 0 ≤ t * (a.1 - k) := Int.mul_nonneg a4 (by omega)
  have m4 : 0 ≤ q * (c.1 - (k + 1)) := Int.mul_nonneg a2 (by omega)
  have m5 : 0 ≤ r * (k + 1 - b.1) := Int.mul_nonneg a3 (by omega)
  have m6 : 0 ≤ t * (a.1 - (k + 1)) := Int.mul_nonneg a4 (by omega)
  rcases hs with h | h
  · have : 0 < p * (k + 1 - d.1) := Int.mul_pos h (by omega)
    omega
  · have : 0 < q * (c.1 - k) := Int.mul_pos h (by omega)
    omega
theorem count_le_one {p : Nat → Bool} : ∀ {l : List Nat}, l.Nodup → (∀ i ∈ l, ∀ j ∈ l, p i = true → p j = true → i = j) → l.countP p ≤ 1
  | [], _, _ => by simp
  | x :: l, hn, h => by
    rw [List.nodup_cons] at hn
    rw [List.countP_cons]
    cases hp : p x
    · have := count_le_one hn.2 (fun i hi j hj => h i (List.mem_cons_of_mem _ hi) j (List.mem_cons_of_mem _ hj))
      simpa using this
    · have h0 : l.countP p = 0 := by
        rw [List.countP_eq_zero]
        intro y hy hq
        exact hn.1 ((h x List.mem_cons_self y (List.mem_cons_of_mem _ hy) hp hq) ▸ hy)
      simp [h0]
/-- how far the side goes to the left -/
def leftB (ps : List Pt) (i : Nat) : Int := if (nx ps i).1 < (ptAt ps i).1 then (ptAt ps i).1 - (nx ps i).1 else 0
theorem sum_swap (f : Nat → Nat → Int) (l : List Nat) : ∀ m : List Nat, (l.map (fun i => (m.map (f i)).sum)).sum = (m.map (fun k => (l.map (fun i => f i k)).sum)).sum
  | [] => by
    simp only [List.map_nil, List.sum_nil]
    induction l with
    | nil => rfl
    | cons x l ih => simp only [List.map_cons, List.sum_cons, ih]; rfl
  | k :: m => by
    simp only [List.map_cons, List.sum_cons]
    rw [sum_map_add, sum_swap f l m]
theorem strip_sum {x y : Int} (_hx : -20 ≤ y) (_hy : x ≤ 20) : ∀ n : Nat, ((List.range n).map (fun k : Nat => if y ≤ (k : Int) - 20 ∧ (k : Int) - 20 + 1 ≤ x then (1 : Int) else 0)).sum = max 0 (min x ((n : Int) - 20) - y)
  | 0 => by simp; omega
  | n + 1 => by
    rw [List.range_succ, List.map_append, List.sum_append, strip_sum _hx _hy n]
    simp only [List.map_cons, List.map_nil, List.sum_cons, List.sum_nil]
    split <;> omega
theorem count_sum (p : Nat → Bool) : ∀ l : List Nat, (l.map (fun i => if p i = true then (1 : Int) else 0)).sum = (l.countP p : Nat)
  | [] => rfl
  | x :: l => by
    simp only [List.map_cons, List.sum_cons, List.countP_cons, count_sum p l]
    cases p x <;> simp; omega
theorem left_sum {ps : List Pt} (hc : chk ps = true) : ((List.range ps.length).map (leftB ps)).sum ≤ 40 := by
  have ha := chk_areP hc
  have h3 := (areP_len ha).1
  have e : ∀ i, i ∈ List.range ps.length → leftB ps i = ((List.range 40).map (fun k : Nat => if covB ps ((k : Int) - 20) i = true then (1 : Int) else 0)).sum := fun i hi => by
    have hi := List.mem_range.1 hi
    have b1 := (ptAt_bd ha hi).1
    have b2 := (nx_bd ha hi).1
    unfold Bd at b1 b2
    have hs := strip_sum (x := (ptAt ps i).1) (y := (nx ps i).1) b2.1 b1.2 40
    have hcv : ((List.range 40).map (fun k : Nat => if covB ps ((k : Int) - 20) i = true then (1 : Int) else 0)) = ((List.range 40).map (fun k : Nat => if (nx ps i).1 ≤ (k : Int) - 20 ∧ (k : Int) - 20 + 1 ≤ (ptAt ps i).1 then (1 : Int) else 0)) :=
      List.map_congr_left fun k _ => by unfold covB; simp
    rw [hcv, hs]
    unfold leftB
    split <;> omega
  rw [List.map_congr_left e, sum_swap]
  have hk : ∀ k, k ∈ List.range 40 → ((List.range ps.length).map (fun i => if covB ps ((k : Int) - 20) i = true then (1 : Int) else 0)).sum ≤ 1 := fun k _ => by
    rw [count_sum]
    have := count_le_one (p := covB ps ((k : Int) - 20)) (l := List.range ps.length) List.nodup_range (fun i hi j hj h1 h2 => cov_one hc (List.mem_range.1 hi) (List.mem_range.1 hj) h1 h2)
    omega
  have := sum_le (l := List.range 40) hk
  refine Int.le_trans this ?_
  decide
theorem area_le {ps : List Pt} (hc : chk ps = true) : area ps ≤ 3200 := by
  have ha := chk_areP hc
  have h3 := (areP_len ha).1
  have e1 : area ps = ((List.range ps.length).map (fun i => ((ptAt ps i).1 - (nx ps i).1) * ((ptAt ps i).2 + (nx ps i).2 + 40))).sum := by
    rw [← sum_tele ps (by omega) (fun i => ((ptAt ps i).1 - (nx ps i).1) * ((ptAt ps i).2 + (nx ps i).2 + 40)) (fun p => - (p.1 * p.2) - 40 * p.1)]
    unfold area
    refine congrArg List.sum (List.map_congr_left fun i _ => ?_)
    unfold crsAt crs; grind
  rw [e1]
  have h : ∀ i, i ∈ List.range ps.length → ((ptAt ps i).1 - (nx ps i).1) * ((ptAt ps i).2 + (nx ps i).2 + 40) ≤ 80 * leftB ps i := fun i hi => by
    have hi := List.mem_range.1 hi
    have b1 := (ptAt_bd ha hi).2
    have b2 := (nx_bd ha hi).2
    unfold Bd at b1 b2
    unfold leftB
    split
    · rw [Int.mul_comm 80]; exact Int.mul_le_mul_of_nonneg_left (by omega) (by omega)
    · rw [Int.mul_zero]; exact Int.mul_nonpos_of_nonpos_of_nonneg (by omega) (by omega)
  have h1 := sum_le h
  rw [sum_map_mul] at h1
  have h2 := left_sum hc
  omega
theorem mid_D_le {ps : List Pt} (hc : chk ps = true) : (mid ps).2.2 ≤ 9600 := by
  obtain ⟨g, hg, _, _, e⟩ := mid_g (chk_area hc)
  have h1 := area_le hc
  have h2 := mid_D hc
  have : 1 * (mid ps).2.2 ≤ g * (mid ps).2.2 := Int.mul_le_mul_of_nonneg_right (by omega) (by omega)
  omega
theorem mid_box {ps : List Pt} (hc : chk ps = true) : -20 * (mid ps).2.2 ≤ (mid ps).1 ∧ (mid ps).1 ≤ 20 * (mid ps).2.2 ∧ -20 * (mid ps).2.2 ≤ (mid ps).2.1 ∧ (mid ps).2.1 ≤ 20 * (mid ps).2.2 := by
  have ha := chk_areP hc
  have hb := fun k (hk : k < ps.length) => ptAt_bd ha hk
  unfold Bd at hb
  have h1 := mid_lin hc 1 0 20 (fun k hk => by have := hb k hk; unfold linF; omega)
  have h2 := mid_lin hc (-1) 0 20 (fun k hk => by have := hb k hk; unfold linF; omega)
  have h3 := mid_lin hc 0 1 20 (fun k hk => by have := hb k hk; unfold linF; omega)
  have h4 := mid_lin hc 0 (-1) 20 (fun k hk => by have := hb k hk; unfold linF; omega)
  omega
theorem height_small {ps : List Pt} (hc : chk ps = true) {s : Nat} (hs : s < ps.length) : Bd 30720000 (heightH ps (mid ps) s) := by
  have ha := chk_areP hc
  have hD := mid_D hc
  have hD2 := mid_D_le hc
  obtain ⟨m1, m2, m3, m4⟩ := mid_box hc
  have b1 := ptAt_bd ha hs
  have b2 := nx_bd ha hs
  have i1 : Bd 384000 ((mid ps).1 - (mid ps).2.2 * (ptAt ps s).1) := by
    have q1 : (mid ps).2.2 * (ptAt ps s).1 ≤ (mid ps).2.2 * 20 := Int.mul_le_mul_of_nonneg_left b1.1.2 (by omega)
    have q2 : (mid ps).2.2 * (-20) ≤ (mid ps).2.2 * (ptAt ps s).1 := Int.mul_le_mul_of_nonneg_left b1.1.1 (by omega)
    unfold Bd; omega
  have i2 : Bd 384000 ((mid ps).2.1 - (mid ps).2.2 * (ptAt ps s).2) := by
    have q1 : (mid ps).2.2 * (ptAt ps s).2 ≤ (mid ps).2.2 * 20 := Int.mul_le_mul_of_nonneg_left b1.2.2 (by omega)
    have q2 : (mid ps).2.2 * (-20) ≤ (mid ps).2.2 * (ptAt ps s).2 := Int.mul_le_mul_of_nonneg_left b1.2.1 (by omega)
    unfold Bd; omega
  have a1 : Bd 40 (alongS ps s).1 := (b2.1.sub b1.1).mono (by omega)
  have a2 : Bd 40 (alongS ps s).2 := (b2.2.sub b1.2).mono (by omega)
  exact ((a1.mul i2).add (a2.neg.mul i1)).mono (by omega)
end Go.Proofs.Ytlehddifcjklgaa
