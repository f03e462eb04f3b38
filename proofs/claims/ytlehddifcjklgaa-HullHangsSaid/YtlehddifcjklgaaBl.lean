import Derived.Test.YtlehddifcjklgaaBj
namespace Go.Proofs.Ytlehddifcjklgaa
/-- 27720 / m -/
def qm (m : Nat) : Int := 27720 / m
def sm : Nat → Int
  | 0 => 0
  | m + 1 => sm m + qm (m + 1)
/-- twice the centres from plank k on, of planks of one length -/
def tcs (L : Int) (ps : List Pt) : Int := (ps.map fun p => 2 * p.1 + L).sum
theorem q_all : (List.range 12).all (fun m => decide (55440 - qm (m + 1) ≤ sm (m + 1)) && decide (sm (m + 1) * (harF (m + 1)).2 = 27720 * (harF (m + 1)).1) && decide (0 < (harF (m + 1)).2)) = true := by kernel_rfl
theorem q_spec {m : Nat} (h1 : 1 ≤ m) (h : m ≤ 12) : 55440 - qm m ≤ sm m ∧ sm m * (harF m).2 = 27720 * (harF m).1 ∧ 0 < (harF m).2 := by
  have := List.all_eq_true.1 q_all (m - 1) (List.mem_range.2 (by omega))
  rw [show m - 1 + 1 = m by omega] at this
  simpa [and_assoc] using this
theorem step_up {m : Nat} (h1 : 1 ≤ m) (h : m ≤ 11) {T T' x L : Int} (hT : T = 2 * x + L + T') (hu : T' ≤ (x + L) * (2 * m)) : T' * qm m ≤ T * qm (m + 1) + L * qm (m + 1) := by
  subst hT
  obtain rfl | rfl | rfl | rfl | rfl | rfl | rfl | rfl | rfl | rfl | rfl : m = 1 ∨ m = 2 ∨ m = 3 ∨ m = 4 ∨ m = 5 ∨ m = 6 ∨ m = 7 ∨ m = 8 ∨ m = 9 ∨ m = 10 ∨ m = 11 := by omega
  all_goals
    simp [qm] at *
    omega
theorem reach_up {m : Nat} (h1 : 1 ≤ m) (h : m ≤ 12) {T T' x L : Int} (hT : T = 2 * x + L + T') (hd : x * (2 * ((m - 1 : Nat) : Int)) ≤ T') : 55440 * (x + L) ≤ T * qm m + 55440 * L - L * qm m := by
  subst hT
  obtain rfl | rfl | rfl | rfl | rfl | rfl | rfl | rfl | rfl | rfl | rfl | rfl : m = 1 ∨ m = 2 ∨ m = 3 ∨ m = 4 ∨ m = 5 ∨ m = 6 ∨ m = 7 ∨ m = 8 ∨ m = 9 ∨ m = 10 ∨ m = 11 ∨ m = 12 := by omega
  all_goals
    simp [qm] at *
    omega
theorem gcdI_dvd_left' (n d : Int) : gcdI n d ∣ n := by unfold gcdI; exact Int.gcd_dvd_left ..
theorem frac_le {n d x : Int} (hd : 0 < d) : (x * (frac n d).2 ≤ (frac n d).1 * 1 → x * d ≤ n) ∧ ((frac n d).1 * 1 ≤ x * (frac n d).2 → n ≤ x * d) := by
  have hg := gcdI_pos (n := n) hd
  have e1 : (frac n d).1 * gcdI n d = n := Int.tdiv_mul_cancel (gcdI_dvd_left' n d)
  have e2 : (frac n d).2 * gcdI n d = d := Int.tdiv_mul_cancel (gcdI_dvd_right n d)
  constructor
  · intro h
    have := Int.mul_le_mul_of_nonneg_right h (Int.le_of_lt hg)
    rw [Int.mul_one, Int.mul_assoc, e2, e1] at this
    exact this
  · intro h
    have := Int.mul_le_mul_of_nonneg_right h (Int.le_of_lt hg)
    rw [Int.mul_one, Int.mul_assoc, e2, e1] at this
    exact this
theorem mom_one {L : Int} : ∀ {ps : List Pt}, (∀ p ∈ ps, p.2 = L) → (ps.map momP).sum = L * tcs L ps ∧ (ps.map Prod.snd).sum = L * ps.length
  | [], _ => by simp [tcs]
  | p :: ps, h => by
    obtain ⟨h1, h2⟩ := mom_one (fun q hq => h q (List.mem_cons_of_mem _ hq)) (ps := ps)
    have hp := h p List.mem_cons_self
    unfold tcs at *
    simp only [List.map_cons, List.sum_cons, List.length_cons]
    rw [h1, h2]
    unfold momP
    rw [hp]
    constructor
    · rw [← Int.mul_add]; congr 1; omega
    · rw [Int.natCast_add, Int.mul_add]; simp; omega
/-- what a standing tower of planks of one length keeps, in whole numbers -/
theorem held_le {ps : List Pt} {L : Int} (hL : 0 < L) (ho : ∀ p ∈ ps, p.2 = L) {k : Nat} (hk : k < ps.length) (h : heldB ps k = true) :
    (k = 0 → tcs L (ps.drop 0) ≤ 0) ∧ (∀ j, k = j + 1 → (ptAt ps j).1 * (2 * ((ps.length - k : Nat) : Int)) ≤ tcs L (ps.drop k) ∧ tcs L (ps.drop k) ≤ ((ptAt ps j).1 + L) * (2 * ((ps.length - k : Nat) : Int))) := by
  obtain ⟨h1, h2⟩ := mom_one (L := L) (ps := ps.drop k) (fun p hp => ho p (List.mem_of_mem_drop hp))
  have hb : balF (ps.drop k) = frac (L * tcs L (ps.drop k)) (L * (2 * ((ps.length - k : Nat) : Int))) := by
    unfold balF; rw [h1, h2, List.length_drop]; congr 1
    rw [Int.mul_left_comm]
  have hm : 0 < L * (2 * ((ps.length - k : Nat) : Int)) := Int.mul_pos hL (by omega)
  have cancel : ∀ {x y : Int}, L * x ≤ L * y → x ≤ y := fun h => Int.le_of_mul_le_mul_left h hL
  constructor
  · rintro rfl
    unfold heldB at h
    rw [if_pos rfl, hb] at h
    unfold lessF at h
    simp only [Bool.not_eq_true', decide_eq_false_iff_not, Int.not_lt] at h
    have := (frac_le (x := 0) hm).2 (by simpa using h)
    exact cancel (by simpa using this)
  · rintro j rfl
    have hj : j < ps.length := by omega
    have hpt : (ptAt ps j).2 = L := by rw [ptAt_lt hj]; exact ho _ (List.getElem_mem _)
    unfold heldB at h
    rw [if_neg (by omega), hb, show j + 1 - 1 = j by omega, hpt] at h
    unfold withinF lessF at h
    simp only [Bool.and_eq_true, Bool.not_eq_true', decide_eq_false_iff_not, Int.not_lt] at h
    have a1 := (frac_le (x := (ptAt ps j).1) hm).1 (by simpa using h.1)
    have a2 := (frac_le (x := (ptAt ps j).1 + L) hm).2 (by simpa using h.2)
    constructor
    · refine cancel ?_
      rw [Int.mul_left_comm]; exact a1
    · refine cancel ?_
      rw [Int.mul_left_comm]; exact a2
theorem tcs_drop {L : Int} {ps : List Pt} {k : Nat} (hk : k < ps.length) : tcs L (ps.drop k) = 2 * (ptAt ps k).1 + L + tcs L (ps.drop (k + 1)) := by
  rw [List.drop_eq_getElem_cons hk, ptAt_lt hk]
  unfold tcs
  rw [List.map_cons, List.sum_cons]
theorem stand_held {ps : List Pt} (h : (standF ps).2 = true) : ∀ k, k < ps.length → heldB ps k = true := by
  intro k hk
  unfold standF at h
  cases hf : (List.range ps.length).find? (fun k => !heldB ps k) with
  | some j => rw [hf] at h; cases h
  | none =>
    have := List.find?_eq_none.1 hf k (List.mem_range.2 hk)
    simpa using this
theorem sm_up {L : Int} (hL : 0 < L) {ps : List Pt} (h12 : ps.length ≤ 12) (ho : ∀ p ∈ ps, p.2 = L) (hs : ∀ k, k < ps.length → heldB ps k = true) :
    ∀ k, k < ps.length → tcs L (ps.drop k) * qm (ps.length - k) ≤ L * sm ps.length - L * sm (ps.length - k)
  | 0, hk => by
    have h0 := (held_le hL ho hk (hs 0 hk)).1 rfl
    have hq : 0 ≤ qm (ps.length - 0) := by unfold qm; exact Int.ediv_nonneg (by omega) (by omega)
    have := Int.mul_le_mul_of_nonneg_right h0 hq
    rw [Int.zero_mul] at this
    simp only [Nat.sub_zero] at *
    omega
  | k + 1, hk => by
    have ih := sm_up hL h12 ho hs k (by omega)
    obtain ⟨_, hu⟩ := (held_le hL ho hk (hs (k + 1) hk)).2 k rfl
    have hT := tcs_drop (L := L) (ps := ps) (k := k) (by omega)
    have := step_up (m := ps.length - (k + 1)) (by omega) (by omega) hT hu
    have e : ps.length - k = ps.length - (k + 1) + 1 := by omega
    rw [e] at ih
    have e2 : sm (ps.length - (k + 1) + 1) = sm (ps.length - (k + 1)) + qm (ps.length - (k + 1) + 1) := rfl
    rw [e2, Int.mul_add] at ih
    omega
theorem reach_le {L : Int} (hL : 0 < L) {ps : List Pt} (h12 : ps.length ≤ 12) (ho : ∀ p ∈ ps, p.2 = L) (hs : ∀ k, k < ps.length → heldB ps k = true) (k : Nat) (hk : k < ps.length) :
    55440 * ((ptAt ps k).1 + L) ≤ L * sm ps.length := by
  have h1 := sm_up hL h12 ho hs k hk
  have hT := tcs_drop (L := L) (ps := ps) hk
  have hd : (ptAt ps k).1 * (2 * ((ps.length - k - 1 : Nat) : Int)) ≤ tcs L (ps.drop (k + 1)) := by
    by_cases hk1 : k + 1 < ps.length
    · have := ((held_le hL ho hk1 (hs (k + 1) hk1)).2 k rfl).1
      rw [show ps.length - k - 1 = ps.length - (k + 1) by omega]; exact this
    · rw [show ps.length - k - 1 = 0 by omega, List.drop_of_length_le (by omega)]
      simp [tcs]
  have h2 := reach_up (m := ps.length - k) (by omega) (by omega) hT hd
  have h3 := (q_spec (m := ps.length - k) (by omega) (by omega)).1
  have h4 := Int.mul_le_mul_of_nonneg_left h3 (Int.le_of_lt hL)
  rw [Int.mul_sub] at h4
  omega
theorem rch_mem {ps : List Pt} (h1 : 1 ≤ ps.length) : ∀ j, j ≤ ps.length → ∃ k, k < ps.length ∧ rch ps j = (ptAt ps k).1 + (ptAt ps k).2
  | 0, _ => ⟨0, by omega, rfl⟩
  | j + 1, h => by
    obtain ⟨k, hk, e⟩ := rch_mem h1 j (by omega)
    unfold rch
    rw [e, Int.max_def]
    split
    · exact ⟨j, by omega, rfl⟩
    · exact ⟨k, hk, rfl⟩
/-- the tower that stands has a reach of at most half the length times the harmonic number -/
theorem hangs {L : Int} (hL : 0 < L) {ps : List Pt} (h1 : 1 ≤ ps.length) (h12 : ps.length ≤ 12) (ho : ∀ p ∈ ps, p.2 = L) (hs : (standF ps).2 = true) :
    2 * rch ps ps.length * (harF ps.length).2 ≤ L * (harF ps.length).1 := by
  obtain ⟨k, hk, e⟩ := rch_mem h1 ps.length (Nat.le_refl _)
  have hpt : (ptAt ps k).2 = L := by rw [ptAt_lt hk]; exact ho _ (List.getElem_mem _)
  rw [e, hpt]
  have h2 := reach_le hL h12 ho (stand_held hs) k hk
  obtain ⟨_, h3, h4⟩ := q_spec h1 h12
  have h5 := Int.mul_le_mul_of_nonneg_right h2 (Int.le_of_lt h4)
  rw [Int.mul_assoc, Int.mul_assoc, h3] at h5
  rw [Int.mul_assoc]
  generalize ((ptAt ps k).1 + L) * (harF ps.length).2 = X at *
  rw [Int.mul_left_comm] at h5
  generalize L * (harF ps.length).1 = Y at *
  omega
end Go.Proofs.Ytlehddifcjklgaa
