import Derived.Test.YtbhlddfjfcmncaaC
namespace Go.Proofs.Ytbhlddfjfcmncaa
/-- from K on X goes round by D -/
def Per {α : Type} (X : Nat → α) (K D : Nat) : Prop := ∀ i, K ≤ i → X (i + D) = X i
/-- the shortest round, and the first hour from which it goes round -/
structure IsForm {α : Type} (X : Nat → α) (K D : Nat) : Prop where
  pos : 1 ≤ D
  per : Per X K D
  least : ∀ K' D', 1 ≤ D' → Per X K' D' → D ≤ D'
  first : ∀ K', Per X K' D → K ≤ K'
theorem IsForm.unique {α : Type} {X : Nat → α} {K D K' D' : Nat} (h : IsForm X K D) (h' : IsForm X K' D') : K = K' ∧ D = D' := by
  have e : D = D' := Nat.le_antisymm (h.least _ _ h'.pos h'.per) (h'.least _ _ h.pos h.per)
  subst e
  exact ⟨Nat.le_antisymm (h.first _ h'.per) (h'.first _ h.per), rfl⟩
theorem Per.mono {α : Type} {X : Nat → α} {K K' D : Nat} (h : Per X K D) (hk : K ≤ K') : Per X K' D := fun i hi => h i (Nat.le_trans hk hi)
theorem Per.mul {α : Type} {X : Nat → α} {K D : Nat} (h : Per X K D) : ∀ m i, K ≤ i → X (i + m * D) = X i
  | 0, i, _ => by simp
  | m + 1, i, hi => by
    rw [show i + (m + 1) * D = (i + m * D) + D by rw [Nat.succ_mul]; omega, h _ (by omega)]
    exact Per.mul h m i hi
theorem Per.times {α : Type} {X : Nat → α} {K D : Nat} (h : Per X K D) (m : Nat) : Per X K (m * D) := fun i hi => h.mul m i hi
theorem Per.sub {α : Type} {X : Nat → α} {K a b : Nat} (ha : Per X K a) (hb : Per X K b) (hab : b ≤ a) : Per X K (a - b) := fun i hi => by
  have := hb (i + (a - b)) (by omega)
  rw [← this, show i + (a - b) + b = i + a by omega]; exact ha i hi
theorem Per.mod {α : Type} {X : Nat → α} {K a b : Nat} (ha : Per X K a) (hb : Per X K b) : Per X K (a % b) := by
  have := Per.sub ha (hb.times (a / b)) (Nat.div_mul_le_self a b)
  have e : a - a / b * b = a % b := by have := Nat.div_add_mod a b; rw [Nat.mul_comm] at this; omega
  rwa [e] at this
theorem Per.gcd {α : Type} {X : Nat → α} {K : Nat} : ∀ {a b : Nat}, Per X K a → Per X K b → Per X K (Nat.gcd a b) := by
  intro a
  induction a using Nat.strongRecOn with
  | _ a ih =>
    intro b ha hb
    by_cases h : a = 0
    · subst h; rw [Nat.gcd_zero_left]; exact hb
    · rw [Nat.gcd_rec]
      exact ih _ (Nat.mod_lt _ (by omega)) (hb.mod ha) ha
/-- what goes round by R from F on, and by d from K on, goes round by d from F on -/
theorem Per.back {α : Type} {X : Nat → α} {F R K d : Nat} (hR : Per X F R) (hR1 : 1 ≤ R) (hd : Per X K d) : Per X F d := fun i hi => by
  have h1 := hR.mul K i hi
  have h2 := hR.mul K (i + d) (by omega)
  have hk : K ≤ K * R := Nat.le_mul_of_pos_right _ hR1
  rw [← h1, ← h2, show i + d + K * R = (i + K * R) + d by omega]
  exact hd _ (by omega)
/-- a round seen in a long enough window is one -/
theorem Per.window {α : Type} {X : Nat → α} {F R s N d : Nat} (hR : Per X F R) (hR1 : 1 ≤ R) (hs : F ≤ s) (hw : ∀ i, s ≤ i → i + d < N → X (i + d) = X i) (hN : s + d + R ≤ N) : Per X s d := fun i hi => by
  have e : i = (s + (i - s) % R) + (i - s) / R * R := by have := Nat.div_add_mod (i - s) R; rw [Nat.mul_comm] at this; omega
  have lt : (i - s) % R < R := Nat.mod_lt _ hR1
  generalize (i - s) % R = t at *
  generalize (i - s) / R = m at *
  have h1 := hR.mul m (s + t) (by omega)
  have h2 := hR.mul m (s + t + d) (by omega)
  rw [e, h1, show s + t + m * R + d = s + t + d + m * R by omega, h2]
  exact hw _ (by omega) (by omega)
theorem IsForm.dvd {α : Type} {X : Nat → α} {K D F R : Nat} (h : IsForm X K D) (hR : Per X F R) (_hR1 : 1 ≤ R) : D ∣ R := by
  have h1 : Per X (max K F) D := h.per.mono (by omega)
  have h2 : Per X (max K F) R := hR.mono (by omega)
  have h3 := h.least _ _ (Nat.gcd_pos_of_pos_left _ h.pos) (h1.gcd h2)
  have h4 : Nat.gcd D R = D := Nat.le_antisymm (Nat.gcd_le_left _ h.pos) h3
  rw [← h4]; exact Nat.gcd_dvd_right _ _
theorem IsForm.le_first {α : Type} {X : Nat → α} {K D F R : Nat} (h : IsForm X K D) (hR : Per X F R) (hR1 : 1 ≤ R) : K ≤ F :=
  h.first _ (hR.back hR1 h.per)

/-- the row that a list of marks tells, going round from first on -/
def genL (l : List UInt8) (first h : Nat) : UInt8 := if h < first then l[h]?.getD 0 else l[first + (h - first) % (l.length - first)]?.getD 0
theorem genL_lt {l : List UInt8} {first h : Nat} (hh : h < l.length) : genL l first h = l[h]?.getD 0 := by
  unfold genL; split
  · rfl
  · rw [Nat.mod_eq_of_lt (by omega), show first + (h - first) = h by omega]
theorem genL_per (l : List UInt8) (first : Nat) : Per (genL l first) first (l.length - first) := fun i hi => by
  unfold genL
  rw [if_neg (by omega), if_neg (by omega), show i + (l.length - first) - first = (i - first) + (l.length - first) by omega, Nat.add_mod_right]
theorem shortFrom_no (l : List UInt8) : ∀ fuel n j, n ≤ j → j < shortFrom l fuel n → isPer l j = false
  | 0, n, j, h1, h2 => by unfold shortFrom at h2; omega
  | fuel + 1, n, j, h1, h2 => by
    unfold shortFrom at h2
    cases hp : isPer l n
    · rw [hp] at h2; simp at h2
      by_cases hj : j = n
      · subst hj; exact hp
      · exact shortFrom_no l fuel (n + 1) j (by omega) h2
    · rw [hp] at h2; simp at h2; omega
theorem shortFrom_yes (l : List UInt8) : ∀ fuel n, shortFrom l fuel n = n + fuel ∨ isPer l (shortFrom l fuel n) = true
  | 0, n => .inl rfl
  | fuel + 1, n => by
    unfold shortFrom
    cases hp : isPer l n
    · simp
      rcases shortFrom_yes l fuel (n + 1) with h | h
      · exact .inl (by omega)
      · exact .inr h
    · simp [hp]
theorem isPer_iff (l : List UInt8) (n : Nat) : isPer l n = true ↔ l.length % n = 0 ∧ ∀ j, j + n < l.length → l[j + n]?.getD 0 = l[j]?.getD 0 := by
  unfold isPer
  rw [Bool.and_eq_true, beq_iff_eq, decide_eq_true_iff]
  refine and_congr_right fun _ => ⟨fun h j hj => ?_, fun h => ?_⟩
  · have h1 : (l.drop n)[j]? = (l.take (l.length - n))[j]? := by rw [h]
    rw [List.getElem?_drop, List.getElem?_take, if_pos (by omega), Nat.add_comm n j] at h1
    rw [h1]
  · apply List.ext_getElem?
    intro j
    rw [List.getElem?_drop, List.getElem?_take]
    by_cases hj : j + n < l.length
    · rw [if_pos (by omega), Nat.add_comm n j]
      have h1 := h j hj
      have a : l[j + n]? = some l[j + n] := List.getElem?_eq_getElem hj
      have b : l[j]? = some (l[j]'(by omega)) := List.getElem?_eq_getElem (by omega)
      rw [a, b] at h1 ⊢
      simp at h1; rw [h1]
    · split
      · omega
      · simp; omega
/-- a round of a list that divides it is one of the row -/
theorem isPer_per {l : List UInt8} {first n : Nat} (_hf : first < l.length) (hn : 1 ≤ n) (hle : n ≤ l.length - first) (h : isPer (l.drop first) n = true) : Per (genL l first) first n := by
  obtain ⟨h0, h1⟩ := (isPer_iff _ _).1 h
  rw [List.length_drop] at h0 h1
  obtain ⟨m, hm⟩ := Nat.dvd_of_mod_eq_zero h0
  have hst : ∀ k t, t + k * n < l.length - first → (l.drop first)[t + k * n]?.getD 0 = (l.drop first)[t]?.getD 0 := by
    intro k
    induction k with
    | zero => intro t _; simp
    | succ k ih =>
      intro t ht
      rw [Nat.succ_mul] at ht ⊢
      rw [show t + (k * n + n) = (t + k * n) + n by omega, h1 _ (by omega)]
      exact ih t (by omega)
  intro i hi
  unfold genL
  rw [if_neg (by omega), if_neg (by omega)]
  have key : ∀ j, l[first + j]?.getD 0 = (l.drop first)[j]?.getD 0 := fun j => by rw [List.getElem?_drop]
  rw [key, key, show i + n - first = (i - first) + n by omega]
  generalize i - first = x
  generalize hL : l.length - first = L at *
  have hx : x % L < L := Nat.mod_lt _ (by omega)
  by_cases hc : x % L + n < L
  · have : (x + n) % L = x % L + n := by rw [Nat.add_mod, Nat.mod_eq_of_lt (a := n) (by omega), Nat.mod_eq_of_lt hc]
    rw [this, h1 _ hc]
  · have e : (x + n) % L = x % L + n - L := by
      by_cases hn2 : n = L
      · subst hn2; rw [Nat.add_mod_right]; omega
      · rw [Nat.add_mod, Nat.mod_eq_of_lt (a := n) (by omega), Nat.mod_eq_sub_mod (by omega), Nat.mod_eq_of_lt (by omega)]
    rw [e]
    obtain ⟨t, ht⟩ : ∃ t, t = x % L + n - L := ⟨_, rfl⟩
    have hm1 : 1 ≤ m := by rcases Nat.eq_zero_or_pos m with h | h; · subst h; simp at hm; omega
                           · exact h
    have e2 : x % L = t + (m - 1) * n := by
      have : m * n = (m - 1) * n + n := by rw [← Nat.succ_mul]; congr 1; omega
      rw [Nat.mul_comm] at hm; omega
    rw [← ht, e2]
    exact (hst (m - 1) t (by omega)).symm
theorem per_isPer {l : List UInt8} {first n : Nat} (hf : first < l.length) (hd : (l.length - first) % n = 0) (h : Per (genL l first) first n) : isPer (l.drop first) n = true := by
  refine (isPer_iff _ _).2 ⟨by rw [List.length_drop]; exact hd, fun j hj => ?_⟩
  rw [List.length_drop] at hj
  have := h (first + j) (by omega)
  rw [genL_lt (by omega), genL_lt (by omega)] at this
  rw [List.getElem?_drop, List.getElem?_drop, show first + (j + n) = first + j + n by omega]; exact this
theorem short_per {l : List UInt8} {first : Nat} (hf : first < l.length) : Per (genL l first) first (shortestL (l.drop first)) := by
  have hle := shortestL_le (l.drop first) (by rw [List.length_drop]; omega)
  rw [List.length_drop] at hle
  have := shortFrom_yes (l.drop first) ((l.drop first).length - 1) 1
  rcases this with h | h
  · have e : shortestL (l.drop first) = l.length - first := by unfold shortestL; rw [h, List.length_drop]; omega
    rw [e]; exact genL_per l first
  · exact isPer_per hf hle.1 hle.2 h
theorem short_least {l : List UInt8} {first K' D' : Nat} (hf : first < l.length) (hD : 1 ≤ D') (h : Per (genL l first) K' D') : shortestL (l.drop first) ≤ D' := by
  have hle := shortestL_le (l.drop first) (by rw [List.length_drop]; omega)
  rw [List.length_drop] at hle
  have hp := genL_per l first
  have h2 := (hp.back (by omega) h).gcd hp
  have g1 : 1 ≤ Nat.gcd D' (l.length - first) := Nat.gcd_pos_of_pos_left _ hD
  have g2 : Nat.gcd D' (l.length - first) ≤ D' := Nat.gcd_le_left _ hD
  have g3 : (l.length - first) % Nat.gcd D' (l.length - first) = 0 := Nat.mod_eq_zero_of_dvd (Nat.gcd_dvd_right _ _)
  have h3 := per_isPer hf g3 h2
  refine Nat.le_trans ?_ g2
  by_cases hlt : Nat.gcd D' (l.length - first) < shortestL (l.drop first)
  · have := shortFrom_no (l.drop first) ((l.drop first).length - 1) 1 _ g1 hlt
    rw [h3] at this; cases this
  · omega
theorem backL_run (l : List UInt8) (rd : Nat) : ∀ k j, backL l rd k ≤ j → j < k → l[j]?.getD 0 = l[j + rd]?.getD 0
  | 0, j, _, h => by omega
  | k + 1, j, h1, h2 => by
    unfold backL at h1
    cases hc : (l[k]?.getD 0 == l[k + rd]?.getD 0)
    · rw [hc] at h1; simp at h1; omega
    · rw [hc] at h1; simp at h1
      by_cases hj : j = k
      · subst hj; exact beq_iff_eq.1 hc
      · exact backL_run l rd k j h1 (by omega)
theorem backL_stop (l : List UInt8) (rd : Nat) : ∀ k j, backL l rd k = j + 1 → l[j]?.getD 0 ≠ l[j + rd]?.getD 0
  | 0, j, h => by unfold backL at h; omega
  | k + 1, j, h => by
    unfold backL at h
    cases hc : (l[k]?.getD 0 == l[k + rd]?.getD 0)
    · rw [hc] at h; simp at h; subst h; exact fun e => by rw [e] at hc; simp at hc
    · rw [hc] at h; simp at h; exact backL_stop l rd k j h
/-- what the program makes is the form -/
theorem form_isForm {l : List UInt8} {first : Nat} (hf : first < l.length) : IsForm (genL l first) (formK l first) (shortestL (l.drop first)) := by
  have hle := shortestL_le (l.drop first) (by rw [List.length_drop]; omega)
  rw [List.length_drop] at hle
  have hsp := short_per hf
  have hk := backL_le l (shortestL (l.drop first)) first
  refine ⟨hle.1, fun i hi => ?_, fun K' D' h1 h2 => short_least hf h1 h2, fun K' h => ?_⟩
  · by_cases hc : first ≤ i
    · exact hsp i hc
    · rw [genL_lt (by omega), genL_lt (by omega)]
      exact (backL_run l _ first i hi (by omega)).symm
  · rcases Nat.eq_zero_or_pos (formK l first) with h0 | h0
    · omega
    · obtain ⟨j, hj⟩ : ∃ j, formK l first = j + 1 := ⟨formK l first - 1, by omega⟩
      have hs := backL_stop l _ first j hj
      by_cases hK : formK l first ≤ K'
      · exact hK
      · have hkf : formK l first ≤ first := hk
        have := h j (by omega)
        rw [genL_lt (by omega), genL_lt (by omega)] at this
        exact absurd this.symm hs
theorem formF_eq {l : List UInt8} {first : Nat} (hf : first < l.length) : formF l first = (List.range (formK l first)).map (genL l first) := by
  have hk : formK l first ≤ first := backL_le l _ first
  unfold formF
  apply List.ext_getElem
  · simp; omega
  · intro i h1 h2
    simp at h1 h2 ⊢
    rw [genL_lt (by omega)]; simp [show i < l.length by omega]
theorem formR_eq {l : List UInt8} {first : Nat} (hf : first < l.length) : formR l first = (List.range (shortestL (l.drop first))).map fun j => genL l first (formK l first + j) := by
  have hk : formK l first ≤ first := backL_le l _ first
  have hle := shortestL_le (l.drop first) (by rw [List.length_drop]; omega)
  rw [List.length_drop] at hle
  unfold formR
  apply List.ext_getElem
  · simp; omega
  · intro i h1 h2
    simp at h1 h2 ⊢
    rw [genL_lt (by omega)]; simp [show formK l first + i < l.length by omega]
/-- two lists that tell one row have one form -/
theorem form_unique {l m : List UInt8} {a b : Nat} (ha : a < l.length) (hb : b < m.length) (h : ∀ i, genL l a i = genL m b i) : formF l a = formF m b ∧ formR l a = formR m b := by
  have e : genL l a = genL m b := funext h
  have h1 := form_isForm ha
  have h2 := form_isForm hb
  rw [e] at h1
  obtain ⟨e1, e2⟩ := h1.unique h2
  rw [formF_eq ha, formF_eq hb, formR_eq ha, formR_eq hb, e, e1, e2]; exact ⟨rfl, rfl⟩
end Go.Proofs.Ytbhlddfjfcmncaa
