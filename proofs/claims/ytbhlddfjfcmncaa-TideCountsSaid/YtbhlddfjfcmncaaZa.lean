import Derived.Test.YtbhlddfjfcmncaaYe
namespace Go.Proofs.Ytbhlddfjfcmncaa
/-- how many of the n numbers from a on -/
def cnt (X : Nat → Bool) (a : Nat) : Nat → Nat
  | 0 => 0
  | n + 1 => cnt X a n + if X (a + n) then 1 else 0
theorem cnt_add (X : Nat → Bool) (a m : Nat) : ∀ n, cnt X a (m + n) = cnt X a m + cnt X (a + m) n
  | 0 => rfl
  | n + 1 => by
    show cnt X a (m + n) + (if X (a + (m + n)) then 1 else 0) = cnt X a m + (cnt X (a + m) n + if X (a + m + n) then 1 else 0)
    rw [cnt_add X a m n, Nat.add_assoc a m n]; omega
theorem cnt_congr {X Y : Nat → Bool} {a b : Nat} : ∀ n, (∀ i, i < n → X (a + i) = Y (b + i)) → cnt X a n = cnt Y b n
  | 0, _ => rfl
  | n + 1, h => by
    show cnt X a n + (if X (a + n) then 1 else 0) = cnt Y b n + if Y (b + n) then 1 else 0
    rw [cnt_congr n (fun i hi => h i (by omega)), h n (by omega)]
theorem cnt_mono (X : Nat → Bool) (a : Nat) {m n : Nat} (h : m ≤ n) : cnt X a m ≤ cnt X a n := by
  obtain ⟨d, rfl⟩ : ∃ d, n = m + d := ⟨n - m, by omega⟩
  rw [cnt_add]; omega
theorem cnt_le (X : Nat → Bool) (a : Nat) : ∀ n, cnt X a n ≤ n
  | 0 => Nat.le_refl _
  | n + 1 => by
    have := cnt_le X a n
    show cnt X a n + (if X (a + n) then 1 else 0) ≤ n + 1
    split <;> omega
theorem cnt_succ_of {X : Nat → Bool} {a n : Nat} (h : X (a + n) = true) : cnt X a (n + 1) = cnt X a n + 1 := by
  show cnt X a n + (if X (a + n) then 1 else 0) = _
  rw [h]; rfl
theorem cnt_none {X : Nat → Bool} {a : Nat} : ∀ n, (∀ i, i < n → X (a + i) = false) → cnt X a n = 0
  | 0, _ => rfl
  | n + 1, h => by
    show cnt X a n + (if X (a + n) then 1 else 0) = 0
    rw [cnt_none n (fun i hi => h i (by omega)), h n (by omega)]; rfl
/-- k is the number behind n others, from a on -/
def IsNth (X : Nat → Bool) (a n k : Nat) : Prop := a ≤ k ∧ X k = true ∧ cnt X a (k - a) = n
theorem cnt_reach {X : Nat → Bool} {a n : Nat} : ∀ m, n < cnt X a m → ∃ k, IsNth X a n k ∧ k < a + m
  | 0, h => absurd h (Nat.not_lt_zero _)
  | m + 1, h => by
    by_cases h1 : n < cnt X a m
    · obtain ⟨k, hk, hk2⟩ := cnt_reach m h1
      exact ⟨k, hk, by omega⟩
    · have e : cnt X a (m + 1) = cnt X a m + if X (a + m) then 1 else 0 := rfl
      cases hx : X (a + m) with
      | false => rw [hx] at e; simp at e; omega
      | true =>
        rw [hx] at e; simp at e
        exact ⟨a + m, ⟨by omega, hx, by rw [show a + m - a = m by omega]; omega⟩, by omega⟩
theorem IsNth.unique {X : Nat → Bool} {a n k j : Nat} (h : IsNth X a n k) (h' : IsNth X a n j) : k = j := by
  obtain ⟨h1, h2, h3⟩ := h
  obtain ⟨g1, g2, g3⟩ := h'
  have key : ∀ x y, a ≤ x → a ≤ y → X x = true → cnt X a (x - a) = cnt X a (y - a) → ¬ x < y := by
    intro x y hx hy hX e hlt
    have s := cnt_succ_of (X := X) (a := a) (n := x - a) (by rw [show a + (x - a) = x by omega]; exact hX)
    have m := cnt_mono X a (m := x - a + 1) (n := y - a) (by omega)
    omega
  have := key k j h1 g1 h2 (by omega)
  have := key j k g1 h1 g2 (by omega)
  omega
/-- the first one from h on, if there are n before it -/
theorem IsNth.next {X : Nat → Bool} {a n k h j : Nat} (hk : IsNth X a n k) (h1 : a ≤ h) (h2 : h ≤ k) (hj1 : h ≤ j) (hj2 : X j = true) (hno : ∀ i, h ≤ i → i < j → X i = false) :
    j ≤ k ∧ (cnt X a (h - a) = n → j = k) ∧ cnt X a (j - a) = cnt X a (h - a) ∧ (cnt X a (h - a) ≠ n → j < k ∧ cnt X a (j + 1 - a) = cnt X a (h - a) + 1) := by
  have e : cnt X a (j - a) = cnt X a (h - a) := by
    rw [show j - a = (h - a) + (j - h) by omega, cnt_add, cnt_none (j - h) (fun i hi => hno _ (by omega) (by omega))]; rfl
  have le : j ≤ k := by
    rcases Nat.lt_or_ge k j with h0 | h0
    · have := hno k h2 h0; rw [hk.2.1] at this; cases this
    · exact h0
  have s : cnt X a (j + 1 - a) = cnt X a (j - a) + 1 := by
    rw [show j + 1 - a = (j - a) + 1 by omega]; exact cnt_succ_of (by rw [show a + (j - a) = j by omega]; exact hj2)
  refine ⟨le, fun hn => IsNth.unique (X := X) (a := a) (n := n) ⟨by omega, hj2, by omega⟩ hk, e, fun hn => ⟨?_, by omega⟩⟩
  rcases Nat.lt_or_ge j k with h0 | h0
  · exact h0
  · have : j = k := by omega
    subst this; exact absurd (by have := hk.2.2; omega) hn
theorem IsNth.shift {X : Nat → Bool} {a b n m k : Nat} (hab : a ≤ b) (hc : cnt X a (b - a) = m) (h : IsNth X b n k) : IsNth X a (m + n) k := by
  obtain ⟨h1, h2, h3⟩ := h
  refine ⟨by omega, h2, ?_⟩
  rw [show k - a = (b - a) + (k - b) by omega, cnt_add, hc, show a + (b - a) = b by omega, h3]
theorem ones_take (l : List UInt8) (X : Nat → Bool) (a : Nat) : ∀ m, m ≤ l.length → (∀ i, i < m → X (a + i) = (l[i]?.getD 0 == 49)) → ones (l.take m) = cnt X a m
  | 0, _, _ => rfl
  | m + 1, hm, h => by
    rw [List.take_succ_eq_append_getElem (by omega)]
    show ((l.take m ++ [l[m]]).filter (· == 49)).length = cnt X a m + if X (a + m) then 1 else 0
    rw [List.filter_append, List.length_append, h m (by omega)]
    have := ones_take l X a m (by omega) (fun i hi => h i (by omega))
    unfold ones at this
    rw [this]
    simp only [List.getElem?_eq_getElem (show m < l.length by omega), Option.getD_some]
    cases hx : (l[m] == 49) <;> simp [List.filter_cons, hx]
theorem getD_list (s : ByteArray) (i : Nat) : s.data.getD i 0 = s.data.toList[i]?.getD 0 := by
  simp [Array.getD_eq_getD_getElem?]
theorem cnt_first (f r : ByteArray) (h : Nat) (hh : h ≤ f.size) : cnt (hasB f r) 0 h = ones (f.data.toList.take h) := by
  refine (ones_take _ _ 0 h (by simpa using hh) fun i hi => ?_).symm
  unfold hasB; rw [Nat.zero_add, if_pos (by omega), getD_list]
theorem cnt_round (f r : ByteArray) (j m : Nat) (hm : m ≤ r.size) : cnt (hasB f r) (f.size + j * r.size) m = ones (r.data.toList.take m) := by
  refine (ones_take _ _ _ m (by simpa using hm) fun i hi => ?_).symm
  unfold hasB
  have e : (f.size + j * r.size + i - f.size) % r.size = i := by
    rw [show f.size + j * r.size + i - f.size = i + j * r.size by omega, Nat.add_mul_mod_self_right, Nat.mod_eq_of_lt (by omega)]
  rw [if_neg (by omega), e, getD_list]
theorem cnt_rounds (f r : ByteArray) : ∀ j, cnt (hasB f r) f.size (j * r.size) = j * ones r.data.toList
  | 0 => by simp [cnt]
  | j + 1 => by
    rw [Nat.succ_mul, cnt_add, cnt_rounds f r j, cnt_round f r j r.size (Nat.le_refl _), Nat.succ_mul]
    rw [List.take_of_length_le (by simp)]
theorem countN_cnt (f r : ByteArray) (hr : 1 ≤ r.size) (h : Nat) : countN f r h = cnt (hasB f r) 0 h := by
  unfold countN
  split
  · rename_i hh; exact (cnt_first f r h hh).symm
  · rename_i hh
    have e : h = f.size + ((h - f.size) / r.size * r.size + (h - f.size) % r.size) := by
      have := Nat.div_add_mod (h - f.size) r.size; rw [Nat.mul_comm] at this; omega
    have hm := Nat.mod_lt (h - f.size) (show 0 < r.size from hr)
    generalize (h - f.size) / r.size = d at *
    generalize (h - f.size) % r.size = m at *
    have e3 : f.data.toList.take f.size = f.data.toList := List.take_of_length_le (by simp)
    rw [e, cnt_add, cnt_add, Nat.zero_add, cnt_first f r f.size (Nat.le_refl _), cnt_rounds, cnt_round f r d m (by omega), e3]
    omega
theorem cnt_all (f r : ByteArray) : cnt (hasB f r) 0 f.size = ones f.data.toList := by
  rw [cnt_first f r f.size (Nat.le_refl _), List.take_of_length_le (by simp)]
theorem cnt_one (f r : ByteArray) (j : Nat) : cnt (hasB f r) (f.size + j * r.size) r.size = ones r.data.toList := by
  rw [cnt_round f r j r.size (Nat.le_refl _), List.take_of_length_le (by simp)]
/-- what Nth looks up: in First, or in the Round in which it is -/
theorem nth_early (f r : ByteArray) (n : Nat) (h : n < ones f.data.toList) : ∃ k, IsNth (hasB f r) 0 n k ∧ k < f.size := by
  obtain ⟨k, h1, h2⟩ := cnt_reach (X := hasB f r) (a := 0) f.size (by rw [cnt_all]; exact h)
  exact ⟨k, h1, by omega⟩
theorem nth_late (f r : ByteArray) (n : Nat) (h : ¬ n < ones f.data.toList) (hr : 1 ≤ ones r.data.toList) :
    ∃ k, IsNth (hasB f r) (f.size + (n - ones f.data.toList) / ones r.data.toList * r.size) ((n - ones f.data.toList) % ones r.data.toList) k ∧ IsNth (hasB f r) 0 n k ∧
      k < f.size + (n - ones f.data.toList) / ones r.data.toList * r.size + r.size := by
  have hm := Nat.mod_lt (n - ones f.data.toList) (show 0 < ones r.data.toList from hr)
  have hd := Nat.div_add_mod (n - ones f.data.toList) (ones r.data.toList)
  rw [Nat.mul_comm] at hd
  generalize (n - ones f.data.toList) / ones r.data.toList = d at *
  generalize (n - ones f.data.toList) % ones r.data.toList = m at *
  obtain ⟨k, h1, h2⟩ := cnt_reach (X := hasB f r) (a := f.size + d * r.size) (n := m) r.size (by rw [cnt_one]; exact hm)
  refine ⟨k, h1, ?_, h2⟩
  have := h1.shift (Nat.zero_le _) (m := ones f.data.toList + d * ones r.data.toList) (by rw [Nat.sub_zero, cnt_add, cnt_all, Nat.zero_add, cnt_rounds])
  rw [show ones f.data.toList + d * ones r.data.toList + m = n by omega] at this
  exact this
end Go.Proofs.Ytbhlddfjfcmncaa
