import Derived.Test.YtbhlddfjfcmncaaYa
import Derived.Test.YtbhlddfjfcmncaaP
import Derived.Test.YtbhlddfjfcmncaaI
import Derived.Test.YtbhlddfjfcmncaaM
namespace Go.Proofs.Ytbhlddfjfcmncaa
theorem markU_eq (b : Bool) : (markU b == 49) = b := by cases b <;> rfl
theorem markU_inj {a b : Bool} (h : markU a = markU b) : a = b := by rw [← markU_eq a, ← markU_eq b, h]
theorem per_mark {Y : Nat → Bool} {K D : Nat} : Per (fun i => markU (Y i)) K D ↔ Per Y K D :=
  ⟨fun h i hi => markU_inj (h i hi), fun h i hi => congrArg markU (h i hi)⟩
theorem isForm_mark {Y : Nat → Bool} {K D : Nat} (h : IsForm (fun i => markU (Y i)) K D) : IsForm Y K D :=
  ⟨h.pos, per_mark.1 h.per, fun K' D' h1 h2 => h.least K' D' h1 (per_mark.2 h2), fun K' h1 => h.first K' (per_mark.2 h1)⟩
def marksL (Y : Nat → Bool) (n : Nat) : List UInt8 := (List.range n).map fun i => markU (Y i)
theorem marksL_length (Y : Nat → Bool) (n : Nat) : (marksL Y n).length = n := by unfold marksL; simp
theorem marksL_get (Y : Nat → Bool) (n i : Nat) (h : i < n) : (marksL Y n)[i]?.getD 0 = markU (Y i) := by unfold marksL; simp [h]
theorem genL_marks {Y : Nat → Bool} {n first : Nat} (hf : first < n) (hp : Per Y first (n - first)) : genL (marksL Y n) first = fun i => markU (Y i) := by
  funext i
  unfold genL
  rw [marksL_length]
  split
  · rw [marksL_get _ _ _ (by omega)]
  · have lt : (i - first) % (n - first) < n - first := Nat.mod_lt _ (by omega)
    rw [marksL_get _ _ _ (by omega)]
    have := hp.mul ((i - first) / (n - first)) (first + (i - first) % (n - first)) (by omega)
    rw [← this]
    have e := Nat.div_add_mod (i - first) (n - first)
    rw [Nat.mul_comm] at e
    rw [show first + (i - first) % (n - first) + (i - first) / (n - first) * (n - first) = i by omega]
/-- the strings of a form -/
def rowF (Y : Nat → Bool) (K : Nat) : List UInt8 := marksL Y K
def rowR (Y : Nat → Bool) (K D : Nat) : List UInt8 := marksL (fun j => Y (K + j)) D
/-- what the program makes of the marks of a row that goes round -/
theorem form_marks {Y : Nat → Bool} {n first : Nat} (hf : first < n) (hp : Per Y first (n - first)) :
    ∃ K D, IsForm Y K D ∧ K ≤ first ∧ D ≤ n - first ∧ D ∣ n - first ∧ formF (marksL Y n) first = rowF Y K ∧ formR (marksL Y n) first = rowR Y K D := by
  have hl : first < (marksL Y n).length := by rw [marksL_length]; exact hf
  have h := form_isForm hl
  rw [genL_marks hf hp] at h
  have hY := isForm_mark h
  refine ⟨_, _, hY, hY.le_first hp (by omega), Nat.le_of_dvd (by omega) (hY.dvd hp (by omega)), hY.dvd hp (by omega), ?_, ?_⟩
  · rw [formF_eq hl, genL_marks hf hp]; rfl
  · rw [formR_eq hl, genL_marks hf hp]; rfl
theorem toS_getD (l : List UInt8) (j : Nat) : (toS l).data.getD j 0 = l[j]?.getD 0 := by
  unfold toS; simp [Array.getD_eq_getD_getElem?]
theorem hasB_rows {Y : Nat → Bool} {K D : Nat} (hD : 1 ≤ D) (hp : Per Y K D) (h : Nat) : hasB (toS (rowF Y K)) (toS (rowR Y K D)) h = Y h := by
  unfold hasB rowF rowR
  rw [toS_size, toS_size, marksL_length, marksL_length, toS_getD, toS_getD]
  split
  · rw [marksL_get _ _ _ (by omega), markU_eq]
  · have lt : (h - K) % D < D := Nat.mod_lt _ hD
    rw [marksL_get _ _ _ lt, markU_eq]
    have := hp.mul ((h - K) / D) (K + (h - K) % D) (by omega)
    rw [← this]
    have e := Nat.div_add_mod (h - K) D
    rw [Nat.mul_comm] at e
    rw [show K + (h - K) % D + (h - K) / D * D = h by omega]
theorem hasB_per (f r : ByteArray) (k : Nat) : Per (hasB f r) f.size (k * r.size) := fun i hi => by
  unfold hasB
  rw [if_neg (by omega), if_neg (by omega), show i + k * r.size - f.size = (i - f.size) + k * r.size by omega, Nat.add_mul_mod_self_right]
theorem rowF_congr {Y Z : Nat → Bool} (h : ∀ i, Y i = Z i) (K : Nat) : rowF Y K = rowF Z K := by rw [show Y = Z from funext h]
/-- forms of one row are one -/
theorem rows_unique {Y : Nat → Bool} {K D K' D' : Nat} (h : IsForm Y K D) (h' : IsForm Y K' D') : rowF Y K = rowF Y K' ∧ rowR Y K D = rowR Y K' D' := by
  obtain ⟨rfl, rfl⟩ := h.unique h'; exact ⟨rfl, rfl⟩
theorem all_marks (Y : Nat → Bool) (n : Nat) : (marksL Y n).all isMark = true := by
  unfold marksL; rw [List.all_eq_true]; intro x hx
  obtain ⟨i, _, rfl⟩ := List.mem_map.1 hx
  cases Y i <;> rfl
theorem isForm_not {Y : Nat → Bool} {K D : Nat} (h : IsForm Y K D) : IsForm (fun i => !Y i) K D := by
  have key : ∀ K D, Per (fun i => !Y i) K D ↔ Per Y K D := fun K D => ⟨fun h i hi => by have := h i hi; simpa using this, fun h i hi => by have := h i hi; simp [this]⟩
  exact ⟨h.pos, (key _ _).2 h.per, fun K' D' h1 h2 => h.least K' D' h1 ((key _ _).1 h2), fun K' h1 => h.first K' ((key _ _).1 h1)⟩

/-! slopes -/
def slopeY (p q r i : Nat) : Bool := ((p * i + r) / q) != ((p * (i + 1) + r) / q)
def slopeS (p q r i : Nat) : Nat := (p * i + r) / q
theorem slopeS_succ {p q r : Nat} (hq : 1 ≤ q) (hp : p ≤ q) (i : Nat) : slopeS p q r (i + 1) = slopeS p q r i + if slopeY p q r i then 1 else 0 := by
  have hle : slopeS p q r i ≤ slopeS p q r (i + 1) := Nat.div_le_div_right (by rw [Nat.mul_succ]; omega)
  have hge : slopeS p q r (i + 1) ≤ slopeS p q r i + 1 := by
    unfold slopeS
    rw [← Nat.add_div_right _ hq]
    exact Nat.div_le_div_right (by rw [Nat.mul_succ]; omega)
  unfold slopeY
  unfold slopeS at *
  by_cases h : (p * i + r) / q = (p * (i + 1) + r) / q
  · rw [h]; simp
  · have : ((p * i + r) / q != (p * (i + 1) + r) / q) = true := by simpa using h
    rw [this, if_pos rfl]; omega
theorem slope_per {p q r : Nat} (hq : 1 ≤ q) (m k : Nat) (h : p * m = k * q) : Per (slopeY p q r) 0 m := fun i _ => by
  unfold slopeY
  have e : ∀ i, (p * (i + m) + r) / q = (p * i + r) / q + k := fun i => by
    rw [Nat.mul_add, h, show p * i + k * q + r = (p * i + r) + k * q by omega, Nat.add_mul_div_right _ _ hq]
  rw [e, show i + m + 1 = (i + 1) + m by omega, e]
  rw [Bool.eq_iff_iff]; simp
theorem slopeS_add {p q r : Nat} (hq : 1 ≤ q) (hp : p ≤ q) {D : Nat} (h : Per (slopeY p q r) 0 D) (n : Nat) : slopeS p q r (n + D) + slopeS p q r 0 = slopeS p q r n + slopeS p q r D := by
  induction n with
  | zero => rw [Nat.zero_add]; omega
  | succ n ih =>
    rw [show n + 1 + D = (n + D) + 1 by omega, slopeS_succ hq hp, slopeS_succ hq hp n, h n (Nat.zero_le _)]; omega
theorem slopeS_zero {p q r : Nat} (hr : r < q) : slopeS p q r 0 = 0 := by
  unfold slopeS; rw [Nat.mul_zero, Nat.zero_add]; exact Nat.div_eq_of_lt hr
theorem slopeS_mul {p q r : Nat} (hq : 1 ≤ q) (hp : p ≤ q) (hr : r < q) {D : Nat} (h : Per (slopeY p q r) 0 D) (m : Nat) : slopeS p q r (m * D) = m * slopeS p q r D := by
  induction m with
  | zero => rw [Nat.zero_mul, Nat.zero_mul]; exact slopeS_zero hr
  | succ m ih =>
    have := slopeS_add hq hp h (m * D)
    rw [slopeS_zero hr] at this
    rw [Nat.succ_mul, Nat.succ_mul, ← ih]; omega
theorem gcd_pos_q {p q : Nat} (hq : 1 ≤ q) : 1 ≤ Nat.gcd q p := Nat.gcd_pos_of_pos_left _ hq
theorem slope_isForm {p q r : Nat} (hq : 1 ≤ q) (hp : p ≤ q) (hr : r < q) : IsForm (slopeY p q r) 0 (q / Nat.gcd q p) := by
  have hg := gcd_pos_q (p := p) hq
  have h1 : Nat.gcd q p * (q / Nat.gcd q p) = q := Nat.mul_div_cancel' (Nat.gcd_dvd_left _ _)
  have h2 : Nat.gcd q p * (p / Nat.gcd q p) = p := Nat.mul_div_cancel' (Nat.gcd_dvd_right _ _)
  have hco : Nat.Coprime (q / Nat.gcd q p) (p / Nat.gcd q p) := Nat.coprime_div_gcd_div_gcd hg
  have hperq : Per (slopeY p q r) 0 q := slope_per hq q p rfl
  refine ⟨Nat.div_pos (Nat.gcd_le_left _ hq) hg, slope_per hq _ (p / Nat.gcd q p) ?_, fun K' D' hD h => ?_, fun K' _ => Nat.zero_le _⟩
  · generalize Nat.gcd q p = g at *
    generalize q / g = a at *
    generalize p / g = b at *
    rw [← h1, ← h2, Nat.mul_comm g b, Nat.mul_assoc]
  · have h0 := hperq.back hq h
    have h3 := slopeS_mul hq hp hr h0 q
    have h4 : slopeS p q r (q * D') = p * D' := by
      unfold slopeS
      rw [show p * (q * D') + r = r + q * (p * D') by rw [Nat.mul_left_comm]; omega, Nat.add_mul_div_left _ _ hq, Nat.div_eq_of_lt hr, Nat.zero_add]
    rw [h4] at h3
    have hdvd : q / Nat.gcd q p ∣ D' := by
      refine Nat.Coprime.dvd_of_dvd_mul_left hco (n := D') ?_
      refine ⟨slopeS p q r D', ?_⟩
      generalize Nat.gcd q p = g at *
      generalize q / g = a at *
      generalize p / g = b at *
      generalize slopeS p q r D' = s at *
      subst h1 h2
      rw [Nat.mul_assoc, Nat.mul_assoc] at h3
      exact Nat.eq_of_mul_eq_mul_left hg h3
    exact Nat.le_of_dvd hD hdvd
theorem ones_marksL_slope {p q r : Nat} (hq : 1 ≤ q) (hp : p ≤ q) (hr : r < q) (n : Nat) : ones (marksL (slopeY p q r) n) = slopeS p q r n := by
  induction n with
  | zero => rw [slopeS_zero hr]; rfl
  | succ n ih =>
    rw [slopeS_succ hq hp, ← ih]
    unfold ones marksL
    rw [List.range_succ, List.map_append, List.filter_append, List.length_append]
    congr 1
    cases h : slopeY p q r n <;> simp [h, markU]
theorem slopeL_marks (p q r : Nat) : slopeL p q r = marksL (slopeY p q r) q := rfl
/-- the strings of a slope's tide -/
theorem slope_rows {p q r : Nat} (hq : 1 ≤ q) (hp : p ≤ q) (hr : r < q) : slopeF p q r = [] ∧ slopeR p q r = marksL (slopeY p q r) (q / Nat.gcd q p) := by
  obtain ⟨K, D, hF, _, _, _, e1, e2⟩ := form_marks (Y := slopeY p q r) (n := q) (first := 0) (by omega) (slope_per hq _ p rfl)
  obtain ⟨rfl, rfl⟩ := hF.unique (slope_isForm hq hp hr)
  unfold slopeF slopeR
  rw [slopeL_marks, e1, e2]
  refine ⟨rfl, ?_⟩
  unfold rowR; rw [show (fun j => slopeY p q r (0 + j)) = slopeY p q r from funext fun j => by rw [Nat.zero_add]]
theorem slope_ones {p q r : Nat} (hq : 1 ≤ q) (hp : p ≤ q) (hr : r < q) : ones (slopeR p q r) = p / Nat.gcd q p := by
  have hg := gcd_pos_q (p := p) hq
  have h1 : Nat.gcd q p * (q / Nat.gcd q p) = q := Nat.mul_div_cancel' (Nat.gcd_dvd_left _ _)
  have h2 : Nat.gcd q p * (p / Nat.gcd q p) = p := Nat.mul_div_cancel' (Nat.gcd_dvd_right _ _)
  rw [(slope_rows hq hp hr).2, ones_marksL_slope hq hp hr]
  unfold slopeS
  generalize Nat.gcd q p = g at *
  generalize q / g = a at *
  generalize p / g = b at *
  subst h1 h2
  rw [show g * b * a + r = r + (g * a) * b by rw [Nat.mul_assoc, Nat.mul_comm b a, ← Nat.mul_assoc]; omega, Nat.add_mul_div_left _ _ hq, Nat.div_eq_of_lt hr, Nat.zero_add]
theorem slope_has {p q r : Nat} (hq : 1 ≤ q) (hp : p ≤ q) (hr : r < q) (h : Nat) : hasB (toS (slopeF p q r)) (toS (slopeR p q r)) h = slopeY p q r h := by
  have hF := slope_isForm hq hp hr
  obtain ⟨e1, e2⟩ := slope_rows hq hp hr
  have := hasB_rows hF.pos hF.per h
  unfold rowF rowR at this
  rw [show (fun j => slopeY p q r (0 + j)) = slopeY p q r from funext fun j => by rw [Nat.zero_add]] at this
  rw [e1, e2]; exact this
theorem slopeS_const {p q r : Nat} (hq : 1 ≤ q) (hp : p ≤ q) (i : Nat) : ∀ n, (∀ k, i ≤ k → k < i + n → slopeY p q r k = false) → slopeS p q r (i + n) = slopeS p q r i
  | 0, _ => rfl
  | n + 1, h => by
    rw [show i + (n + 1) = (i + n) + 1 by omega, slopeS_succ hq hp, slopeS_const hq hp i n (fun k h1 h2 => h k h1 (by omega)), h (i + n) (by omega) (by omega)]; simp
theorem slope_gap {p q r : Nat} (hq : 1 ≤ q) (hp : p ≤ q) (hp1 : 1 ≤ p) {i j : Nat} (hij : i < j) (hi : slopeY p q r i = true) (hj : slopeY p q r j = true) (hno : ∀ k, i < k → k < j → slopeY p q r k = false) :
    j - i = q / p ∨ j - i = q / p + 1 := by
  have a1 := slopeS_succ hq hp (r := r) i
  have a2 := slopeS_succ hq hp (r := r) j
  rw [hi, if_pos rfl] at a1
  rw [hj, if_pos rfl] at a2
  have a3 := slopeS_const hq hp (r := r) (i + 1) (j - (i + 1)) (fun k h1 h2 => hno k (by omega) (by omega))
  rw [show i + 1 + (j - (i + 1)) = j by omega] at a3
  have b : ∀ n, slopeS p q r n * q ≤ p * n + r ∧ p * n + r < (slopeS p q r n + 1) * q := fun n => by
    unfold slopeS
    refine ⟨Nat.div_mul_le_self _ _, ?_⟩
    have := Nat.lt_div_mul_add hq (a := p * n + r)
    rw [Nat.succ_mul]; exact this
  have b1 := (b i).2
  have b2 := (b (i + 1)).1
  have b3 := (b j).2
  have b4 := (b (j + 1)).1
  rw [a1] at b2
  rw [a3, a1] at b3
  rw [a2, a3, a1] at b4
  generalize slopeS p q r i = s at *
  obtain ⟨d, rfl⟩ : ∃ d, j = i + d := ⟨j - i, by omega⟩
  rw [show i + d - i = d by omega]
  have e1 : p * (i + d + 1) = p * i + p * d + p := by rw [Nat.mul_add, Nat.mul_add, Nat.mul_one]
  have e2 : p * (i + d) = p * i + p * d := by rw [Nat.mul_add]
  have e3 : p * (i + 1) = p * i + p := by rw [Nat.mul_add, Nat.mul_one]
  rw [e1] at b4; rw [e2] at b3; rw [e3] at b2
  simp only [Nat.add_mul, Nat.one_mul] at b1 b2 b3 b4
  have c1 : q < p * d + p := by omega
  have c2 : p * d < q + p := by omega
  have c3 : q / p < d + 1 := by
    rw [Nat.div_lt_iff_lt_mul hp1, Nat.add_mul, Nat.mul_comm d p]; omega
  have c4 : d < q / p + 2 := by
    have h1 : q < p * (q / p) + p := by have := Nat.lt_mul_div_succ q hp1; rw [Nat.mul_succ] at this; exact this
    by_cases h : d < q / p + 2
    · exact h
    · have h2 : p * (q / p + 2) ≤ p * d := Nat.mul_le_mul_left p (by omega)
      rw [Nat.mul_add] at h2; omega
  omega
theorem slope_some {p q r : Nat} (hq : 1 ≤ q) (hp : p ≤ q) (hp1 : 1 ≤ p) (hr : r < q) : ∃ j, j < q / Nat.gcd q p ∧ slopeY p q r j = true := by
  by_cases h : ∃ j, j < q / Nat.gcd q p ∧ slopeY p q r j = true
  · exact h
  · have h1 := slopeS_const hq hp (r := r) 0 (q / Nat.gcd q p) (fun k _ hk => by
      cases hc : slopeY p q r k
      · rfl
      · exact absurd ⟨k, by omega, hc⟩ h)
    have h2 := slope_ones hq hp hr
    rw [(slope_rows hq hp hr).2, ones_marksL_slope hq hp hr] at h2
    rw [Nat.zero_add, slopeS_zero hr] at h1
    have h3 : 1 ≤ p / Nat.gcd q p := Nat.div_pos (Nat.gcd_le_right _ hp1) (gcd_pos_q hq)
    omega
/-- a rising list of two numbers at most -/
theorem two_cases (c : Nat) : ∀ (l : List Nat), l.Pairwise (· < ·) → (∀ d ∈ l, d = c ∨ d = c + 1) → l ≠ [] → l = [c] ∨ l = [c + 1] ∨ l = [c, c + 1]
  | [], _, _, h => absurd rfl h
  | [a], _, h, _ => by rcases h a (by simp) with rfl | rfl <;> simp
  | [a, b], hp, h, _ => by
    have hab : a < b := by simpa using hp
    rcases h a (by simp) with rfl | rfl <;> rcases h b (by simp) with rfl | rfl <;> simp at * 
    omega
  | a :: b :: d :: l, hp, h, _ => by
    have h1 : a < b := (List.pairwise_cons.1 hp).1 b (by simp)
    have h2 : b < d := (List.pairwise_cons.1 (List.pairwise_cons.1 hp).2).1 d (by simp)
    have := h a (by simp); have := h b (by simp); have := h d (by simp); omega
theorem gapsOf_lt (acc : List Nat) : (gapsOf acc).Pairwise (· < ·) := (List.pairwise_lt_range (n := 200)).filter _
theorem slope_gaps {p q r : Nat} (hq : 1 ≤ q) (hp : p ≤ q) (hp1 : 1 ≤ p) (hr : r < q)
    (hinf : ∀ h, nextO (toS (slopeF p q r)) (toS (slopeR p q r)) h ≠ none) (hlt : ∀ d ∈ accTo (toS (slopeF p q r)) (toS (slopeR p q r)) ((toS (slopeF p q r)).size + (toS (slopeR p q r)).size), d < 200) :
    ∃ c, gapsL (toS (slopeF p q r)) (toS (slopeR p q r)) = [c] ∨ gapsL (toS (slopeF p q r)) (toS (slopeR p q r)) = [c, c + 1] := by
  have hh := slope_has hq hp hr
  have key : ∀ d ∈ accTo (toS (slopeF p q r)) (toS (slopeR p q r)) ((toS (slopeF p q r)).size + (toS (slopeR p q r)).size), d = q / p ∨ d = q / p + 1 := by
    intro d hd
    unfold accTo at hd
    obtain ⟨i, hi, rfl⟩ := List.mem_map.1 hd
    have hi2 := (List.mem_filter.1 hi).2
    simp only [Bool.and_eq_true, decide_eq_true_eq] at hi2
    rw [hh] at hi2
    unfold gapAt
    cases hn : nextO (toS (slopeF p q r)) (toS (slopeR p q r)) (i + 1) with
    | none => exact absurd hn (hinf _)
    | some j =>
      obtain ⟨s1, s2⟩ := findFrom_some hn
      have s3 := (findFrom_ge hn).1
      rw [hh] at s1
      show j - i = _ ∨ j - i = _
      exact slope_gap hq hp hp1 (by omega) hi2.2 s1 (fun k h1 h2 => by rw [← hh]; exact s2 k (by omega) h2)
  have hne : gapsL (toS (slopeF p q r)) (toS (slopeR p q r)) ≠ [] := by
    obtain ⟨j, hj1, hj2⟩ := slope_some hq hp hp1 hr
    have hm : gapAt (toS (slopeF p q r)) (toS (slopeR p q r)) j ∈ accTo (toS (slopeF p q r)) (toS (slopeR p q r)) ((toS (slopeF p q r)).size + (toS (slopeR p q r)).size) := by
      unfold accTo
      refine List.mem_map.2 ⟨j, List.mem_filter.2 ⟨?_, ?_⟩, rfl⟩
      · rw [List.mem_range, toS_size, toS_size, (slope_rows hq hp hr).1, (slope_rows hq hp hr).2, marksL_length]; simpa using hj1
      · rw [hh, hj2, toS_size, (slope_rows hq hp hr).1]; simp
    intro he
    have : gapAt (toS (slopeF p q r)) (toS (slopeR p q r)) j ∈ gapsL (toS (slopeF p q r)) (toS (slopeR p q r)) := by
      unfold gapsL gapsOf
      exact List.mem_filter.2 ⟨List.mem_range.2 (hlt _ hm), by simpa using hm⟩
    rw [he] at this; cases this
  have hmem : ∀ d ∈ gapsL (toS (slopeF p q r)) (toS (slopeR p q r)), d = q / p ∨ d = q / p + 1 := fun d hd => by
    unfold gapsL gapsOf at hd
    exact key d (by simpa using (List.mem_filter.1 hd).2)
  rcases two_cases _ _ (gapsOf_lt _) hmem hne with h | h | h
  · exact ⟨_, .inl h⟩
  · exact ⟨_, .inl h⟩
  · exact ⟨_, .inr h⟩
/-- what the reference does to find the form of hours: the least hour from which on they go round by d -/
def backB (h : List Bool) (d : Nat) : Nat → Nat
  | 0 => 0
  | k + 1 => if h[k]?.getD false == h[k + d]?.getD false then backB h d k else k + 1
def formedFrom (h : List Bool) : Nat → Nat → Option (Nat × Nat)
  | 0, _ => none
  | fuel + 1, d => if 60 < backB h d (h.length - d) then (if backB h d (h.length - d) < h.length / 2 then none else formedFrom h fuel (d + 1)) else some (backB h d (h.length - d), d)
def formedO (h : List Bool) : Option (Nat × Nat) := formedFrom h 60 1
def hoursL (X : Nat → Bool) (n : Nat) : List Bool := (List.range n).map X
theorem hoursL_length (X : Nat → Bool) (n : Nat) : (hoursL X n).length = n := by unfold hoursL; simp
theorem hoursL_get (X : Nat → Bool) (n i : Nat) (h : i < n) : (hoursL X n)[i]?.getD false = X i := by unfold hoursL; simp [h]
theorem backB_le (h : List Bool) (d : Nat) : ∀ k, backB h d k ≤ k
  | 0 => Nat.le_refl _
  | k + 1 => by
    unfold backB; split
    · exact Nat.le_succ_of_le (backB_le h d k)
    · exact Nat.le_refl _
theorem backB_run (h : List Bool) (d : Nat) : ∀ k j, backB h d k ≤ j → j < k → h[j]?.getD false = h[j + d]?.getD false
  | 0, j, _, hk => by omega
  | k + 1, j, h1, h2 => by
    unfold backB at h1
    cases hc : (h[k]?.getD false == h[k + d]?.getD false)
    · rw [hc] at h1; simp at h1; omega
    · rw [hc] at h1; simp at h1
      by_cases hj : j = k
      · subst hj; exact beq_iff_eq.1 hc
      · exact backB_run h d k j h1 (by omega)
theorem backB_stop (h : List Bool) (d : Nat) : ∀ k j, backB h d k = j + 1 → h[j]?.getD false ≠ h[j + d]?.getD false
  | 0, j, e => by unfold backB at e; omega
  | k + 1, j, e => by
    unfold backB at e
    cases hc : (h[k]?.getD false == h[k + d]?.getD false)
    · rw [hc] at e; simp at e; subst e; exact fun q => by rw [q] at hc; simp at hc
    · rw [hc] at e; simp at e; exact backB_stop h d k j e
theorem formed_skip {X : Nat → Bool} {F R K D N d : Nat} (hF : IsForm X K D) (hp : Per X F R) (hR : 1 ≤ R) (hN : F + R + 60 ≤ N / 2) (hd1 : 1 ≤ d) (hd : d < D) (hd60 : d ≤ 60) :
    N / 2 ≤ backB (hoursL X N) d ((hoursL X N).length - d) := by
  rw [hoursL_length]
  by_cases hlt : N / 2 ≤ backB (hoursL X N) d (N - d)
  · exact hlt
  · have hw : ∀ i, backB (hoursL X N) d (N - d) ≤ i → i + d < N → X (i + d) = X i := fun i h1 h2 => by
      have := backB_run (hoursL X N) d (N - d) i h1 (by omega)
      rw [hoursL_get _ _ _ (by omega), hoursL_get _ _ _ h2] at this; exact this.symm
    have := hp.window hR (s := max (backB (hoursL X N) d (N - d)) F) (N := N) (d := d) (by omega) (fun i h1 h2 => hw i (by omega) h2) (by omega)
    have := hF.least _ _ hd1 this
    omega
theorem formed_hit {X : Nat → Bool} {K D N : Nat} (hF : IsForm X K D) (hN : K + D ≤ N) : backB (hoursL X N) D ((hoursL X N).length - D) = K := by
  rw [hoursL_length]
  have h1 : K ≤ backB (hoursL X N) D (N - D) := hF.first _ fun i hi => by
    by_cases hc : K ≤ i
    · exact hF.per i hc
    · have := backB_run (hoursL X N) D (N - D) i hi (by omega)
      rw [hoursL_get _ _ _ (by omega), hoursL_get _ _ _ (by omega)] at this; exact this.symm
  rcases Nat.eq_or_lt_of_le h1 with h | h
  · exact h.symm
  · obtain ⟨j, hj⟩ : ∃ j, backB (hoursL X N) D (N - D) = j + 1 := ⟨backB (hoursL X N) D (N - D) - 1, by omega⟩
    have hle := backB_le (hoursL X N) D (N - D)
    have := backB_stop (hoursL X N) D (N - D) j hj
    rw [hoursL_get _ _ _ (by omega), hoursL_get _ _ _ (by omega)] at this
    exact absurd (hF.per j (by omega)).symm this
theorem formedFrom_eq {X : Nat → Bool} {F R K D N : Nat} (hF : IsForm X K D) (hp : Per X F R) (hR : 1 ≤ R) (hN : F + R + 60 ≤ N / 2) :
    ∀ fuel d, 1 ≤ d → d ≤ D → d + fuel = 61 → formedFrom (hoursL X N) fuel d = if K ≤ 60 ∧ D ≤ 60 then some (K, D) else none := by
  have hKF := hF.le_first hp hR
  have hDR := Nat.le_of_dvd hR (hF.dvd hp hR)
  intro fuel
  induction fuel with
  | zero => intro d h1 h2 h3; rw [if_neg (by omega)]; rfl
  | succ fuel ih =>
    intro d h1 h2 h3
    unfold formedFrom
    by_cases hd : d = D
    · subst hd
      rw [formed_hit hF (by omega), hoursL_length]
      by_cases hK : 60 < K
      · rw [if_pos hK, if_pos (by omega), if_neg (by omega)]
      · rw [if_neg hK, if_pos (by omega)]
    · have := formed_skip hF hp hR hN h1 (by omega) (by omega)
      rw [if_pos (by omega), if_neg (by rw [hoursL_length] at *; omega)]
      exact ih (d + 1) (by omega) (by omega) (by omega)
/-- the reference finds the form -/
theorem formedO_eq {X : Nat → Bool} {F R K D N : Nat} (hF : IsForm X K D) (hp : Per X F R) (hR : 1 ≤ R) (hN : F + R + 60 ≤ N / 2) :
    formedO (hoursL X N) = if K ≤ 60 ∧ D ≤ 60 then some (K, D) else none :=
  formedFrom_eq hF hp hR hN 60 1 (by omega) hF.pos (by omega)
def textL (h : List Bool) : List UInt8 := h.map markU
theorem text_first (X : Nat → Bool) (K N : Nat) (h : K ≤ N) : textL ((hoursL X N).take K) = rowF X K := by
  unfold textL hoursL rowF marksL
  rw [← List.map_take, List.take_range, List.map_map, Nat.min_eq_left h]; rfl
theorem text_round (X : Nat → Bool) (K D N : Nat) (h : K + D ≤ N) : textL (((hoursL X N).drop K).take D) = rowR X K D := by
  unfold textL hoursL rowR marksL
  apply List.ext_getElem
  · simp; omega
  · intro i h1 h2; simp
/-- the two strings are the form of the row Y, in 60 characters each -/
structure FormOf (Y : Nat → Bool) (f r : ByteArray) : Prop where
  ex : ∃ K D, IsForm Y K D ∧ K ≤ 60 ∧ D ≤ 60 ∧ f = toS (rowF Y K) ∧ r = toS (rowR Y K D)
theorem FormOf.mk' {Y : Nat → Bool} {K D : Nat} (h : IsForm Y K D) (h1 : K ≤ 60) (h2 : D ≤ 60) : FormOf Y (toS (rowF Y K)) (toS (rowR Y K D)) := ⟨K, D, h, h1, h2, rfl, rfl⟩
theorem rowF_length (Y : Nat → Bool) (K : Nat) : (rowF Y K).length = K := marksL_length _ _
theorem rowR_length (Y : Nat → Bool) (K D : Nat) : (rowR Y K D).length = D := marksL_length _ _
theorem FormOf.tide {Y : Nat → Bool} {f r : ByteArray} (h : FormOf Y f r) : tideB (f, r) = true := by
  obtain ⟨K, D, hF, h1, h2, rfl, rfl⟩ := h.ex
  have := hF.pos
  unfold tideB marksB
  simp only [toS_size, toS_list, rowF_length, rowR_length]
  unfold rowF rowR
  rw [all_marks, all_marks]
  simp; omega
theorem FormOf.has {Y : Nat → Bool} {f r : ByteArray} (h : FormOf Y f r) (i : Nat) : hasB f r i = Y i := by
  obtain ⟨K, D, hF, h1, h2, rfl, rfl⟩ := h.ex
  exact hasB_rows hF.pos hF.per i
theorem FormOf.unique {Y : Nat → Bool} {f r f' r' : ByteArray} (h : FormOf Y f r) (h' : FormOf Y f' r') : f = f' ∧ r = r' := by
  obtain ⟨K, D, hF, h1, h2, rfl, rfl⟩ := h.ex
  obtain ⟨K', D', hF', h1', h2', rfl, rfl⟩ := h'.ex
  obtain ⟨rfl, rfl⟩ := hF.unique hF'; exact ⟨rfl, rfl⟩
theorem FormOf.congr {Y Z : Nat → Bool} {f r : ByteArray} (h : FormOf Y f r) (e : ∀ i, Y i = Z i) : FormOf Z f r := by
  rw [show Z = Y from funext fun i => (e i).symm]; exact h
theorem spanR_left (r s : ByteArray) : ∃ k, spanR r s = k * r.size := by
  unfold spanR
  obtain ⟨a, ha⟩ := Nat.gcd_dvd_left r.size s.size
  obtain ⟨b, hb⟩ := Nat.gcd_dvd_right r.size s.size
  generalize Nat.gcd r.size s.size = g at *
  rcases Nat.eq_zero_or_pos g with h | h
  · subst h; exact ⟨0, by simp⟩
  · refine ⟨b, ?_⟩
    rw [ha, hb, Nat.mul_div_cancel_left _ h, Nat.mul_left_comm a g b, Nat.mul_left_comm b g a, Nat.mul_comm a b]
theorem spanR_right (r s : ByteArray) : ∃ k, spanR r s = k * s.size := ⟨r.size / Nat.gcd r.size s.size, rfl⟩
theorem spanR_self {r : ByteArray} (h : 1 ≤ r.size) : spanR r r = r.size := by
  unfold spanR; rw [Nat.gcd_self, Nat.div_self h, Nat.one_mul]
/-- the row that join makes goes round from the greater First on, by the common round -/
theorem join_per (f r g s : ByteArray) (q : Bool → Bool → Bool) : Per (fun h => q (hasB f r h) (hasB g s h)) (spanF f g) (spanR r s) := by
  obtain ⟨a, ha⟩ := spanR_left r s
  obtain ⟨b, hb⟩ := spanR_right r s
  intro i hi
  unfold spanF at hi
  show q _ _ = q _ _
  have e1 : hasB f r (i + spanR r s) = hasB f r i := by rw [ha]; exact hasB_per f r a i (by omega)
  have e2 : hasB g s (i + spanR r s) = hasB g s i := by rw [hb]; exact hasB_per g s b i (by omega)
  rw [e1, e2]
theorem joinL_marks (f r g s : ByteArray) (n : Nat) (q : Bool → Bool → Bool) : joinL f r g s n q = marksL (fun h => q (hasB f r h) (hasB g s h)) n := rfl
/-- what combined makes -/
theorem join_form {f r g s : ByteArray} (ht : tideB (f, r) = true) (hu : tideB (g, s) = true) (q : Bool → Bool → Bool) :
    ∃ K D, IsForm (fun h => q (hasB f r h) (hasB g s h)) K D ∧ K ≤ spanF f g ∧ D ≤ spanR r s ∧
      formF (joinL f r g s (spanF f g + spanR r s) q) (spanF f g) = rowF (fun h => q (hasB f r h) (hasB g s h)) K ∧
      formR (joinL f r g s (spanF f g + spanR r s) q) (spanF f g) = rowR (fun h => q (hasB f r h) (hasB g s h)) K D := by
  obtain ⟨a1, a2, a3⟩ := tideB_size ht
  obtain ⟨b1, b2, b3⟩ := tideB_size hu
  have hb := spanR_bd a3 a2 b3 b2
  have hp := join_per f r g s q
  obtain ⟨K, D, hF, h1, h2, _, h4, h5⟩ := form_marks (Y := fun h => q (hasB f r h) (hasB g s h)) (n := spanF f g + spanR r s) (first := spanF f g) (by omega) (by rw [Nat.add_sub_cancel_left]; exact hp)
  rw [Nat.add_sub_cancel_left] at h2
  exact ⟨K, D, hF, h1, h2, h4, h5⟩
theorem told_form {f r : ByteArray} (ht : tideB (f, r) = true) : FormOf (hasB f r) (toS (fmF f r)) (toS (fmR f r)) ∧ (toS (fmF f r)).size ≤ f.size ∧ (toS (fmR f r)).size ≤ r.size := by
  obtain ⟨a1, a2, a3⟩ := tideB_size ht
  have hp : Per (hasB f r) f.size r.size := by have := hasB_per f r 1; rwa [Nat.one_mul] at this
  obtain ⟨K, D, hF, h1, h2, _, h4, h5⟩ := form_marks (Y := hasB f r) (n := f.size + r.size) (first := f.size) (by omega) (by rw [Nat.add_sub_cancel_left]; exact hp)
  rw [Nat.add_sub_cancel_left] at h2
  have e1 : fmF f r = rowF (hasB f r) K := h4
  have e2 : fmR f r = rowR (hasB f r) K D := h5
  rw [e1, e2, toS_size, toS_size, rowF_length, rowR_length]
  exact ⟨FormOf.mk' hF (by omega) (by omega), h1, h2⟩
end Go.Proofs.Ytbhlddfjfcmncaa
