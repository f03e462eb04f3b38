import Derived.Test.YtbhlddfjfcmncaaYl
import Derived.Test.YtbhlddfjfcmncaaN
namespace Go.Proofs.Ytbhlddfjfcmncaa
theorem formed_skip2 {X : Nat → Bool} {F R K D N d : Nat} (hF : IsForm X K D) (hp : Per X F R) (hR : 1 ≤ R) (hN1 : F + R + 60 ≤ N) (hN2 : N / 2 + R + 60 ≤ N) (hd1 : 1 ≤ d) (hd : d < D) (hd60 : d ≤ 60) :
    N / 2 ≤ backB (hoursL X N) d ((hoursL X N).length - d) := by
  rw [hoursL_length]
  by_cases hlt : N / 2 ≤ backB (hoursL X N) d (N - d)
  · exact hlt
  · have hw : ∀ i, backB (hoursL X N) d (N - d) ≤ i → i + d < N → X (i + d) = X i := fun i h1 h2 => by
      have := backB_run (hoursL X N) d (N - d) i h1 (by omega)
      rw [hoursL_get _ _ _ (by omega), hoursL_get _ _ _ h2] at this; exact this.symm
    have := hp.window hR (s := max (backB (hoursL X N) d (N - d)) F) (N := N) (d := d) (by omega) (fun i h1 h2 => hw i (by omega) h2) (by omega)
    have := hF.least _ _ hd1 this
    omega
theorem formedFrom_eq2 {X : Nat → Bool} {F R K D N : Nat} (hF : IsForm X K D) (hp : Per X F R) (hR : 1 ≤ R) (hN1 : F + R + 60 ≤ N) (hN2 : N / 2 + R + 60 ≤ N) (hN3 : F < N / 2) (hN4 : 60 < N / 2) :
    ∀ fuel d, 1 ≤ d → d ≤ D → d + fuel = 61 → formedFrom (hoursL X N) fuel d = if K ≤ 60 ∧ D ≤ 60 then some (K, D) else none := by
  have hKF := hF.le_first hp hR
  have hDR := Nat.le_of_dvd hR (hF.dvd hp hR)
  intro fuel
  induction fuel with
  | zero => intro d h1 h2 h3; rw [if_neg (by omega)]; rfl
  | succ fuel ih =>
    intro d h1 h2 h3
    unfold formedFrom
    by_cases hd : d = D
    · subst hd
      rw [formed_hit hF (by omega), hoursL_length]
      by_cases hK : 60 < K
      · rw [if_pos hK, if_pos (by omega), if_neg (by omega)]
      · rw [if_neg hK, if_pos (by omega)]
    · have := formed_skip2 hF hp hR hN1 hN2 h1 (by omega) (by omega)
      rw [if_pos (by omega), if_neg (by rw [hoursL_length] at *; omega)]
      exact ih (d + 1) (by omega) (by omega) (by omega)
/-- what Formed and the calls that end in fitting answer for a form -/
def rowV (Y : Nat → Bool) (K D : Nat) (yes no : Value) : Value :=
  if K ≤ 60 ∧ D ≤ 60 then .tuple #[.agg #[.string (toS (rowF Y K)), .string (toS (rowR Y K D))], yes] else .tuple #[.agg #[.string { data := #[] }, .string { data := #[] }], no]
theorem formedV_row2 {Y : Nat → Bool} {F R K D N : Nat} (hF : IsForm Y K D) (hp : Per Y F R) (hR : 1 ≤ R) (hN1 : F + R + 60 ≤ N) (hN2 : N / 2 + R + 60 ≤ N) (hN3 : F < N / 2) (hN4 : 60 < N / 2) :
    formedV (hoursL Y N) = rowV Y K D (.bool true) (.bool false) := by
  have hKF := hF.le_first hp hR
  have hDR := Nat.le_of_dvd hR (hF.dvd hp hR)
  unfold formedV formedO rowV
  rw [formedFrom_eq2 hF hp hR hN1 hN2 hN3 hN4 60 1 (by omega) hF.pos (by omega)]
  split
  · rename_i h
    split at h
    · rename_i hc
      simp only [Option.some.injEq, Prod.mk.injEq] at h
      obtain ⟨rfl, rfl⟩ := h
      rw [if_pos hc, text_first _ _ _ (by omega), text_round _ _ _ _ (by omega)]
    · cases h
  · rename_i h
    split at h
    · cases h
    · rename_i hc; rw [if_neg hc]
theorem fitV_row {Y : Nat → Bool} {K D : Nat} : fitV (rowF Y K) (rowR Y K D) = rowV Y K D (.int .i64 0) (.int .i64 8) := by
  unfold fitV rowV
  rw [rowF_length, rowR_length]; rfl
/-- what two tides make -/
def joinY (f r g s : ByteArray) (q : Bool → Bool → Bool) (h : Nat) : Bool := q (hasB f r h) (hasB g s h)
theorem spanF_le {f g : ByteArray} : spanF f g ≤ f.size + g.size := by unfold spanF; omega
theorem spanR_le {r s : ByteArray} (hr1 : 1 ≤ r.size) : spanR r s ≤ r.size * s.size := by
  unfold spanR; exact Nat.mul_le_mul_right _ (Nat.div_le_self _ _)
theorem joins_made {f r g s : ByteArray} (ht : tideB (f, r) = true) (hu : tideB (g, s) = true) (q : Bool → Bool → Bool) :
    ∃ K D, IsForm (joinY f r g s q) K D ∧ combV f r g s q = rowV (joinY f r g s q) K D (.int .i64 0) (.int .i64 8) ∧
      formedV (hoursL (joinY f r g s q) (enoughN f r g s)) = rowV (joinY f r g s q) K D (.bool true) (.bool false) := by
  obtain ⟨z1, z2, z3⟩ := tideB_size ht
  obtain ⟨y1, y2, y3⟩ := tideB_size hu
  obtain ⟨h1, h2⟩ := spanR_bd z3 z2 y3 y2
  have h3 := spanF_le (f := f) (g := g)
  have h4 := spanR_le (s := s) z3
  obtain ⟨K, D, hF, hK, hD, e1, e2⟩ := join_form ht hu q
  refine ⟨K, D, hF, ?_, ?_⟩
  · unfold combV; rw [e1, e2]; exact fitV_row
  · refine formedV_row2 hF (join_per f r g s q) h1 ?_ ?_ ?_ ?_ <;> (unfold enoughN; omega)
/-- the hours that are sums -/
def sumY (X Y : Nat → Bool) (i : Nat) : Bool := (List.range (i + 1)).any fun j => X j && Y (i - j)
theorem sumY_iff {X Y : Nat → Bool} {i : Nat} : sumY X Y i = true ↔ ∃ j k, j + k = i ∧ X j = true ∧ Y k = true := by
  unfold sumY
  rw [List.any_eq_true]
  constructor
  · rintro ⟨j, hj, h⟩
    rw [List.mem_range] at hj
    rw [Bool.and_eq_true] at h
    exact ⟨j, i - j, by omega, h.1, h.2⟩
  · rintro ⟨j, k, rfl, h1, h2⟩
    exact ⟨j, List.mem_range.2 (by omega), by rw [h1, show j + k - j = k by omega, h2]; rfl⟩
theorem bool_iff {a b : Bool} (h : a = true ↔ b = true) : a = b := by rw [Bool.eq_iff_iff]; exact h
theorem sumY_comm (X Y : Nat → Bool) (i : Nat) : sumY X Y i = sumY Y X i := by
  apply bool_iff; rw [sumY_iff, sumY_iff]
  constructor <;> (rintro ⟨j, k, h, h1, h2⟩; exact ⟨k, j, by omega, h2, h1⟩)
theorem sumY_or (X Y Z : Nat → Bool) (i : Nat) : sumY X (fun j => Y j || Z j) i = (sumY X Y i || sumY X Z i) := by
  apply bool_iff
  rw [Bool.or_eq_true, sumY_iff, sumY_iff, sumY_iff]
  constructor
  · rintro ⟨j, k, h, h1, h2⟩
    rw [Bool.or_eq_true] at h2
    rcases h2 with h2 | h2
    · exact .inl ⟨j, k, h, h1, h2⟩
    · exact .inr ⟨j, k, h, h1, h2⟩
  · rintro (⟨j, k, h, h1, h2⟩ | ⟨j, k, h, h1, h2⟩)
    · exact ⟨j, k, h, h1, by show (Y k || Z k) = true; rw [h2]; rfl⟩
    · exact ⟨j, k, h, h1, by show (Y k || Z k) = true; rw [h2, Bool.or_true]⟩
theorem sumY_per {X Y : Nat → Bool} {F G L : Nat} (hX : Per X F L) (hY : Per Y G L) : Per (sumY X Y) (F + G + L) L := fun i hi => by
  apply bool_iff; rw [sumY_iff, sumY_iff]
  constructor
  · rintro ⟨j, k, h, h1, h2⟩
    by_cases hj : F + L ≤ j
    · exact ⟨j - L, k, by omega, by have := hX (j - L) (by omega); rw [show j - L + L = j by omega] at this; rw [← this]; exact h1, h2⟩
    · exact ⟨j, k - L, by omega, h1, by have := hY (k - L) (by omega); rw [show k - L + L = k by omega] at this; rw [← this]; exact h2⟩
  · rintro ⟨j, k, h, h1, h2⟩
    by_cases hj : F ≤ j
    · exact ⟨j + L, k, by omega, (hX j hj).trans h1, h2⟩
    · exact ⟨j, k + L, by omega, h1, (hY k (by omega)).trans h2⟩
theorem rep_iff {p : Nat → Bool} {r i : Nat} (hr : 1 ≤ r) : rep p r i = true ↔ ∃ j, j * r ≤ i ∧ p (i - j * r) = true := by
  unfold rep
  rw [List.any_eq_true]
  constructor
  · rintro ⟨j, hj, h⟩
    rw [List.mem_range] at hj
    exact ⟨j, (Nat.le_div_iff_mul_le hr).1 (by omega), h⟩
  · rintro ⟨j, hj, h⟩
    exact ⟨j, List.mem_range.2 (by have := (Nat.le_div_iff_mul_le hr).2 hj; omega), h⟩
theorem sumB_eq {f r g s : ByteArray} (hr : 1 ≤ r.size) (x : Nat) : sumB f r g s x = sumY (hasB f r) (hasB g s) x := by
  have hp := hasB_per f r 1
  rw [Nat.one_mul] at hp
  apply bool_iff; rw [sumY_iff]
  unfold sumB sumTo
  rw [Nat.min_self, List.any_eq_true]
  constructor
  · rintro ⟨j, hj, h⟩
    rw [List.mem_range] at hj
    rw [Bool.and_eq_true, Bool.and_eq_true, decide_eq_true_eq] at h
    obtain ⟨⟨h1, h2⟩, h3⟩ := h
    by_cases hf : j < f.size
    · rw [if_pos hf] at h3
      exact ⟨j, x - j, by omega, h2, h3⟩
    · rw [if_neg hf, rep_iff hr] at h3
      obtain ⟨m, hm, h3⟩ := h3
      exact ⟨j + m * r.size, x - j - m * r.size, by omega, (hp.mul m j (by omega)).trans h2, h3⟩
  · rintro ⟨j, k, rfl, h1, h2⟩
    by_cases hf : j < f.size
    · refine ⟨j, List.mem_range.2 (by omega), ?_⟩
      rw [if_pos hf, h1, show j + k - j = k by omega, h2]; simp
    · have e := Nat.div_add_mod (j - f.size) r.size
      have lt := Nat.mod_lt (j - f.size) (show 0 < r.size from hr)
      rw [Nat.mul_comm] at e
      generalize (j - f.size) / r.size = m at *
      generalize (j - f.size) % r.size = b at *
      obtain rfl : j = f.size + b + m * r.size := by omega
      have h3 := (hp.mul m (f.size + b) (by omega)).symm.trans h1
      refine ⟨f.size + b, List.mem_range.2 (by omega), ?_⟩
      rw [if_neg (by omega), h3, (rep_iff hr).2 ⟨m, by omega, by rw [show f.size + b + m * r.size + k - (f.size + b) - m * r.size = k by omega]; exact h2⟩]
      simp; omega
theorem marksOf_eq (n : Nat) (p : Nat → Bool) : marksOf n p = marksL p n := rfl
theorem sums_made {f r g s : ByteArray} (ht : tideB (f, r) = true) (hu : tideB (g, s) = true) (hf : f.size ≤ 24) (hg : g.size ≤ 24) :
    ∃ K D, IsForm (sumY (hasB f r) (hasB g s)) K D ∧ sumV f r g s = rowV (sumY (hasB f r) (hasB g s)) K D (.int .i64 0) (.int .i64 8) ∧
      formedV (hoursL (sumY (hasB f r) (hasB g s)) (enoughN f r g s)) = rowV (sumY (hasB f r) (hasB g s)) K D (.bool true) (.bool false) := by
  obtain ⟨z1, z2, z3⟩ := tideB_size ht
  obtain ⟨y1, y2, y3⟩ := tideB_size hu
  obtain ⟨h1, h2⟩ := spanR_bd z3 z2 y3 y2
  have h4 := spanR_le (s := s) z3
  have hp : Per (sumY (hasB f r) (hasB g s)) (f.size + g.size + spanR r s) (spanR r s) := by
    obtain ⟨a, ha⟩ := spanR_left r s
    obtain ⟨b, hb⟩ := spanR_right r s
    refine sumY_per ?_ ?_
    · rw [ha]; exact hasB_per f r a
    · rw [hb]; exact hasB_per g s b
  have eB : sumB f r g s = sumY (hasB f r) (hasB g s) := funext fun x => sumB_eq z3 x
  obtain ⟨K, D, hF, hK, hD, _, e1, e2⟩ := form_marks (Y := sumY (hasB f r) (hasB g s)) (n := f.size + g.size + spanR r s + spanR r s) (first := f.size + g.size + spanR r s) (by omega) (by rw [Nat.add_sub_cancel_left]; exact hp)
  refine ⟨K, D, hF, ?_, ?_⟩
  · unfold sumV sumL sumFirst; rw [eB, marksOf_eq, e1, e2]; exact fitV_row
  · refine formedV_row2 hF hp h1 ?_ ?_ ?_ ?_ <;> (unfold enoughN; omega)
/-- so many hours later -/
def laterY (X : Nat → Bool) (n i : Nat) : Bool := if i < n then false else X (i - n)
theorem laterY_per {X : Nat → Bool} {F R : Nat} (h : Per X F R) (n : Nat) : Per (laterY X n) (n + F) R := fun i hi => by
  unfold laterY
  rw [if_neg (by omega), if_neg (by omega), show i + R - n = i - n + R by omega]
  exact h _ (by omega)
def laterL (f r : ByteArray) (n : Nat) : List UInt8 := List.replicate n 48 ++ toldL f r (f.size + r.size)
theorem laterL_eq (f r : ByteArray) (n : Nat) : laterL f r n = marksL (laterY (hasB f r) n) (n + f.size + r.size) := by
  unfold laterL marksL laterY toldL
  apply List.ext_getElem
  · simp; omega
  · intro i h1 h2
    rw [List.getElem_append]
    split
    · rename_i h; simp at h; simp [h]; rfl
    · rename_i h; simp at h; simp [show ¬ i < n by omega]
def laterB (f r : ByteArray) (n : Nat) : List Bool := List.replicate n false ++ hoursL (hasB f r) (enoughN f r f r)
theorem laterB_eq (f r : ByteArray) (n : Nat) : laterB f r n = hoursL (laterY (hasB f r) n) (n + enoughN f r f r) := by
  unfold laterB hoursL laterY
  apply List.ext_getElem
  · simp
  · intro i h1 h2
    rw [List.getElem_append]
    split
    · rename_i h; simp at h; simp [h]
    · rename_i h; simp at h; simp [show ¬ i < n by omega]
theorem later_made {f r : ByteArray} (ht : tideB (f, r) = true) (n : Nat) (hn : n ≤ 60) :
    ∃ K D, IsForm (laterY (hasB f r) n) K D ∧ fitV (formF (laterL f r n) (n + f.size)) (formR (laterL f r n) (n + f.size)) = rowV (laterY (hasB f r) n) K D (.int .i64 0) (.int .i64 8) ∧
      formedV (laterB f r n) = rowV (laterY (hasB f r) n) K D (.bool true) (.bool false) := by
  obtain ⟨z1, z2, z3⟩ := tideB_size ht
  have hp : Per (laterY (hasB f r) n) (n + f.size) r.size := laterY_per (by have := hasB_per f r 1; rwa [Nat.one_mul] at this) n
  have hL := spanR_self z3
  have h1 : 1 * r.size ≤ r.size * r.size := Nat.mul_le_mul_right _ z3
  obtain ⟨K, D, hF, hK, hD, _, e1, e2⟩ := form_marks (Y := laterY (hasB f r) n) (n := n + f.size + r.size) (first := n + f.size) (by omega) (by rw [Nat.add_sub_cancel_left]; exact hp)
  refine ⟨K, D, hF, ?_, ?_⟩
  · rw [laterL_eq, e1, e2]; exact fitV_row
  · rw [laterB_eq]
    refine formedV_row2 hF hp z3 ?_ ?_ ?_ ?_ <;> (unfold enoughN; rw [hL]; omega)
end Go.Proofs.Ytbhlddfjfcmncaa
