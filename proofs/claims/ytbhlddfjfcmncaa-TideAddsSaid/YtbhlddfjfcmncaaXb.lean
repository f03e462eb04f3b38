import Derived.Test.YtbhlddfjfcmncaaZz
namespace Go.Proofs.Ytbhlddfjfcmncaa
open Go.RowKit
theorem lcm60 : ∀ p, p < 6 → ∀ q, q < 6 → 1 ≤ p → 1 ≤ q → 60 % (p / Nat.gcd p q * q) = 0 := by decide
theorem div60 : ∀ p, p < 6 → 1 ≤ p → 60 % p = 0 := by decide
theorem Per.dvd {α : Type} {X : Nat → α} {K D N : Nat} (h : Per X K D) (hd : N % D = 0) : Per X K N := by
  have := h.times (N / D)
  rwa [Nat.div_mul_cancel (Nat.dvd_of_mod_eq_zero hd)] at this
theorem has60 {f r : ByteArray} (h1 : 1 ≤ r.size) (h2 : r.size ≤ 5) : Per (hasB f r) f.size 60 := by
  have := hasB_per f r 1
  rw [Nat.one_mul] at this
  exact this.dvd (div60 _ (by omega) h1)
theorem sum60 {f r g s : ByteArray} (h1 : 1 ≤ r.size) (h2 : r.size ≤ 5) (h3 : 1 ≤ s.size) (h4 : s.size ≤ 5) (hf : f.size ≤ 5) (hg : g.size ≤ 5) : Per (sumY (hasB f r) (hasB g s)) 35 60 := by
  obtain ⟨a, ha⟩ := spanR_left r s
  obtain ⟨b, hb⟩ := spanR_right r s
  have hp : Per (sumY (hasB f r) (hasB g s)) (f.size + g.size + spanR r s) (spanR r s) := by
    refine sumY_per ?_ ?_
    · rw [ha]; exact hasB_per f r a
    · rw [hb]; exact hasB_per g s b
  have h5 := spanR_small h1 h2 h4
  exact (hp.mono (by omega)).dvd (lcm60 _ (by omega) _ (by omega) h1 h3)
theorem Per.or {X Y : Nat → Bool} {K D : Nat} (h : Per X K D) (h' : Per Y K D) : Per (fun i => X i || Y i) K D := fun i hi => by
  show (X (i + D) || Y (i + D)) = (X i || Y i)
  rw [h i hi, h' i hi]
/-- a form whose row goes round in 60 hours from an hour up to 60 on fits -/
theorem isForm_fits {X : Nat → Bool} {K D F : Nat} (h : IsForm X K D) (hp : Per X F 60) (hF : F ≤ 60) : K ≤ 60 ∧ D ≤ 60 ∧ K ≤ F := by
  have h1 := h.le_first hp (by omega)
  have h2 := Nat.le_of_dvd (by omega) (h.dvd hp (by omega))
  exact ⟨by omega, h2, h1⟩
/-- the sum of two tides, whose row is known to fit -/
theorem sum_fit {f r g s : ByteArray} (ht : tideB (f, r) = true) (hu : tideB (g, s) = true) (hf : f.size ≤ 24) (hg : g.size ≤ 24) {F : Nat} (hp : Per (sumY (hasB f r) (hasB g s)) F 60) (hF : F ≤ 60) :
    ∃ a b : ByteArray, FormOf (sumY (hasB f r) (hasB g s)) a b ∧ a.size ≤ F ∧ ∀ W, Calls Try.prog 29 #[.agg #[.string f, .string r], .agg #[.string g, .string s]] W fun e w' => e = .returned (.tuple #[.agg #[.string a, .string b], .int .i64 0]) ∧ Below W.heap.size W w' := by
  obtain ⟨K, D, hI, e1, _⟩ := sums_made ht hu hf hg
  obtain ⟨h1, h2, h3⟩ := isForm_fits hI hp hF
  refine ⟨_, _, FormOf.mk' hI h1 h2, by rw [toS_size, rowF_length]; exact h3, fun W => ?_⟩
  have := Sum_ok f r g s W ht hu
  rw [e1] at this; unfold rowV at this; rw [if_pos ⟨h1, h2⟩] at this; exact this
/-- either of two tides, whose row is known to fit -/
theorem either_fit {f r g s : ByteArray} (ht : tideB (f, r) = true) (hu : tideB (g, s) = true) {F : Nat} (hp : Per (joinY f r g s (fun a b => a || b)) F 60) (hF : F ≤ 60) :
    ∃ a b : ByteArray, FormOf (joinY f r g s (fun a b => a || b)) a b ∧ a.size ≤ F ∧ ∀ W, Calls Try.prog 26 #[.agg #[.string f, .string r], .agg #[.string g, .string s]] W fun e w' => e = .returned (.tuple #[.agg #[.string a, .string b], .int .i64 0]) ∧ Below W.heap.size W w' := by
  obtain ⟨K, D, hI, e1, _⟩ := joins_made ht hu (fun a b => a || b)
  obtain ⟨h1, h2, h3⟩ := isForm_fits hI hp hF
  refine ⟨_, _, FormOf.mk' hI h1 h2, by rw [toS_size, rowF_length]; exact h3, Either_v ht hu ?_⟩
  unfold combR
  rw [ht, hu, Bool.and_self, if_pos rfl, e1]; unfold rowV; rw [if_pos ⟨h1, h2⟩]
def sOne : ByteArray := { data := #[49] }
def sNil : ByteArray := { data := #[48] }
theorem one_tide : tideB (sOne, sNil) = true := by decide
theorem one_has (i : Nat) : hasB sOne sNil i = decide (i = 0) := by
  unfold hasB
  by_cases h : i = 0
  · subst h; rfl
  · rw [if_neg (by show ¬ i < 1; omega), decide_eq_false h, show (i - sOne.size) % sNil.size = 0 from Nat.mod_one _]; rfl
theorem sum_one (X : Nat → Bool) (i : Nat) : sumY X (hasB sOne sNil) i = X i := by
  apply bool_iff
  rw [sumY_iff]
  constructor
  · rintro ⟨j, k, h, h1, h2⟩
    rw [one_has, decide_eq_true_eq] at h2
    obtain rfl : j = i := by omega
    exact h1
  · intro h
    exact ⟨i, 0, by omega, h, by rw [one_has]; rfl⟩
structure AddsF (F R G S H U pa qa po qo pc qc pd qd pf qf : ByteArray) : Prop where
  ka : tideB (pa, qa) = true
  ha : ∀ i j, hasB F R i = true → hasB G S j = true → hasB pa qa (i + j) = true
  c1 : ∀ W, Calls Try.prog 29 #[.agg #[.string F, .string R], .agg #[.string G, .string S]] W fun e w' => e = .returned (.tuple #[.agg #[.string pa, .string qa], .int .i64 0]) ∧ Below W.heap.size W w'
  c2 : ∀ W, Calls Try.prog 29 #[.agg #[.string G, .string S], .agg #[.string F, .string R]] W fun e w' => e = .returned (.tuple #[.agg #[.string pa, .string qa], .int .i64 0]) ∧ Below W.heap.size W w'
  c3 : ∀ W, Calls Try.prog 26 #[.agg #[.string G, .string S], .agg #[.string H, .string U]] W fun e w' => e = .returned (.tuple #[.agg #[.string po, .string qo], .int .i64 0]) ∧ Below W.heap.size W w'
  c4 : ∀ W, Calls Try.prog 29 #[.agg #[.string F, .string R], .agg #[.string po, .string qo]] W fun e w' => e = .returned (.tuple #[.agg #[.string pc, .string qc], .int .i64 0]) ∧ Below W.heap.size W w'
  c5 : ∀ W, Calls Try.prog 29 #[.agg #[.string F, .string R], .agg #[.string H, .string U]] W fun e w' => e = .returned (.tuple #[.agg #[.string pd, .string qd], .int .i64 0]) ∧ Below W.heap.size W w'
  c6 : ∀ W, Calls Try.prog 26 #[.agg #[.string pa, .string qa], .agg #[.string pd, .string qd]] W fun e w' => e = .returned (.tuple #[.agg #[.string pc, .string qc], .int .i64 0]) ∧ Below W.heap.size W w'
  c7 : ∀ W, Calls Try.prog 29 #[.agg #[.string F, .string R], .agg #[.string sOne, .string sNil]] W fun e w' => e = .returned (.tuple #[.agg #[.string pf, .string qf], .int .i64 0]) ∧ Below W.heap.size W w'
  c8 : ∀ W, Calls Try.prog 23 #[.agg #[.string F, .string R]] W fun e w' => e = .returned (.tuple #[.agg #[.string pf, .string qf], .int .i64 0]) ∧ Below W.heap.size W w'
theorem adds_facts {F R G S H U : ByteArray} (ht : tideB (F, R) = true) (hu : tideB (G, S) = true) (hv : tideB (H, U) = true) (m1 : F.size ≤ 5) (m2 : R.size ≤ 5) (m3 : G.size ≤ 5) (m4 : S.size ≤ 5) (m5 : H.size ≤ 5) (m6 : U.size ≤ 5) :
    ∃ pa qa po qo pc qc pd qd pf qf, AddsF F R G S H U pa qa po qo pc qc pd qd pf qf := by
  obtain ⟨_, _, z3⟩ := tideB_size ht
  obtain ⟨_, _, y3⟩ := tideB_size hu
  obtain ⟨_, _, x3⟩ := tideB_size hv
  have p1 := sum60 z3 m2 y3 m4 m1 m3
  have p2 := sum60 y3 m4 z3 m2 m3 m1
  have p3 := sum60 z3 m2 x3 m6 m1 m5
  obtain ⟨pa, qa, ha, la, ca⟩ := sum_fit ht hu (by omega) (by omega) p1 (by omega)
  obtain ⟨pb, qb, hb, lb, cb⟩ := sum_fit hu ht (by omega) (by omega) p2 (by omega)
  obtain ⟨pd, qd, hd, ld, cd⟩ := sum_fit ht hv (by omega) (by omega) p3 (by omega)
  have po' : Per (joinY G S H U (fun a b => a || b)) 5 60 := Per.or ((has60 y3 m4).mono (by omega)) ((has60 x3 m6).mono (by omega))
  obtain ⟨po, qo, ho, lo, co⟩ := either_fit hu hv po' (by omega)
  have to' := ho.tide
  have ex : ∀ i, sumY (hasB F R) (hasB po qo) i = (sumY (hasB F R) (hasB G S) i || sumY (hasB F R) (hasB H U) i) := fun i => by
    rw [show hasB po qo = fun j => hasB G S j || hasB H U j from funext fun j => ho.has j]; exact sumY_or _ _ _ i
  have pc' : Per (sumY (hasB F R) (hasB po qo)) 35 60 := by
    rw [show sumY (hasB F R) (hasB po qo) = fun i => sumY (hasB F R) (hasB G S) i || sumY (hasB F R) (hasB H U) i from funext ex]; exact Per.or p1 p3
  obtain ⟨pc, qc, hc, lc, cc⟩ := sum_fit ht to' (by omega) (by omega) pc' (by omega)
  have pk' : Per (joinY pa qa pd qd (fun a b => a || b)) 35 60 := by
    rw [show joinY pa qa pd qd (fun a b => a || b) = fun i => sumY (hasB F R) (hasB G S) i || sumY (hasB F R) (hasB H U) i from funext fun i => by unfold joinY; rw [ha.has, hd.has]]; exact Per.or p1 p3
  obtain ⟨pk, qk, hk, lk, ck⟩ := either_fit ha.tide hd.tide pk' (by omega)
  have pf' : Per (sumY (hasB F R) (hasB sOne sNil)) 5 60 := by
    rw [show sumY (hasB F R) (hasB sOne sNil) = hasB F R from funext (sum_one _)]; exact (has60 z3 m2).mono (by omega)
  obtain ⟨pf, qf, hf, lf, cf⟩ := sum_fit ht one_tide (by omega) (by show 1 ≤ 24; omega) pf' (by omega)
  obtain ⟨rfl, rfl⟩ := (hb.congr (fun i => sumY_comm _ _ i)).unique ha
  obtain ⟨rfl, rfl⟩ := (hk.congr (Z := sumY (hasB F R) (hasB po qo)) (fun i => by unfold joinY; rw [ha.has, hd.has, ex])).unique hc
  refine ⟨_, _, po, qo, _, _, pd, qd, pf, qf, ⟨ha.tide, fun i j h1 h2 => ?_, ca, cb, co, cc, cd, ck, cf, Form_v ht ?_⟩⟩
  · rw [ha.has, sumY_iff]; exact ⟨i, j, rfl, h1, h2⟩
  · exact hf.congr fun i => sum_one _ i
end Go.Proofs.Ytbhlddfjfcmncaa
