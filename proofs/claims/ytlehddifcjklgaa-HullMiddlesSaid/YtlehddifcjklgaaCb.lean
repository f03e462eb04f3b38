import Derived.Test.YtlehddifcjklgaaCa
namespace Go.Proofs.Ytlehddifcjklgaa
theorem seg_lt {e u : Pt} (hc : crs e u = 0) (hd : 0 < dt e u) (hl : dt u u ≤ dt e e) (hne : u ≠ e) : dt e u < dt e e := by
  have h1 := lagr e u
  rw [hc, Int.zero_mul, Int.add_zero] at h1
  have hee : 0 < dt e e := by
    have := dt_nonneg e
    rcases Int.lt_or_eq_of_le this with h | h
    · exact h
    · have := dt_zero h.symm; subst this; unfold dt at hd; simp at hd
  rcases Int.lt_or_le (dt e u) (dt e e) with h | h
  · exact h
  · exfalso
    have a1 : dt e e * dt e e ≤ dt e u * dt e u := Int.mul_le_mul h h (Int.le_of_lt hee) (Int.le_of_lt hd)
    have a2 : dt e e * dt u u ≤ dt e e * dt e e := Int.mul_le_mul_of_nonneg_left hl (Int.le_of_lt hee)
    have a3 : dt e e * dt u u = dt e e * dt e e := by omega
    have a4 : dt u u = dt e e := Int.eq_of_mul_eq_mul_left (by omega) a3
    have a5 : dt e u = dt e e := by
      rcases Int.lt_or_eq_of_le h with h' | h'
      · have b1 : dt e e * dt e e < dt e u * dt e u := by
          have := Int.mul_lt_mul_of_pos_left h' hee
          have := Int.mul_lt_mul_of_pos_right h' hd
          omega
        omega
      · exact h'.symm
    have a6 : dt (mn u e) (mn u e) = dt u u - 2 * dt e u + dt e e := by unfold dt mn; grind
    exact hne (mn_zero (dt_zero (by omega)))
theorem best_ext {S : List Pt} {a n : Pt} (ha : Ext S a) (hn : Best S a n) : Ext S n := by
  obtain ⟨d, hd⟩ := ha
  obtain ⟨h1, h2, h3⟩ := hn
  refine ⟨mn n a, fun p hp hpn => ?_⟩
  have ec : crs (mn n a) (mn p n) = crs (mn n a) (mn p a) := by unfold crs mn; grind
  have ed : dt (mn n a) (mn p n) = dt (mn n a) (mn p a) - dt (mn n a) (mn n a) := by unfold dt mn; grind
  have hee := dt_pos' (mn_ne h2)
  unfold Half
  rw [ec, ed]
  by_cases hpa : p = a
  · subst hpa
    have e0 : mn p p = (0, 0) := by unfold mn; simp
    rw [e0]
    right
    unfold crs dt at *
    simp only [Int.mul_zero] at *
    omega
  · obtain ⟨g1, g2⟩ := h3 p hp hpa
    rcases Int.lt_or_eq_of_le g1 with h | h
    · exact .inl h
    · right
      refine ⟨h.symm, ?_⟩
      have hr := half_ray (hd n h1 h2) (hd p hp hpa) h.symm
      have := seg_lt h.symm hr (g2 h.symm) (fun e => hpn (by
        have := congrArg (fun q : Pt => (q.1 + a.1, q.2 + a.2)) e
        unfold mn at this
        simp only [Prod.mk.injEq] at this
        exact Prod.ext (by omega) (by omega)))
      omega
/-- a corner is not between two others on a line -/
theorem ext_between {S : List Pt} {p a n : Pt} (hp : Ext S p) (ha : a ∈ S) (hn : n ∈ S) (hap : a ≠ p) (hnp : n ≠ p) (hna : n ≠ a) (hc : crs (mn n a) (mn p a) = 0) (hd : 0 < dt (mn n a) (mn p a)) (hl : dt (mn p a) (mn p a) ≤ dt (mn n a) (mn n a)) : False := by
  obtain ⟨d, hd'⟩ := hp
  have k1 := hd' a ha hap
  have k2 := hd' n hn hnp
  have e1 : crs (mn a p) (mn n p) = crs (mn n a) (mn p a) := by unfold crs mn; grind
  have hr := half_ray k1 k2 (by rw [e1]; exact hc)
  have e2 : dt (mn a p) (mn n p) = dt (mn p a) (mn p a) - dt (mn n a) (mn p a) := by unfold dt mn; grind
  have h1 := lagr (mn n a) (mn p a)
  rw [hc, Int.zero_mul, Int.add_zero] at h1
  have hpp := dt_pos' (mn_ne (Ne.symm hap))
  generalize dt (mn n a) (mn p a) = x at *
  generalize dt (mn p a) (mn p a) = y at *
  generalize dt (mn n a) (mn n a) = z at *
  have a1 : y * y ≤ z * y := Int.mul_le_mul_of_nonneg_right hl (Int.le_of_lt hpp)
  have hxy : x < y := by omega
  have b1 := Int.mul_lt_mul_of_pos_left hxy hd
  have b2 := Int.mul_lt_mul_of_pos_right hxy hpp
  rw [Int.mul_comm x y] at b1
  have b3 : y * x = x * y := Int.mul_comm _ _
  omega
theorem pick_inj {S : List Pt} {p q r : Pt} (hp : p ∈ S) (hq : q ∈ S) (ep : Ext S p) (eq : Ext S q) (bp : Best S p r) (bq : Best S q r) : p = q := by
  rcases Classical.em (p = q) with h | hne
  · exact h
  exfalso
  obtain ⟨r1, r2, r3⟩ := bp
  obtain ⟨s1, s2, s3⟩ := bq
  obtain ⟨g1, g2⟩ := r3 q hq (Ne.symm hne)
  obtain ⟨g3, g4⟩ := s3 p hp hne
  have e : crs (mn r q) (mn p q) = - crs (mn r p) (mn q p) := by unfold crs mn; grind
  have hc : crs (mn r p) (mn q p) = 0 := by omega
  obtain ⟨d, hd⟩ := ep
  have hr := half_ray (hd r r1 r2) (hd q hq (Ne.symm hne)) hc
  exact ext_between eq hp r1 hne s2 r2 hc hr (g2 hc)
/-- going round: each corner's best is the next one, and the last one's the first -/
structure Cyc (S os : List Pt) : Prop where
  nodup : os.Nodup
  mem : ∀ x ∈ os, x ∈ S ∧ Ext S x
  next : ∀ i, i < os.length → Best S (ptAt os i) (nx os i)
theorem nodup_idx {os : List Pt} (h : os.Nodup) {i j : Nat} (hi : i < os.length) (hj : j < os.length) (he : ptAt os i = ptAt os j) : i = j := by
  rw [ptAt_lt hi, ptAt_lt hj] at he
  exact (List.getElem_inj h).1 he
theorem ptAt_mem {os : List Pt} {i : Nat} (hi : i < os.length) : ptAt os i ∈ os := by rw [ptAt_lt hi]; exact List.getElem_mem _
theorem Cyc.chk {S os : List Pt} (h : Cyc S os) (h3 : 3 ≤ os.length) (h12 : os.length ≤ 12) (hS : ∀ p ∈ S, inR p = true) : chk os = true := by
  have ha : areP os = true := by
    unfold areP
    simp only [Bool.and_eq_true, decide_eq_true_eq, List.all_eq_true]
    exact ⟨⟨h3, h12⟩, fun x hx => hS x (h.mem x hx).1⟩
  refine chk_true ha (fun i hi => ?_)
  have hi := List.mem_range.1 hi
  refine (sideAt_iff h3 hi).2 (fun k hk hki hkj => ?_)
  rw [turn_crs]
  have hjl : (i + 1) % os.length < os.length := Nat.mod_lt _ (by omega)
  obtain ⟨b1, b2, b3⟩ := h.next i hi
  have hka : ptAt os k ≠ ptAt os i := fun e => hki (nodup_idx h.nodup hk hi e)
  have hkn : ptAt os k ≠ nx os i := fun e => hkj (nodup_idx h.nodup hk hjl e)
  obtain ⟨kS, kE⟩ := h.mem _ (ptAt_mem hk)
  obtain ⟨iS, iE⟩ := h.mem _ (ptAt_mem hi)
  obtain ⟨g1, g2⟩ := b3 _ kS hka
  rcases Int.lt_or_eq_of_le g1 with h | h
  · exact h
  · exfalso
    obtain ⟨d, hd⟩ := iE
    have hr := half_ray (hd _ b1 b2) (hd _ kS hka) h.symm
    exact ext_between kE iS b1 (Ne.symm hka) (Ne.symm hkn) b2 h.symm hr (g2 h.symm)
theorem rot_at {os : List Pt} {k i : Nat} (hk : k ≤ os.length) (hi : i < os.length) : ptAt (os.drop k ++ os.take k) i = ptAt os ((i + k) % os.length) := by
  unfold ptAt
  by_cases h : i < os.length - k
  · rw [List.getD_eq_getElem?_getD, List.getElem?_append_left (by rw [List.length_drop]; exact h), List.getElem?_drop, Nat.mod_eq_of_lt (by omega), List.getD_eq_getElem?_getD, Nat.add_comm]
  · rw [List.getD_eq_getElem?_getD, List.getElem?_append_right (by rw [List.length_drop]; omega), List.length_drop, List.getElem?_take, if_pos (by omega), List.getD_eq_getElem?_getD]
    have : (i + k) % os.length = i - (os.length - k) := by
      rw [show i + k = i - (os.length - k) + os.length by omega, Nat.add_mod_right, Nat.mod_eq_of_lt (by omega)]
    rw [this]
theorem rot_len {os : List Pt} {k : Nat} (hk : k ≤ os.length) : (os.drop k ++ os.take k).length = os.length := by
  rw [List.length_append, List.length_drop, List.length_take]; omega
theorem Cyc.rot {S os : List Pt} (h : Cyc S os) {k : Nat} (hk : k ≤ os.length) (h0 : 0 < os.length) : Cyc S (os.drop k ++ os.take k) := by
  refine ⟨?_, fun x hx => ?_, fun i hi => ?_⟩
  · have : (os.take k ++ os.drop k).Nodup := by rw [List.take_append_drop]; exact h.nodup
    exact (List.perm_append_comm.nodup_iff).1 this
  · refine h.mem x ?_
    rcases List.mem_append.1 hx with hx | hx
    · exact List.mem_of_mem_drop hx
    · exact List.mem_of_mem_take hx
  · rw [rot_len hk] at hi
    unfold nx
    rw [rot_len hk, rot_at hk hi, rot_at hk (Nat.mod_lt _ h0)]
    have e : ((i + 1) % os.length + k) % os.length = ((i + k) % os.length + 1) % os.length := by
      rw [Nat.add_mod, Nat.mod_mod, ← Nat.add_mod, Nat.add_mod ((i + k) % os.length), Nat.mod_mod, ← Nat.add_mod]
      congr 1; omega
    rw [e]
    exact h.next _ (Nat.mod_lt _ h0)
/-- the walk so far -/
structure Way (S os : List Pt) (f a : Pt) : Prop where
  nodup : os.Nodup
  mem : ∀ x ∈ os, x ∈ S ∧ Ext S x
  next : ∀ i, i + 1 < os.length → Best S (ptAt os i) (ptAt os (i + 1))
  pos : 0 < os.length
  first : ptAt os 0 = f
  last : ptAt os (os.length - 1) = a
theorem Way.start {S : List Pt} {f : Pt} (hf : f ∈ S) (he : Ext S f) : Way S [f] f f :=
  ⟨by simp, fun x hx => by rw [List.mem_singleton.1 hx]; exact ⟨hf, he⟩, fun i h => by simp at h, by simp, rfl, rfl⟩
theorem Way.step {S os : List Pt} {f a n : Pt} (h : Way S os f a) (hn : Best S a n) (hnf : n ≠ f) : Way S (os ++ [n]) f n := by
  have hpos := h.pos
  have hlast := h.last
  have haS := h.mem a (by rw [← hlast]; exact ptAt_mem (by omega))
  have hnew : n ∉ os := fun hmem => by
    obtain ⟨j, hj, hje⟩ := List.getElem_of_mem hmem
    rw [← ptAt_lt hj] at hje
    by_cases hj0 : j = 0
    · subst hj0; exact hnf (by rw [← hje]; exact h.first)
    · have hb := h.next (j - 1) (by omega)
      rw [show j - 1 + 1 = j by omega, hje] at hb
      obtain ⟨pS, pE⟩ := h.mem _ (ptAt_mem (os := os) (i := j - 1) (by omega))
      have := pick_inj pS haS.1 pE haS.2 hb hn
      rw [← hlast] at this
      have := nodup_idx h.nodup (by omega) (by omega) this
      omega
  have hat : ∀ i, i < os.length → ptAt (os ++ [n]) i = ptAt os i := fun i hi => by
    rw [ptAt_lt (by simp; omega), ptAt_lt hi, List.getElem_append_left hi]
  have hatn : ptAt (os ++ [n]) os.length = n := by
    rw [ptAt_lt (by simp)]; simp
  refine ⟨?_, fun x hx => ?_, fun i hi => ?_, by simp, ?_, ?_⟩
  · rw [List.nodup_append]
    refine ⟨h.nodup, by simp, fun x hx y hy => ?_⟩
    rw [List.mem_singleton.1 hy]
    rintro rfl; exact hnew hx
  · rcases List.mem_append.1 hx with hx | hx
    · exact h.mem x hx
    · rw [List.mem_singleton.1 hx]; exact ⟨hn.1, best_ext haS.2 hn⟩
  · rw [List.length_append, List.length_singleton] at hi
    rw [hat i (by omega)]
    by_cases hi2 : i + 1 < os.length
    · rw [hat _ hi2]; exact h.next i hi2
    · have e : i + 1 = os.length := by omega
      rw [e, hatn, show i = os.length - 1 by omega, hlast]; exact hn
  · rw [hat 0 hpos]; exact h.first
  · rw [List.length_append, List.length_singleton, Nat.add_sub_cancel]; exact hatn
theorem Way.close {S os : List Pt} {f a : Pt} (h : Way S os f a) (hn : Best S a f) : Cyc S os := by
  refine ⟨h.nodup, h.mem, fun i hi => ?_⟩
  unfold nx
  by_cases hi2 : i + 1 < os.length
  · rw [Nat.mod_eq_of_lt hi2]; exact h.next i hi2
  · have e : i + 1 = os.length := by omega
    rw [e, Nat.mod_self, h.first, show i = os.length - 1 by omega, h.last]; exact hn
theorem nodup_le : ∀ {os S : List Pt}, os.Nodup → (∀ x ∈ os, x ∈ S) → os.length ≤ S.length
  | [], _, _, _ => by simp
  | x :: os, S, h, hs => by
    have hx := hs x List.mem_cons_self
    have hn := List.nodup_cons.1 h
    have ih := nodup_le (os := os) (S := S.erase x) hn.2 (fun y hy => by
      have hy' := hs y (List.mem_cons_of_mem _ hy)
      have hne : y ≠ x := fun e => hn.1 (e ▸ hy)
      exact (List.mem_erase_of_ne hne).2 hy')
    rw [List.length_erase_of_mem hx] at ih
    have : 0 < S.length := List.length_pos_of_mem hx
    simp only [List.length_cons]
    omega
def befB (a b : Pt) : Bool := decide (a.1 < b.1) || (decide (a.1 = b.1) && decide (a.2 < b.2))
theorem first_ext {S : List Pt} {f : Pt} (h : ∀ p ∈ S, befB p f = false) : Ext S f := by
  refine ⟨(0, -1), fun p hp hpf => ?_⟩
  have := h p hp
  unfold befB at this
  simp only [Bool.or_eq_false_iff, Bool.and_eq_false_iff, decide_eq_false_iff_not] at this
  unfold Half crs dt mn
  dsimp only
  have hne : ¬ (p.1 = f.1 ∧ p.2 = f.2) := fun e => hpf (Prod.ext e.1 e.2)
  omega
end Go.Proofs.Ytlehddifcjklgaa
