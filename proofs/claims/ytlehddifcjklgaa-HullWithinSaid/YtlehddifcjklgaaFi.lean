import Derived.Test.YtlehddifcjklgaaEq
import Derived.Test.YtlehddifcjklgaaFc
import Derived.Maps.OwnIn
import Derived.Maps.OwnSet
import Derived.Maps.AppendAt
import Derived.RangeFuncNested
import Derived.RangeFuncBound
import Derived.RangeFuncCalls
import Derived.RangeFuncLeaves
import Derived.Shelf.Abstract
import Derived.Shelf.RegionOpen
import Derived.WalkKit
import Derived.OwnWalkIn
import Derived.TacticsInMore
import Derived.LoopNIn
import Derived.LoopIn
import Derived.WalkMore
import Derived.Sort.QuietThIn
import Derived.Sort.QuietTacIn
import Derived.Sort.BigQuietIn
import Derived.WalkSpells
import Derived.WalkLawsBesides
import Derived.BigQuiet
import Derived.Deep.QuietTactic
import Derived.Lib.Hide
import Derived.Deep.RegionHeld3
import Derived.StillTailTactics
import Derived.Deep.LoopGhost
import Derived.Lib.IndexAny
namespace Go.Proofs.Ytlehddifcjklgaa
open Go.RowKit Go.Shelf
attribute [local go_sem] Oper.semAt_some
/-! no triangle of points within a hull has more area than the hull -/
theorem Ring.part {n : Nat} {V : Nat → Q2} (h : Ring n V) (i : Nat) : ∀ d, d ≤ n → 0 ≤ sumQ (fun k => cq (V k) (V (k + 1))) i d + cq (V (i + d)) (V i)
  | 0, _ => by simp only [sumQ, Nat.add_zero]; rw [cq_self]; grind
  | d + 1, hd => by
    have ih := h.part i d (by omega)
    have hw := h.weak (i := i) (j := i + d) (k := i + d + 1) (by omega) (by omega) (by omega)
    have e : tq (V i) (V (i + d)) (V (i + d + 1)) = cq (V (i + d)) (V (i + d + 1)) + cq (V (i + d + 1)) (V i) - cq (V (i + d)) (V i) := by unfold tq cq; grind
    simp only [sumQ]
    rw [show i + (d + 1) = i + d + 1 by omega]
    grind
theorem Ring.tri {n : Nat} {V : Nat → Q2} (h : Ring n V) {i j k : Nat} (hij : i ≤ j) (hjk : j ≤ k) (hk : k ≤ i + n) : tq (V i) (V j) (V k) ≤ sumQ (fun k => cq (V k) (V (k + 1))) 0 n := by
  have s := sumQ_shift (f := fun k => cq (V k) (V (k + 1))) (n := n) (fun k => by
    have e1 := h.per k
    have e2 := h.per (k + 1)
    rw [show k + 1 + n = k + n + 1 by omega] at e2
    rw [e1, e2]) i
  obtain ⟨x, rfl⟩ : ∃ x, j = i + x := ⟨j - i, by omega⟩
  obtain ⟨y, rfl⟩ : ∃ y, k = i + x + y := ⟨k - (i + x), by omega⟩
  obtain ⟨z, hz⟩ : ∃ z, n = x + y + z := ⟨n - (x + y), by omega⟩
  have p1 := h.part i x (by omega)
  have p2 := h.part (i + x) y (by omega)
  have p3 := h.part (i + x + y) z (by omega)
  have e : sumQ (fun k => cq (V k) (V (k + 1))) i n = sumQ (fun k => cq (V k) (V (k + 1))) i x + sumQ (fun k => cq (V k) (V (k + 1))) (i + x) y + sumQ (fun k => cq (V k) (V (k + 1))) (i + x + y) z := by
    rw [hz, sumQ_split, sumQ_split, Nat.add_assoc i x y]
  rw [show i + x + y + z = i + n by omega, h.per] at p3
  rw [← s, e]
  have e2 : tq (V i) (V (i + x)) (V (i + x + y)) = cq (V i) (V (i + x)) + cq (V (i + x)) (V (i + x + y)) + cq (V (i + x + y)) (V i) := by unfold tq cq; grind
  have e3 : ∀ a b : Q2, cq a b = -cq b a := fun a b => by unfold cq; grind
  rw [e2, e3 (V i), e3 (V (i + x)) (V (i + x + y)), e3 (V (i + x + y)) (V i)]
  have e4 := e3 (V i) (V (i + x + y))
  grind
theorem area_cast {ps : List Pt} (hc : chk ps = true) : sumQ (fun k => cq (VQ ps k) (VQ ps (k + 1))) 0 ps.length = (((mid ps).2.2 * (mid ps).2.2 * area ps : Int) : Rat) := by
  have h3 := (areP_len (chk_areP hc)).1
  have e : sumQ (fun k => cq (VQ ps k) (VQ ps (k + 1))) 0 ps.length = sumQ (fun k => ((crs (scP (mid ps) (ptAt ps k)) (scP (mid ps) (nx ps k)) : Int) : Rat)) 0 ps.length := by
    refine sumQ_congr _ fun k hk => ?_
    rw [Nat.zero_add, VQ_next]
    unfold VQ
    rw [Nat.mod_eq_of_lt hk, cq_cast]
  rw [e, sumQ_cast]
  congr 1
  generalize mid ps = m
  obtain ⟨m1, m2, D⟩ := m
  have e2 : ((List.range ps.length).map (fun i => crs (scP (m1, m2, D) (ptAt ps i)) (scP (m1, m2, D) (nx ps i)))) =
      ((List.range ps.length).map (fun i => (D * D * crsAt ps i) + ((fun p : Pt => D * crs (m1, m2) p) (ptAt ps i) - (fun p : Pt => D * crs (m1, m2) p) (nx ps i)))) := by
    refine List.map_congr_left fun i _ => ?_
    unfold crsAt crs scP; grind
  rw [e2]
  refine (sum_tele ps (by omega) (fun i => D * D * crsAt ps i) (fun p : Pt => D * crs (m1, m2) p)).trans ?_
  rw [sum_map_mul]; rfl
theorem turn_cyc (a b c : Pt) : turn a b c = turn b c a := by unfold turn; grind
theorem turn_swap (a b c : Pt) : turn a b c = -turn a c b := by unfold turn; grind
theorem tri_up {ps : List Pt} (hc : chk ps = true) {i j k : Nat} (hij : i ≤ j) (hjk : j ≤ k) (hk : k < ps.length) : turn (ptAt ps i) (ptAt ps j) (ptAt ps k) ≤ area ps ∧ 0 ≤ turn (ptAt ps i) (ptAt ps j) (ptAt ps k) := by
  have hD := mid_D hc
  have h1 := (ring_of hc).tri hij hjk (by omega)
  have h2 := (ring_of hc).weak hij hjk (by omega)
  rw [area_cast hc] at h1
  unfold VQ at h1 h2
  rw [Nat.mod_eq_of_lt (show i < ps.length by omega), Nat.mod_eq_of_lt (show j < ps.length by omega), Nat.mod_eq_of_lt hk, tq_cast, turn_sc] at h1 h2
  have k1 := Rat.intCast_le_intCast.1 h1
  have k2 : 0 ≤ (mid ps).2.2 * (mid ps).2.2 * turn (ptAt ps i) (ptAt ps j) (ptAt ps k) := Rat.intCast_nonneg.1 h2
  have hDD := Int.mul_pos hD hD
  refine ⟨Int.le_of_mul_le_mul_left k1 hDD, ?_⟩
  exact Int.nonneg_of_mul_nonneg_right k2 hDD
theorem tri_corners {ps : List Pt} (hc : chk ps = true) {i j k : Nat} (hi : i < ps.length) (hj : j < ps.length) (hk : k < ps.length) : turn (ptAt ps i) (ptAt ps j) (ptAt ps k) ≤ area ps := by
  have hA := chk_area hc
  have six : ∀ x y z, x ≤ y → y ≤ z → z < ps.length → turn (ptAt ps x) (ptAt ps y) (ptAt ps z) ≤ area ps ∧ turn (ptAt ps y) (ptAt ps z) (ptAt ps x) ≤ area ps ∧ turn (ptAt ps z) (ptAt ps x) (ptAt ps y) ≤ area ps ∧
      turn (ptAt ps x) (ptAt ps z) (ptAt ps y) ≤ area ps ∧ turn (ptAt ps z) (ptAt ps y) (ptAt ps x) ≤ area ps ∧ turn (ptAt ps y) (ptAt ps x) (ptAt ps z) ≤ area ps := fun x y z a b c => by
    obtain ⟨k1, k2⟩ := tri_up hc a b c
    generalize ptAt ps x = X at *
    generalize ptAt ps y = Y at *
    generalize ptAt ps z = Z at *
    have e1 := turn_cyc X Y Z
    have e2 := turn_cyc Y Z X
    have e3 := turn_swap X Y Z
    have e4 := turn_cyc X Z Y
    have e5 := turn_cyc Z Y X
    omega
  rcases Nat.le_total i j with a | a <;> rcases Nat.le_total j k with b | b <;> rcases Nat.le_total i k with d | d
  · exact (six i j k a b hk).1
  · exact (six i j k a b hk).1
  · exact (six i k j d b hj).2.2.2.1
  · exact (six k i j d a hj).2.1
  · exact (six j i k a d hk).2.2.2.2.2
  · exact (six j k i b d hi).2.2.1
  · exact (six k j i b a hi).2.2.2.2.1
  · exact (six k j i b a hi).2.2.2.2.1
/-- a linear form on a hull is greatest at a corner -/
theorem lin_max {ps : List Pt} (hc : chk ps = true) (u v : Int) : ∃ m, m < ps.length ∧ ∀ P : Pt, (∀ i, i < ps.length → 0 ≤ turn (ptAt ps i) (nx ps i) P) → u * P.1 + v * P.2 ≤ u * (ptAt ps m).1 + v * (ptAt ps m).2 := by
  have h3 := (areP_len (chk_areP hc)).1
  have ex : ∀ n, ∃ m, m < n + 1 ∧ ∀ k, k < n + 1 → u * (ptAt ps k).1 + v * (ptAt ps k).2 ≤ u * (ptAt ps m).1 + v * (ptAt ps m).2 := by
    intro n
    induction n with
    | zero => exact ⟨0, by omega, fun k hk => by rw [show k = 0 by omega]; omega⟩
    | succ n ih =>
      obtain ⟨m, hm, h⟩ := ih
      rcases Int.lt_or_le (u * (ptAt ps m).1 + v * (ptAt ps m).2) (u * (ptAt ps (n + 1)).1 + v * (ptAt ps (n + 1)).2) with k | k
      · refine ⟨n + 1, by omega, fun i hi => ?_⟩
        rcases Nat.lt_or_ge i (n + 1) with h' | h'
        · have := h i h'; omega
        · rw [show i = n + 1 by omega]; omega
      · refine ⟨m, by omega, fun i hi => ?_⟩
        rcases Nat.lt_or_ge i (n + 1) with h' | h'
        · exact h i h'
        · rw [show i = n + 1 by omega]; omega
  obtain ⟨m, hm, hmax⟩ := ex (ps.length - 1)
  have hml : m < ps.length := by omega
  refine ⟨m, hml, fun P hP => ?_⟩
  -- the sides before and behind the corner
  have hj : (m + ps.length - 1) % ps.length < ps.length := Nat.mod_lt _ (by omega)
  have hmn : (m + 1) % ps.length < ps.length := Nat.mod_lt _ (by omega)
  have hpn := prev_next hml
  have hQ := crs_next hc hj
  have t1 := hP _ hj
  have t2 := hP m hml
  have m1 := hmax ((m + ps.length - 1) % ps.length) (by omega)
  have m2 := hmax ((m + 1) % ps.length) (by omega)
  have e1 : nx ps ((m + ps.length - 1) % ps.length) = ptAt ps m := by unfold nx; rw [hpn]
  have e2 : nx ps m = ptAt ps ((m + 1) % ps.length) := rfl
  rw [hpn] at hQ
  unfold alongS at hQ
  rw [e1, e2] at hQ
  rw [e1] at t1
  rw [e2] at t2
  generalize ptAt ps ((m + ps.length - 1) % ps.length) = A at *
  generalize ptAt ps ((m + 1) % ps.length) = C at *
  generalize ptAt ps m = B at *
  have e : crs (mn B A) (mn C B) * ((u * P.1 + v * P.2) - (u * B.1 + v * B.2)) = -(turn B C P * ((u * B.1 + v * B.2) - (u * A.1 + v * A.2))) + turn A B P * ((u * C.1 + v * C.2) - (u * B.1 + v * B.2)) := by
    unfold crs mn turn; dsimp only; grind
  have k1 := Int.mul_nonneg t2 (show 0 ≤ (u * B.1 + v * B.2) - (u * A.1 + v * A.2) by omega)
  have k2 := Int.mul_nonpos_of_nonneg_of_nonpos t1 (show (u * C.1 + v * C.2) - (u * B.1 + v * B.2) ≤ 0 by omega)
  have k3 : crs (mn B A) (mn C B) * ((u * P.1 + v * P.2) - (u * B.1 + v * B.2)) ≤ 0 := by omega
  rcases Int.lt_or_le 0 ((u * P.1 + v * P.2) - (u * B.1 + v * B.2)) with k | k
  · have := Int.mul_pos hQ k; omega
  · omega
theorem tri_in {ps : List Pt} (hc : chk ps = true) {P Q R : Pt} (hP : ∀ i, i < ps.length → 0 ≤ turn (ptAt ps i) (nx ps i) P) (hQ : ∀ i, i < ps.length → 0 ≤ turn (ptAt ps i) (nx ps i) Q) (hR : ∀ i, i < ps.length → 0 ≤ turn (ptAt ps i) (nx ps i) R) : turn P Q R ≤ area ps := by
  have one : ∀ B C : Pt, ∃ m, m < ps.length ∧ ∀ X : Pt, (∀ i, i < ps.length → 0 ≤ turn (ptAt ps i) (nx ps i) X) → turn X B C ≤ turn (ptAt ps m) B C := by
    intro B C
    obtain ⟨m, hm, h⟩ := lin_max hc (B.2 - C.2) (C.1 - B.1)
    refine ⟨m, hm, fun X hX => ?_⟩
    have := h X hX
    have e : ∀ X : Pt, turn X B C = ((B.2 - C.2) * X.1 + (C.1 - B.1) * X.2) + (B.1 * C.2 - B.2 * C.1) := fun X => by unfold turn; grind
    rw [e X, e (ptAt ps m)]; omega
  obtain ⟨i, hi, h1⟩ := one Q R
  obtain ⟨j, hj, h2⟩ := one R (ptAt ps i)
  obtain ⟨k, hk, h3⟩ := one (ptAt ps i) (ptAt ps j)
  have a1 := h1 P hP
  have a2 := h2 Q hQ
  have a3 := h3 R hR
  have a4 := tri_corners hc hk hi hj
  have e1 := turn_cyc (ptAt ps i) Q R
  have e2 := turn_cyc (ptAt ps j) R (ptAt ps i)
  omega
/-- what the law asks of the hull round points -/
theorem within_facts {ps L : List Pt} (ha : areP ps = true) (hL : L.Perm ps) (hs : SrtU L L.length) (h3 : 3 ≤ (arnd (dd L)).length) :
    chk (arnd (dd L)) = true ∧ (∀ i k, i < (arnd (dd L)).length → k < ps.length → 0 ≤ turn (ptAt (arnd (dd L)) i) (nx (arnd (dd L)) i) (ptAt ps k)) ∧
    (∀ i, i < (arnd (dd L)).length → ∃ k, k < ps.length ∧ ptAt ps k = ptAt (arnd (dd L)) i) ∧ (∀ i, i < (arnd (dd L)).length → befB (ptAt (arnd (dd L)) i) (ptAt (arnd (dd L)) 0) = false) ∧
    (∀ L', L'.Perm (arnd (dd L)) → SrtU L' L'.length → 3 ≤ (arnd (dd L')).length → arnd (dd L') = arnd (dd L)) := by
  have two : ∀ S : List Pt, 3 ≤ (arnd S).length → 2 ≤ S.length := by
    intro S h
    match S, h with
    | [], h => simp [arnd] at h
    | [p], h => simp [arnd, leftR, popR] at h
    | _ :: _ :: _, _ => simp
  obtain ⟨hcy, f, hf, hfm, hfl⟩ := arnd_any hL hs (two _ h3)
  have h12 := (areP_len ha).2
  have hin : ∀ q ∈ ps, inR q = true := by
    unfold areP at ha
    rw [Bool.and_eq_true, List.all_eq_true] at ha
    exact ha.2
  generalize arnd (dd L) = A at *
  have hle : A.length ≤ 12 := Nat.le_trans (nodup_le hcy.nodup (fun x hx => (hcy.mem x hx).1)) h12
  have hck := hcy.chk h3 hle hin
  have hf0 : ptAt A 0 = f := by
    cases A with
    | nil => simp at hf
    | cons a r => simpa [ptAt] using hf
  have hsub : ∀ x ∈ A, x ∈ ps := fun x hx => (hcy.mem x hx).1
  have hnx : ∀ i, i < A.length → nx A i ∈ A := fun i hi => ptAt_mem (Nat.mod_lt _ (by omega))
  refine ⟨hck, fun i k hi hk => ?_, fun i hi => ?_, fun i hi => ?_, fun L' hL' hs' h3' => ?_⟩
  · have hb := hcy.next i hi
    have e : turn (ptAt A i) (nx A i) (ptAt ps k) = crs (mn (nx A i) (ptAt A i)) (mn (ptAt ps k) (ptAt A i)) := by unfold turn crs mn; dsimp only; grind
    rcases Classical.em (ptAt ps k = ptAt A i) with e' | e'
    · rw [e, e']; unfold crs mn; dsimp only; omega
    · rw [e]; exact (hb.2.2 _ (ptAt_mem hk) e').1
  · obtain ⟨k, hk, e⟩ := List.getElem_of_mem (hsub _ (ptAt_mem hi))
    exact ⟨k, hk, by rw [ptAt_lt hk, e]⟩
  · rw [hf0]; exact hfl _ (hsub _ (ptAt_mem hi))
  · obtain ⟨hcy', f', hf', hfm', hfl'⟩ := arnd_any hL' hs' (two _ h3')
    have hAA : Cyc A A := ⟨hcy.nodup, fun x hx => ⟨hx, by
      obtain ⟨d, hd⟩ := (hcy.mem x hx).2
      exact ⟨d, fun p hp hne => hd p (hsub p hp) hne⟩⟩, fun i hi => by
      obtain ⟨b1, b2, b3⟩ := hcy.next i hi
      exact ⟨hnx i hi, b2, fun p hp hne => b3 p (hsub p hp) hne⟩⟩
    generalize arnd (dd L') = A' at *
    have hf0' : ptAt A' 0 = f' := by
      cases A' with
      | nil => simp at hf'
      | cons a r => simpa [ptAt] using hf'
    refine cyc_uniq hcy' hAA ?_ (by omega) (by omega)
    rw [hf0, hf0']
    have hfA : f ∈ A := by rw [← hf0]; exact ptAt_mem (by omega)
    exact bef_eq (hfl f' (hsub f' hfm')) (hfl' f hfA)
end Go.Proofs.Ytlehddifcjklgaa
