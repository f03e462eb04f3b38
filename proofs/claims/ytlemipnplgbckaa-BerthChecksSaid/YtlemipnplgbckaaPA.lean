import Derived.Test.YtlemipnplgbckaaBW
import Derived.Laws.AppendOwn
import Derived.ChangeKeysEq
import Derived.Maps.RangeWalk
import Derived.Maps.OwnIn
import Derived.Maps.AppendAt
import Derived.RangeFuncNested
import Derived.RangeFuncBound
import Derived.RangeFuncCalls
import Derived.RangeFuncLeaves
import Derived.Shelf.Abstract
import Derived.Shelf.RegionOpen
import Derived.WalkKit
import Derived.WalkMore
import Derived.OwnWalkIn
import Derived.TacticsInMore
import Derived.LoopNIn
import Derived.LoopIn
import Derived.WalkSpells
import Derived.WalkLawsBesides
import Derived.BigQuiet
import Derived.Deep.QuietTactic
import Derived.Lib.Hide
import Derived.Deep.RegionHeld3
import Derived.StillTailTactics
import Derived.Deep.LoopGhost
import Derived.Maps.OwnSet
import Derived.Lib.IndexAny
import Derived.Sort.QuietThIn
import Derived.Sort.QuietTacIn
import Derived.Sort.BigQuietIn
import Derived.Laws.OwnMore
import Derived.DeepKeys4
import Derived.Maps.Views
import Derived.Maps.OwnOps
import Derived.Laws.OwnMore
import Derived.Deep.DeepCutAuto
import Derived.ChangeKeysEq
namespace Go.Proofs.Ytlemipnplgbckaa
open Go.RowKit Go.Shelf
attribute [local go_sem] Oper.semAt_some
abbrev Zt := Rat × Rat
/-- the square of the distance -/
def d2 (z : Zt) (p : Pt) : Rat := ((p.1 : Rat) - z.1) * ((p.1 : Rat) - z.1) + ((p.2 : Rat) - z.2) * ((p.2 : Rat) - z.2)
def mv (z m : Zt) (t : Rat) : Zt := (z.1 + t * (m.1 - z.1), z.2 + t * (m.2 - z.2))
def ptZ (p : Pt) : Zt := ((p.1 : Rat), (p.2 : Rat))
def midZ (p q : Pt) : Zt := (((p.1 : Rat) + q.1) / 2, ((p.2 : Rat) + q.2) / 2)
theorem aff_min {α : Type} (a b : α → Rat) : ∀ L : List α, (∀ q ∈ L, a q ≤ 0) → ∃ t : Rat, 0 ≤ t ∧ t ≤ 1 ∧ (∀ q ∈ L, a q + t * (b q - a q) ≤ 0) ∧ (t = 1 ∨ ∃ q ∈ L, a q + t * (b q - a q) = 0 ∧ 0 < b q)
  | [], _ => ⟨1, by grind, by grind, by simp, .inl rfl⟩
  | h :: L, ha => by
    obtain ⟨t, h0, h1, hL, hr⟩ := aff_min a b L (fun q hq => ha q (by simp [hq]))
    have hh := ha h (by simp)
    by_cases hc : a h + t * (b h - a h) ≤ 0
    · refine ⟨t, h0, h1, ?_, hr.imp id ?_⟩
      · intro q hq
        rcases List.mem_cons.1 hq with rfl | hq
        · exact hc
        · exact hL q hq
      · rintro ⟨q, hq, h⟩
        exact ⟨q, by simp [hq], h⟩
    · have hpos : 0 < t * (b h - a h) := by grind
      have hd : 0 < b h - a h := by
        rcases Rat.le_iff_lt_or_eq.1 h0 with k | k
        · by_cases hx : b h - a h ≤ 0
          · have := Rat.mul_le_mul_of_nonneg_left hx h0
            grind
          · grind
        · rw [← k] at hpos; grind
      have hne : b h - a h ≠ 0 := by grind
      have hs : ∃ s, s * (b h - a h) = - a h := ⟨- a h / (b h - a h), by grind⟩
      obtain ⟨s, hs⟩ := hs
      have hst : s < t := by
        by_cases k : s < t
        · exact k
        · have := Rat.mul_le_mul_of_nonneg_right (show t ≤ s by grind) (show (0 : Rat) ≤ b h - a h by grind)
          grind
      have hs0 : 0 ≤ s := by
        by_cases k : 0 ≤ s
        · exact k
        · have := Rat.mul_lt_mul_of_pos_right (show s < 0 by grind) hd
          grind
      refine ⟨s, hs0, by grind, ?_, .inr ⟨h, by simp, by grind, ?_⟩⟩
      · intro q hq
        rcases List.mem_cons.1 hq with rfl | hq
        · grind
        · have hq1 := hL q hq
          have hq0 := ha q (by simp [hq])
          by_cases hb : b q - a q ≤ 0
          · have := Rat.mul_le_mul_of_nonneg_left hb hs0
            grind
          · have := Rat.mul_le_mul_of_nonneg_right (show s ≤ t by grind) (show (0 : Rat) ≤ b q - a q by grind)
            grind
      · have := Rat.mul_le_mul_of_nonneg_right h1 (show (0 : Rat) ≤ b h - a h by grind)
        grind
theorem d2_mv (z m : Zt) (t : Rat) (p q : Pt) : d2 (mv z m t) q - d2 (mv z m t) p = (d2 z q - d2 z p) + t * ((d2 m q - d2 m p) - (d2 z q - d2 z p)) := by
  unfold d2 mv; grind

theorem sq_nn (x : Rat) : 0 ≤ x * x := by
  rcases Rat.le_total (a := 0) (b := x) with h | h
  · have := Rat.mul_le_mul_of_nonneg_left h h; grind
  · have := Rat.mul_le_mul_of_nonneg_left (show (0 : Rat) ≤ -x by grind) (show (0 : Rat) ≤ -x by grind)
    grind
theorem sq_zero {x : Rat} (h : x * x ≤ 0) : x = 0 := by
  have h1 : x * x = 0 := by have := sq_nn x; grind
  rcases Rat.mul_eq_zero.1 h1 with h | h <;> exact h
theorem d2_nn (z : Zt) (p : Pt) : 0 ≤ d2 z p := by
  unfold d2
  have := sq_nn ((p.1 : Rat) - z.1)
  have := sq_nn ((p.2 : Rat) - z.2)
  grind
theorem d2_zero {z : Zt} {p : Pt} (h : d2 z p ≤ 0) : z = ptZ p := by
  unfold d2 at h
  have h1 := sq_nn ((p.1 : Rat) - z.1)
  have h2 := sq_nn ((p.2 : Rat) - z.2)
  have e1 := sq_zero (show ((p.1 : Rat) - z.1) * ((p.1 : Rat) - z.1) ≤ 0 by grind)
  have e2 := sq_zero (show ((p.2 : Rat) - z.2) * ((p.2 : Rat) - z.2) ≤ 0 by grind)
  unfold ptZ
  ext
  · show z.1 = (p.1 : Rat); grind
  · show z.2 = (p.2 : Rat); grind
theorem ptZ_inj {p q : Pt} (h : ptZ p = ptZ q) : p = q := by
  unfold ptZ at h
  obtain ⟨p1, p2⟩ := p
  obtain ⟨q1, q2⟩ := q
  simp only [Prod.mk.injEq, Rat.intCast_inj] at h
  rw [h.1, h.2]
def cr (a b c : Pt) : Rat := ((b.1 : Rat) - a.1) * ((c.2 : Rat) - a.2) - ((b.2 : Rat) - a.2) * ((c.1 : Rat) - a.1)
/-- three different points at one distance from a place are not on one line -/
theorem cr_ne {z : Zt} {p q r : Pt} (h1 : d2 z p = d2 z q) (h2 : d2 z p = d2 z r) (hpq : p ≠ q) (hpr : p ≠ r) (hqr : q ≠ r) : cr p q r ≠ 0 := by
  intro hc
  unfold cr at hc
  obtain ⟨p1, p2⟩ := p
  obtain ⟨q1, q2⟩ := q
  obtain ⟨r1, r2⟩ := r
  obtain ⟨z1, z2⟩ := z
  unfold d2 at h1 h2
  dsimp only at h1 h2 hc
  have e1 : (p1 : Rat) = q1 → (p2 : Rat) = q2 → False := fun a b => hpq (by rw [Rat.intCast_inj.1 a, Rat.intCast_inj.1 b])
  have e2 : (p1 : Rat) = r1 → (p2 : Rat) = r2 → False := fun a b => hpr (by rw [Rat.intCast_inj.1 a, Rat.intCast_inj.1 b])
  have e3 : (q1 : Rat) = r1 → (q2 : Rat) = r2 → False := fun a b => hqr (by rw [Rat.intCast_inj.1 a, Rat.intCast_inj.1 b])
  clear hpq hpr hqr
  generalize (p1 : Rat) = P1 at *
  generalize (p2 : Rat) = P2 at *
  generalize (q1 : Rat) = Q1 at *
  generalize (q2 : Rat) = Q2 at *
  generalize (r1 : Rat) = R1 at *
  generalize (r2 : Rat) = R2 at *
  obtain ⟨u1, hu1⟩ : ∃ u, u = Q1 - P1 := ⟨_, rfl⟩
  obtain ⟨u2, hu2⟩ : ∃ u, u = Q2 - P2 := ⟨_, rfl⟩
  obtain ⟨v1, hv1⟩ : ∃ u, u = R1 - P1 := ⟨_, rfl⟩
  obtain ⟨v2, hv2⟩ : ∃ u, u = R2 - P2 := ⟨_, rfl⟩
  obtain ⟨w1, hw1⟩ : ∃ u, u = z1 - P1 := ⟨_, rfl⟩
  obtain ⟨w2, hw2⟩ : ∃ u, u = z2 - P2 := ⟨_, rfl⟩
  have c0 : u1 * v2 - u2 * v1 = 0 := by grind
  have k1 : u1 * u1 + u2 * u2 = 2 * (w1 * u1 + w2 * u2) := by grind
  have k2 : v1 * v1 + v2 * v2 = 2 * (w1 * v1 + w2 * v2) := by grind
  obtain ⟨N, hN⟩ : ∃ N, N = u1 * u1 + u2 * u2 := ⟨_, rfl⟩
  obtain ⟨d, hd⟩ : ∃ N, N = u1 * v1 + u2 * v2 := ⟨_, rfl⟩
  have n0 : N ≠ 0 := by
    intro h
    have a1 := sq_nn u1
    have a2 := sq_nn u2
    have b1 := sq_zero (show u1 * u1 ≤ 0 by grind)
    have b2 := sq_zero (show u2 * u2 ≤ 0 by grind)
    exact e1 (by grind) (by grind)
  have f1 : N * v1 = d * u1 := by grind
  have f2 : N * v2 = d * u2 := by grind
  have f3 : N * (v1 * v1 + v2 * v2) = d * d := by grind
  have f4 : 2 * (N * (w1 * v1 + w2 * v2)) = d * N := by grind
  have f5 : d * (d - N) = 0 := by grind
  rcases Rat.mul_eq_zero.1 f5 with h | h
  · have g1 : N * v1 = 0 := by grind
    have g2 : N * v2 = 0 := by grind
    have g3 : v1 = 0 := by rcases Rat.mul_eq_zero.1 g1 with h | h; exact absurd h n0; exact h
    have g4 : v2 = 0 := by rcases Rat.mul_eq_zero.1 g2 with h | h; exact absurd h n0; exact h
    exact e2 (by grind) (by grind)
  · have g1 : N * (v1 - u1) = 0 := by grind
    have g2 : N * (v2 - u2) = 0 := by grind
    have g3 : v1 - u1 = 0 := by rcases Rat.mul_eq_zero.1 g1 with h | h; exact absurd h n0; exact h
    have g4 : v2 - u2 = 0 := by rcases Rat.mul_eq_zero.1 g2 with h | h; exact absurd h n0; exact h
    exact e3 (by grind) (by grind)
theorem d2_mid (z : Zt) (p q : Pt) (h : d2 z p = d2 z q) : d2 (midZ p q) p = d2 (midZ p q) q ∧ d2 (midZ p q) p ≤ d2 z p := by
  have h1 : d2 (midZ p q) p = d2 (midZ p q) q := by unfold d2 midZ; grind
  refine ⟨h1, ?_⟩
  have e : d2 z p = d2 (midZ p q) p + ((z.1 - (midZ p q).1) * (z.1 - (midZ p q).1) + (z.2 - (midZ p q).2) * (z.2 - (midZ p q).2)) := by
    unfold d2 midZ at *; grind
  have := sq_nn (z.1 - (midZ p q).1)
  have := sq_nn (z.2 - (midZ p q).2)
  grind
/-- the places of the circles that are tried: over two points, or through three, with one of them -/
def Cand (L : List Pt) (z : Zt) (p : Pt) : Prop := p ∈ L ∧ ((∃ q ∈ L, z = midZ p q) ∨ ∃ q ∈ L, ∃ r ∈ L, cr p q r ≠ 0 ∧ d2 z p = d2 z q ∧ d2 z p = d2 z r)
/-- the greatest distance -/
theorem far_ex (z : Zt) : ∀ L : List Pt, L ≠ [] → ∃ p ∈ L, ∀ q ∈ L, d2 z q ≤ d2 z p
  | [], h => absurd rfl h
  | [p], _ => ⟨p, by simp, fun q hq => by simp at hq; subst hq; exact Rat.le_refl⟩
  | p :: q :: L, _ => by
    obtain ⟨m, hm, h⟩ := far_ex z (q :: L) (by simp)
    by_cases hc : d2 z p ≤ d2 z m
    · exact ⟨m, List.mem_cons_of_mem _ hm, fun r hr => by
        rcases List.mem_cons.1 hr with rfl | hr
        · exact hc
        · exact h r hr⟩
    · exact ⟨p, by simp, fun r hr => by
        rcases List.mem_cons.1 hr with rfl | hr
        · exact Rat.le_refl
        · have := h r hr; grind⟩
theorem d2_scale (z m : Zt) (t : Rat) (p : Pt) (hm : m = ptZ p) : d2 (mv z m t) p = (1 - t) * (1 - t) * d2 z p := by
  subst hm; unfold d2 mv ptZ; grind
theorem mv_one (z m : Zt) : mv z m 1 = m := by
  unfold mv; ext <;> (dsimp only; grind)
/-- for any circle that has all points inside or on it there is one that is tried and no greater -/
theorem cand_ex (L : List Pt) (z : Zt) (p : Pt) (hp : p ∈ L) (hL : ∀ q ∈ L, d2 z q ≤ d2 z p) : ∃ z' p', Cand L z' p' ∧ (∀ q ∈ L, d2 z' q ≤ d2 z' p') ∧ d2 z' p' ≤ d2 z p := by
  obtain ⟨t, t0, t1, ht, hr⟩ := aff_min (fun q => d2 z q - d2 z p) (fun q => d2 (ptZ p) q - d2 (ptZ p) p) L (fun q hq => by have := hL q hq; grind)
  have e1 : ∀ q ∈ L, d2 (mv z (ptZ p) t) q ≤ d2 (mv z (ptZ p) t) p := fun q hq => by
    have := d2_mv z (ptZ p) t p q
    have := ht q hq
    grind
  have es : d2 (mv z (ptZ p) t) p ≤ d2 z p := by
    rw [d2_scale z _ t p rfl]
    have h1 : (1 - t) * (1 - t) ≤ 1 := by
      have := Rat.mul_le_mul_of_nonneg_left (show 1 - t ≤ 1 by grind) (show 0 ≤ 1 - t by grind)
      grind
    have := Rat.mul_le_mul_of_nonneg_right h1 (d2_nn z p)
    grind
  rcases hr with rfl | ⟨q, hq, h1, h2⟩
  · rw [mv_one] at e1 es
    refine ⟨ptZ p, p, ⟨hp, .inl ⟨p, hp, ?_⟩⟩, e1, es⟩
    unfold ptZ midZ; ext <;> (dsimp only; grind)
  · have hpq : p ≠ q := by rintro rfl; grind
    have eq1 : d2 (mv z (ptZ p) t) p = d2 (mv z (ptZ p) t) q := by have := d2_mv z (ptZ p) t p q; grind
    generalize mv z (ptZ p) t = y at *
    clear t0 t1 ht h1 h2 hL
    obtain ⟨s, s0, s1, hs, hr⟩ := aff_min (fun q => d2 y q - d2 y p) (fun r => d2 (midZ p q) r - d2 (midZ p q) p) L (fun q hq => by have := e1 q hq; grind)
    have hm := d2_mid y p q eq1
    have f1 : ∀ r ∈ L, d2 (mv y (midZ p q) s) r ≤ d2 (mv y (midZ p q) s) p := fun r hr => by
      have := d2_mv y (midZ p q) s p r
      have := hs r hr
      grind
    have ep : d2 (mv y (midZ p q) s) p = d2 (mv y (midZ p q) s) q := by
      have := d2_mv y (midZ p q) s p q; grind
    have f2 : d2 (mv y (midZ p q) s) p ≤ d2 y p := by
      have e : d2 (mv y (midZ p q) s) p = d2 (midZ p q) p + (1 - s) * (1 - s) * (d2 y p - d2 (midZ p q) p) := by
        unfold d2 mv midZ at *; grind
      have h1 : (1 - s) * (1 - s) ≤ 1 := by
        have := Rat.mul_le_mul_of_nonneg_left (show 1 - s ≤ 1 by grind) (show 0 ≤ 1 - s by grind)
        grind
      have := Rat.mul_le_mul_of_nonneg_right h1 (show 0 ≤ d2 y p - d2 (midZ p q) p by grind)
      grind
    rcases hr with rfl | ⟨r, hr, h1, h2⟩
    · rw [mv_one] at f1 f2
      exact ⟨midZ p q, p, ⟨hp, .inl ⟨q, hq, rfl⟩⟩, f1, Rat.le_trans f2 es⟩
    · have hpr : p ≠ r := by rintro rfl; grind
      have hqr : q ≠ r := by rintro rfl; grind
      have er : d2 (mv y (midZ p q) s) p = d2 (mv y (midZ p q) s) r := by
        have := d2_mv y (midZ p q) s p r; grind
      exact ⟨mv y (midZ p q) s, p, ⟨hp, .inr ⟨q, hq, r, hr, cr_ne ep er hpq hpr hqr, ep, er⟩⟩, f1, Rat.le_trans f2 es⟩

/-- is that the least distance from which a place has all points? -/
def Best (L : List Pt) (z : Zt) (ρ : Rat) : Prop := (∀ q ∈ L, d2 z q ≤ ρ) ∧ ∀ (y : Zt) (σ : Rat), (∀ q ∈ L, d2 y q ≤ σ) → ρ ≤ σ
theorem best_unique {L : List Pt} {z y : Zt} {ρ σ : Rat} (hL : L ≠ []) (h : Best L z ρ) (k : Best L y σ) : z = y ∧ ρ = σ := by
  have e : ρ = σ := Rat.le_antisymm (h.2 y σ k.1) (k.2 z ρ h.1)
  subst e
  refine ⟨?_, rfl⟩
  obtain ⟨p, hp, hm⟩ := far_ex (mv z y (1 / 2)) L hL
  have h1 := h.2 (mv z y (1 / 2)) _ hm
  have e1 : d2 (mv z y (1 / 2)) p = (d2 z p + d2 y p) / 2 - ((z.1 - y.1) * (z.1 - y.1) + (z.2 - y.2) * (z.2 - y.2)) / 4 := by unfold d2 mv; grind
  have h2 := h.1 p hp
  have h3 := k.1 p hp
  have a1 := sq_nn (z.1 - y.1)
  have a2 := sq_nn (z.2 - y.2)
  have b1 := sq_zero (show (z.1 - y.1) * (z.1 - y.1) ≤ 0 by grind)
  have b2 := sq_zero (show (z.2 - y.2) * (z.2 - y.2) ≤ 0 by grind)
  ext <;> grind
/-- no direction has all points on the circle strictly at its side -/
theorem best_sides {L : List Pt} {z : Zt} {ρ : Rat} (h : Best L z ρ) (m : Zt) (hs : ∀ q ∈ L, d2 z q = ρ → 0 < m.1 * ((q.1 : Rat) - z.1) + m.2 * ((q.2 : Rat) - z.2)) (hL : L ≠ []) : False := by
  -- how far the place may move by m until a point comes up to the distance ρ again
  have key : ∀ K : List Pt, (∀ q ∈ K, q ∈ L) → ∃ t : Rat, 0 < t ∧ ∀ q ∈ K, ∀ s, 0 < s → s ≤ t → d2 (z.1 + s * m.1, z.2 + s * m.2) q < ρ := by
    intro K
    induction K with
    | nil => exact fun _ => ⟨1, by grind, fun q hq => by cases hq⟩
    | cons q K ih =>
      intro hK
      obtain ⟨t, t0, ht⟩ := ih (fun r hr => hK r (by simp [hr]))
      have hq := hK q (by simp)
      obtain ⟨B, hB⟩ : ∃ B, B = m.1 * ((q.1 : Rat) - z.1) + m.2 * ((q.2 : Rat) - z.2) := ⟨_, rfl⟩
      obtain ⟨M, hM⟩ : ∃ M, M = m.1 * m.1 + m.2 * m.2 := ⟨_, rfl⟩
      have M0 : 0 ≤ M := by have := sq_nn m.1; have := sq_nn m.2; grind
      have e : ∀ s : Rat, d2 (z.1 + s * m.1, z.2 + s * m.2) q = d2 z q - 2 * s * B + s * s * M := by
        intro s; unfold d2; grind
      have step : ∃ u : Rat, 0 < u ∧ ∀ s, 0 < s → s ≤ u → d2 (z.1 + s * m.1, z.2 + s * m.2) q < ρ := by
        have hle := h.1 q hq
        by_cases he : d2 z q = ρ
        · have hb := hs q hq he
          rw [← hB] at hb
          have d0 : 0 < M + 1 := by grind
          obtain ⟨u, hu⟩ : ∃ u, u * (M + 1) = B := ⟨B / (M + 1), by grind⟩
          have u0 : 0 < u := by
            by_cases k : 0 < u
            · exact k
            · have := Rat.mul_le_mul_of_nonneg_right (show u ≤ 0 by grind) (show 0 ≤ M + 1 by grind)
              grind
          refine ⟨u, u0, fun s s0 su => ?_⟩
          rw [e s, he]
          have h1 : s * (M + 1) ≤ B := by
            have := Rat.mul_le_mul_of_nonneg_right su (show 0 ≤ M + 1 by grind)
            grind
          have h2 : 0 < s * (2 * B - s * M) := Rat.mul_pos s0 (by grind)
          grind
        · have hlt : 0 < ρ - d2 z q := by grind
          obtain ⟨C, hC⟩ : ∃ C, C = 2 * (if 0 ≤ B then B else -B) + M + 1 := ⟨_, rfl⟩
          have C0 : 0 < C := by rw [hC]; split <;> grind
          obtain ⟨u', hu'⟩ : ∃ u, u * C = ρ - d2 z q := ⟨(ρ - d2 z q) / C, by grind⟩
          have u0 : 0 < u' := by
            by_cases k : 0 < u'
            · exact k
            · have := Rat.mul_le_mul_of_nonneg_right (show u' ≤ 0 by grind) (show 0 ≤ C by grind)
              grind
          refine ⟨if u' ≤ 1 then u' else 1, by split <;> grind, fun s s0 su => ?_⟩
          rw [e s]
          have s1 : s ≤ 1 := by split at su <;> grind
          have s2 : s ≤ u' := by split at su <;> grind
          have h1 : s * C ≤ ρ - d2 z q := by
            have := Rat.mul_le_mul_of_nonneg_right s2 (show 0 ≤ C by grind)
            grind
          have h2 : s * s * M ≤ s * M := by
            have := Rat.mul_le_mul_of_nonneg_left (Rat.mul_le_mul_of_nonneg_right s1 M0) (show 0 ≤ s by grind)
            grind
          have h3 : -(2 * s * B) ≤ s * (2 * (if 0 ≤ B then B else -B)) := by
            split
            · have := Rat.mul_nonneg (show 0 ≤ s by grind) (show 0 ≤ B by grind); grind
            · grind
          have h4 : s * C = s * (2 * (if 0 ≤ B then B else -B)) + s * M + s := by rw [hC]; grind
          grind
      obtain ⟨u, u0, hu⟩ := step
      refine ⟨if t ≤ u then t else u, by split <;> grind, ?_⟩
      intro r hr s s0 st
      have k1 : s ≤ t := by split at st <;> grind
      have k2 : s ≤ u := by split at st <;> grind
      rcases List.mem_cons.1 hr with rfl | hr
      · exact hu s s0 k2
      · exact ht r hr s s0 k1
  obtain ⟨t, t0, ht⟩ := key L (fun _ h => h)
  obtain ⟨p, hp, hm⟩ := far_ex (z.1 + t * m.1, z.2 + t * m.2) L hL
  have h1 := h.2 _ _ hm
  have h2 := ht p hp t t0 Rat.le_refl
  grind

theorem best_on {L : List Pt} {z : Zt} {ρ : Rat} (hL : L ≠ []) (h : Best L z ρ) : ∃ p ∈ L, d2 z p = ρ := by
  obtain ⟨p, hp, hm⟩ := far_ex z L hL
  exact ⟨p, hp, Rat.le_antisymm (h.1 p hp) (h.2 z _ hm)⟩
/-- the points on the best circle have it as their best one -/
theorem best_filter {L K : List Pt} {z : Zt} {ρ : Rat} (hL : L ≠ []) (h : Best L z ρ) (hK : ∀ p, p ∈ K ↔ p ∈ L ∧ d2 z p = ρ) : Best K z ρ := by
  refine ⟨fun q hq => h.1 q ((hK q).1 hq).1, fun y σ hy => ?_⟩
  by_cases hc : ρ ≤ σ
  · exact hc
  · exfalso
    refine best_sides h (y.1 - z.1, y.2 - z.2) (fun q hq he => ?_) hL
    have h1 := hy q ((hK q).2 ⟨hq, he⟩)
    have e : d2 z q - d2 y q + ((y.1 - z.1) * (y.1 - z.1) + (y.2 - z.2) * (y.2 - z.2)) = 2 * ((y.1 - z.1) * ((q.1 : Rat) - z.1) + (y.2 - z.2) * ((q.2 : Rat) - z.2)) := by unfold d2; grind
    have := sq_nn (y.1 - z.1)
    have := sq_nn (y.2 - z.2)
    grind
theorem best_two (p q : Pt) : Best [p, q] (midZ p q) (d2 (midZ p q) p) := by
  have h1 : d2 (midZ p q) p = d2 (midZ p q) q := by unfold d2 midZ; grind
  refine ⟨?_, fun y σ hy => ?_⟩
  · intro r hr
    simp at hr
    rcases hr with rfl | rfl
    · exact Rat.le_refl
    · rw [h1]; exact Rat.le_refl
  · have a := hy p (by simp)
    have b := hy q (by simp)
    have e : d2 y p + d2 y q = 2 * d2 (midZ p q) p + 2 * ((y.1 - (midZ p q).1) * (y.1 - (midZ p q).1) + (y.2 - (midZ p q).2) * (y.2 - (midZ p q).2)) := by unfold d2 midZ; grind
    have := sq_nn (y.1 - (midZ p q).1)
    have := sq_nn (y.2 - (midZ p q).2)
    grind
/-- the angle at a between b and c, as a product -/
def dp (a b c : Pt) : Rat := ((b.1 : Rat) - a.1) * ((c.1 : Rat) - a.1) + ((b.2 : Rat) - a.2) * ((c.2 : Rat) - a.2)
theorem dp_comm (a b c : Pt) : dp a b c = dp a c b := by unfold dp; grind
theorem bary (a1 a2 b1 b2 c1 c2 N : Rat) (ha : a1 * a1 + a2 * a2 = N) (hb : b1 * b1 + b2 * b2 = N) (hc : c1 * c1 + c2 * c2 = N) :
    ((b1 - c1) * (b1 - c1) + (b2 - c2) * (b2 - c2)) * ((b1 - a1) * (c1 - a1) + (b2 - a2) * (c2 - a2)) * a1 +
    ((a1 - c1) * (a1 - c1) + (a2 - c2) * (a2 - c2)) * ((a1 - b1) * (c1 - b1) + (a2 - b2) * (c2 - b2)) * b1 +
    ((a1 - b1) * (a1 - b1) + (a2 - b2) * (a2 - b2)) * ((a1 - c1) * (b1 - c1) + (a2 - c2) * (b2 - c2)) * c1 = 0 := by
  grind
theorem three_pos {x1 x2 p1 p2 q1 q2 r1 r2 A B C : Rat} (g1 : A * p1 + B * q1 + C * r1 = 0) (g2 : A * p2 + B * q2 + C * r2 = 0)
    (k1 : 0 ≤ A * (x1 * p1 + x2 * p2)) (k2 : 0 ≤ B * (x1 * q1 + x2 * q2)) (k3 : 0 < C * (x1 * r1 + x2 * r2)) : False := by
  have h1 : x1 * (A * p1 + B * q1 + C * r1) = 0 := by rw [g1]; grind
  have h2 : x2 * (A * p2 + B * q2 + C * r2) = 0 := by rw [g2]; grind
  grind
theorem best_three {p q r : Pt} {z : Zt} (h1 : d2 z p = d2 z q) (h2 : d2 z p = d2 z r) (ha : 0 < dp p q r) (hb : 0 < dp q p r) (hc : 0 < dp r p q) : Best [p, q, r] z (d2 z p) := by
  refine ⟨?_, fun y σ hy => ?_⟩
  · intro s hs
    simp at hs
    rcases hs with rfl | rfl | rfl
    · exact Rat.le_refl
    · rw [h1]; exact Rat.le_refl
    · rw [h2]; exact Rat.le_refl
  · by_cases hle : d2 z p ≤ σ
    · exact hle
    · exfalso
      have e : ∀ s : Pt, d2 z s = d2 z p → d2 y s ≤ σ → 0 < (y.1 - z.1) * ((s.1 : Rat) - z.1) + (y.2 - z.2) * ((s.2 : Rat) - z.2) := by
        intro s h k
        have e : d2 z s - d2 y s + ((y.1 - z.1) * (y.1 - z.1) + (y.2 - z.2) * (y.2 - z.2)) = 2 * ((y.1 - z.1) * ((s.1 : Rat) - z.1) + (y.2 - z.2) * ((s.2 : Rat) - z.2)) := by unfold d2; grind
        have := sq_nn (y.1 - z.1)
        have := sq_nn (y.2 - z.2)
        grind
      have ep := e p rfl (hy p (by simp))
      have eq' := e q h1.symm (hy q (by simp))
      have er := e r h2.symm (hy r (by simp))
      clear e hy hle
      obtain ⟨p1, p2⟩ := p
      obtain ⟨q1, q2⟩ := q
      obtain ⟨r1, r2⟩ := r
      obtain ⟨z1, z2⟩ := z
      obtain ⟨y1, y2⟩ := y
      unfold d2 at h1 h2
      unfold dp at ha hb hc
      dsimp only at *
      have h0 : ((p1 : Rat) - z1) * (p1 - z1) + ((p2 : Rat) - z2) * (p2 - z2) = ((p1 : Rat) - z1) * (p1 - z1) + ((p2 : Rat) - z2) * (p2 - z2) := rfl
      have b1 := bary ((p1 : Rat) - z1) ((p2 : Rat) - z2) ((q1 : Rat) - z1) ((q2 : Rat) - z2) ((r1 : Rat) - z1) ((r2 : Rat) - z2) _ h0 h1.symm h2.symm
      have b2 := bary ((p2 : Rat) - z2) ((p1 : Rat) - z1) ((q2 : Rat) - z2) ((q1 : Rat) - z1) ((r2 : Rat) - z2) ((r1 : Rat) - z1) (((p1 : Rat) - z1) * (p1 - z1) + ((p2 : Rat) - z2) * (p2 - z2)) (by grind) (by grind) (by grind)
      clear h0
      have f1 : ∀ x : Rat, x - z1 - (p1 - z1) = x - p1 := by intro x; grind
      obtain ⟨A, hA⟩ : ∃ A, A = ((q1 : Rat) - r1) * (q1 - r1) + ((q2 : Rat) - r2) * (q2 - r2) := ⟨_, rfl⟩
      obtain ⟨B, hB⟩ : ∃ A, A = ((p1 : Rat) - r1) * (p1 - r1) + ((p2 : Rat) - r2) * (p2 - r2) := ⟨_, rfl⟩
      obtain ⟨C, hC⟩ : ∃ A, A = ((p1 : Rat) - q1) * (p1 - q1) + ((p2 : Rat) - q2) * (p2 - q2) := ⟨_, rfl⟩
      obtain ⟨a, ea⟩ : ∃ A, A = ((q1 : Rat) - p1) * ((r1 : Rat) - p1) + ((q2 : Rat) - p2) * ((r2 : Rat) - p2) := ⟨_, rfl⟩
      obtain ⟨b, eb⟩ : ∃ A, A = ((p1 : Rat) - q1) * ((r1 : Rat) - q1) + ((p2 : Rat) - q2) * ((r2 : Rat) - q2) := ⟨_, rfl⟩
      obtain ⟨c, ec⟩ : ∃ A, A = ((p1 : Rat) - r1) * ((q1 : Rat) - r1) + ((p2 : Rat) - r2) * ((q2 : Rat) - r2) := ⟨_, rfl⟩
      rw [← ea] at ha
      rw [← eb] at hb
      rw [← ec] at hc
      have g1 : A * a * ((p1 : Rat) - z1) + B * b * ((q1 : Rat) - z1) + C * c * ((r1 : Rat) - z1) = 0 := by rw [hA, hB, hC, ea, eb, ec]; grind
      have g2 : A * a * ((p2 : Rat) - z2) + B * b * ((q2 : Rat) - z2) + C * c * ((r2 : Rat) - z2) = 0 := by rw [hA, hB, hC, ea, eb, ec]; grind
      have A0 : 0 ≤ A := by rw [hA]; have := sq_nn ((q1 : Rat) - r1); have := sq_nn ((q2 : Rat) - r2); grind
      have B0 : 0 ≤ B := by rw [hB]; have := sq_nn ((p1 : Rat) - r1); have := sq_nn ((p2 : Rat) - r2); grind
      have C0 : 0 < C := by
        have n1 := sq_nn ((p1 : Rat) - q1)
        have n2 := sq_nn ((p2 : Rat) - q2)
        by_cases k : 0 < C
        · exact k
        · exfalso
          have m1 := sq_zero (show ((p1 : Rat) - q1) * (p1 - q1) ≤ 0 by grind)
          have m2 := sq_zero (show ((p2 : Rat) - q2) * (p2 - q2) ≤ 0 by grind)
          rw [ea] at ha
          rw [eb] at hb
          have : ((q1 : Rat) - p1) = 0 := by grind
          have : ((q2 : Rat) - p2) = 0 := by grind
          grind
      have k1 := Rat.mul_nonneg (Rat.mul_nonneg A0 (show 0 ≤ a by grind)) (show 0 ≤ (y1 - z1) * ((p1 : Rat) - z1) + (y2 - z2) * ((p2 : Rat) - z2) by grind)
      have k2 := Rat.mul_nonneg (Rat.mul_nonneg B0 (show 0 ≤ b by grind)) (show 0 ≤ (y1 - z1) * ((q1 : Rat) - z1) + (y2 - z2) * ((q2 : Rat) - z2) by grind)
      have k3 := Rat.mul_pos (Rat.mul_pos C0 hc) er
      exact three_pos g1 g2 k1 k2 k3
/-- the square of the distance of two points -/
def dd (p q : Pt) : Rat := ((p.1 : Rat) - q.1) * ((p.1 : Rat) - q.1) + ((p.2 : Rat) - q.2) * ((p.2 : Rat) - q.2)
theorem dd_nn (p q : Pt) : 0 ≤ dd p q := by
  unfold dd
  have := sq_nn ((p.1 : Rat) - q.1)
  have := sq_nn ((p.2 : Rat) - q.2)
  grind
theorem dd_zero {p q : Pt} (h : dd p q ≤ 0) : p = q := by
  unfold dd at h
  have h1 := sq_nn ((p.1 : Rat) - q.1)
  have h2 := sq_nn ((p.2 : Rat) - q.2)
  have e1 := sq_zero (show ((p.1 : Rat) - q.1) * ((p.1 : Rat) - q.1) ≤ 0 by grind)
  have e2 := sq_zero (show ((p.2 : Rat) - q.2) * ((p.2 : Rat) - q.2) ≤ 0 by grind)
  obtain ⟨p1, p2⟩ := p
  obtain ⟨q1, q2⟩ := q
  dsimp only at e1 e2
  rw [Rat.intCast_inj.1 (show (p1 : Rat) = q1 by grind), Rat.intCast_inj.1 (show (p2 : Rat) = q2 by grind)]
theorem dd_comm (p q : Pt) : dd p q = dd q p := by unfold dd; grind
/-- a function of two points has a greatest value -/
theorem pair_ex (f : Pt → Pt → Rat) (K : List Pt) (hK : K ≠ []) : ∃ p ∈ K, ∃ q ∈ K, ∀ r ∈ K, ∀ s ∈ K, f r s ≤ f p q := by
  have one : ∀ (g : Pt → Rat) (L : List Pt), L ≠ [] → ∃ p ∈ L, ∀ q ∈ L, g q ≤ g p := by
    intro g L
    induction L with
    | nil => exact fun h => absurd rfl h
    | cons p L ih =>
      intro _
      by_cases hL : L = []
      · subst hL; exact ⟨p, by simp, fun q hq => by simp at hq; subst hq; exact Rat.le_refl⟩
      · obtain ⟨m, hm, h⟩ := ih hL
        by_cases hc : g p ≤ g m
        · exact ⟨m, List.mem_cons_of_mem _ hm, fun r hr => by
            rcases List.mem_cons.1 hr with rfl | hr
            · exact hc
            · exact h r hr⟩
        · exact ⟨p, by simp, fun r hr => by
            rcases List.mem_cons.1 hr with rfl | hr
            · exact Rat.le_refl
            · have := h r hr; grind⟩
  have two : ∀ L : List Pt, L ≠ [] → ∃ p ∈ L, ∃ q ∈ K, ∀ r ∈ L, ∀ s ∈ K, f r s ≤ f p q := by
    intro L
    induction L with
    | nil => exact fun h => absurd rfl h
    | cons p L ih =>
      intro _
      obtain ⟨q, hq, hm⟩ := one (f p) K hK
      by_cases hL : L = []
      · subst hL; exact ⟨p, by simp, q, hq, fun r hr s hs => by simp at hr; subst hr; exact hm s hs⟩
      · obtain ⟨p', hp', q', hq', h⟩ := ih hL
        by_cases hc : f p q ≤ f p' q'
        · exact ⟨p', List.mem_cons_of_mem _ hp', q', hq', fun r hr s hs => by
            rcases List.mem_cons.1 hr with rfl | hr
            · exact Rat.le_trans (hm s hs) hc
            · exact h r hr s hs⟩
        · exact ⟨p, by simp, q, hq, fun r hr s hs => by
            rcases List.mem_cons.1 hr with rfl | hr
            · exact hm s hs
            · have := h r hr s hs; grind⟩
  exact two K hK
theorem radius_id {P1 P2 Q1 Q2 S1 S2 z1 z2 : Rat} (k1 : (P1 - z1) * (P1 - z1) + (P2 - z2) * (P2 - z2) = (Q1 - z1) * (Q1 - z1) + (Q2 - z2) * (Q2 - z2))
    (k2 : (P1 - z1) * (P1 - z1) + (P2 - z2) * (P2 - z2) = (S1 - z1) * (S1 - z1) + (S2 - z2) * (S2 - z2)) :
    4 * (((Q1 - P1) * (S2 - P2) - (Q2 - P2) * (S1 - P1)) * ((Q1 - P1) * (S2 - P2) - (Q2 - P2) * (S1 - P1))) * ((P1 - z1) * (P1 - z1) + (P2 - z2) * (P2 - z2)) =
      ((Q1 - S1) * (Q1 - S1) + (Q2 - S2) * (Q2 - S2)) * ((P1 - S1) * (P1 - S1) + (P2 - S2) * (P2 - S2)) * ((P1 - Q1) * (P1 - Q1) + (P2 - Q2) * (P2 - Q2)) := by
  obtain ⟨u1, hu1⟩ : ∃ u, u = Q1 - P1 := ⟨_, rfl⟩
  obtain ⟨u2, hu2⟩ : ∃ u, u = Q2 - P2 := ⟨_, rfl⟩
  obtain ⟨v1, hv1⟩ : ∃ u, u = S1 - P1 := ⟨_, rfl⟩
  obtain ⟨v2, hv2⟩ : ∃ u, u = S2 - P2 := ⟨_, rfl⟩
  obtain ⟨w1, hw1⟩ : ∃ u, u = z1 - P1 := ⟨_, rfl⟩
  obtain ⟨w2, hw2⟩ : ∃ u, u = z2 - P2 := ⟨_, rfl⟩
  have e1 : u1 * u1 + u2 * u2 = 2 * (w1 * u1 + w2 * u2) := by grind
  have e2 : v1 * v1 + v2 * v2 = 2 * (w1 * v1 + w2 * v2) := by grind
  have f1 : 2 * (u1 * v2 - u2 * v1) * w1 = (u1 * u1 + u2 * u2) * v2 - (v1 * v1 + v2 * v2) * u2 := by rw [e1, e2]; grind
  have f2 : 2 * (u1 * v2 - u2 * v1) * w2 = u1 * (v1 * v1 + v2 * v2) - v1 * (u1 * u1 + u2 * u2) := by rw [e1, e2]; grind
  have f3 : 4 * ((u1 * v2 - u2 * v1) * (u1 * v2 - u2 * v1)) * (w1 * w1 + w2 * w2) = (2 * (u1 * v2 - u2 * v1) * w1) * (2 * (u1 * v2 - u2 * v1) * w1) + (2 * (u1 * v2 - u2 * v1) * w2) * (2 * (u1 * v2 - u2 * v1) * w2) := by grind
  rw [show (P1 - z1) * (P1 - z1) + (P2 - z2) * (P2 - z2) = w1 * w1 + w2 * w2 by rw [hw1, hw2]; grind, show Q1 - S1 = u1 - v1 by grind, show Q2 - S2 = u2 - v2 by grind, show P1 - S1 = -v1 by grind, show P2 - S2 = -v2 by grind, show P1 - Q1 = -u1 by grind, show P2 - Q2 = -u2 by grind, ← hu1, ← hu2, ← hv1, ← hv2, f3, f1, f2]
  clear f1 f2 f3 e1 e2 hu1 hu2 hv1 hv2 hw1 hw2 k1 k2
  grind
/-- what holds a best circle: one point, two ends of a diameter, or three corners of a triangle with angles less than a right one; and Jung's bound -/
theorem force_ex {L : List Pt} {z : Zt} {ρ : Rat} (hL : L ≠ []) (h : Best L z ρ) :
    (∃ p ∈ L, ∀ q ∈ L, q = p) ∨ (∃ p ∈ L, ∃ q ∈ L, p ≠ q ∧ z = midZ p q ∧ d2 z p = ρ) ∨
    ∃ p ∈ L, ∃ q ∈ L, ∃ r ∈ L, d2 z p = ρ ∧ d2 z q = ρ ∧ d2 z r = ρ ∧ 0 < dp p q r ∧ 0 < dp q p r ∧ 0 < dp r p q ∧ 3 * ρ ≤ dd p q := by
  obtain ⟨o, ho, hoe⟩ := best_on hL h
  have hK : L.filter (fun q => decide (d2 z q = ρ)) ≠ [] := by
    intro hc
    have : o ∈ L.filter (fun q => decide (d2 z q = ρ)) := List.mem_filter.2 ⟨ho, by simp [hoe]⟩
    rw [hc] at this; cases this
  obtain ⟨p, hp, q, hq, hm⟩ := pair_ex dd _ hK
  have hmem : ∀ r, r ∈ L.filter (fun q => decide (d2 z q = ρ)) ↔ r ∈ L ∧ d2 z r = ρ := fun r => by rw [List.mem_filter]; simp
  obtain ⟨hpL, hpe⟩ := (hmem p).1 hp
  obtain ⟨hqL, hqe⟩ := (hmem q).1 hq
  by_cases hpq : p = q
  · subst hpq
    have hall : ∀ r ∈ L, d2 z r = ρ → r = p := fun r hr he => dd_zero (by have := hm r ((hmem r).2 ⟨hr, he⟩) p hp; have e : dd p p = 0 := by unfold dd; grind
                                                                          grind)
    left
    refine ⟨p, hpL, ?_⟩
    by_cases hz : z = ptZ p
    · intro r hr
      have : d2 z p = 0 := by rw [hz]; unfold d2 ptZ; grind
      have h1 := h.1 r hr
      have h2 := d2_zero (z := z) (p := r) (by grind)
      exact ptZ_inj (by rw [← h2, hz])
    · exfalso
      refine best_sides h ((p.1 : Rat) - z.1, (p.2 : Rat) - z.2) (fun r hr he => ?_) hL
      rw [hall r hr he]
      have a1 := sq_nn ((p.1 : Rat) - z.1)
      have a2 := sq_nn ((p.2 : Rat) - z.2)
      by_cases hc : 0 < ((p.1 : Rat) - z.1) * ((p.1 : Rat) - z.1) + ((p.2 : Rat) - z.2) * ((p.2 : Rat) - z.2)
      · exact hc
      · exact absurd (d2_zero (z := z) (p := p) (by unfold d2; grind)) hz
  · by_cases hz : z = midZ p q
    · exact .inr (.inl ⟨p, hpL, q, hqL, hpq, hz, hpe⟩)
    · right; right
      have hs : ∃ s ∈ L, d2 z s = ρ ∧ ((midZ p q).1 - z.1) * ((s.1 : Rat) - z.1) + ((midZ p q).2 - z.2) * ((s.2 : Rat) - z.2) ≤ 0 := by
        false_or_by_contra
        rename_i hno
        refine best_sides h ((midZ p q).1 - z.1, (midZ p q).2 - z.2) (fun r hr he => ?_) hL
        by_cases hc : 0 < ((midZ p q).1 - z.1) * ((r.1 : Rat) - z.1) + ((midZ p q).2 - z.2) * ((r.2 : Rat) - z.2)
        · exact hc
        · exact absurd ⟨r, hr, he, by grind⟩ hno
      obtain ⟨s, hsL, hse, hsd⟩ := hs
      have hM : 0 < ((midZ p q).1 - z.1) * ((midZ p q).1 - z.1) + ((midZ p q).2 - z.2) * ((midZ p q).2 - z.2) := by
        have a1 := sq_nn ((midZ p q).1 - z.1)
        have a2 := sq_nn ((midZ p q).2 - z.2)
        by_cases hc : 0 < ((midZ p q).1 - z.1) * ((midZ p q).1 - z.1) + ((midZ p q).2 - z.2) * ((midZ p q).2 - z.2)
        · exact hc
        · have b1 := sq_zero (show ((midZ p q).1 - z.1) * ((midZ p q).1 - z.1) ≤ 0 by grind)
          have b2 := sq_zero (show ((midZ p q).2 - z.2) * ((midZ p q).2 - z.2) ≤ 0 by grind)
          exact absurd (by ext <;> grind) hz
      have ep : ((midZ p q).1 - z.1) * ((p.1 : Rat) - z.1) + ((midZ p q).2 - z.2) * ((p.2 : Rat) - z.2) = ((midZ p q).1 - z.1) * ((midZ p q).1 - z.1) + ((midZ p q).2 - z.2) * ((midZ p q).2 - z.2) := by
        have : d2 z p = d2 z q := by rw [hpe, hqe]
        unfold d2 at this; unfold midZ; grind
      have eq' : ((midZ p q).1 - z.1) * ((q.1 : Rat) - z.1) + ((midZ p q).2 - z.2) * ((q.2 : Rat) - z.2) = ((midZ p q).1 - z.1) * ((midZ p q).1 - z.1) + ((midZ p q).2 - z.2) * ((midZ p q).2 - z.2) := by
        have : d2 z p = d2 z q := by rw [hpe, hqe]
        unfold d2 at this; unfold midZ; grind
      have hsp : s ≠ p := by rintro rfl; grind
      have hsq : s ≠ q := by rintro rfl; grind
      have m1 := hm p hp s ((hmem s).2 ⟨hsL, hse⟩)
      have m2 := hm q hq s ((hmem s).2 ⟨hsL, hse⟩)
      have ps : 0 < dd p s := by
        have := dd_nn p s
        by_cases hc : 0 < dd p s
        · exact hc
        · exact absurd (dd_zero (p := p) (q := s) (by grind)).symm hsp
      have qs : 0 < dd q s := by
        have := dd_nn q s
        by_cases hc : 0 < dd q s
        · exact hc
        · exact absurd (dd_zero (p := q) (q := s) (by grind)).symm hsq
      have d1 : 2 * dp p q s = dd p q + dd p s - dd q s := by unfold dp dd; grind
      have d2' : 2 * dp q p s = dd p q + dd q s - dd p s := by unfold dp dd; grind
      have d3 : 2 * dp s p q = dd p s + dd q s - dd p q := by unfold dp dd; grind
      have d4 : 0 < dp s p q := by
        have e : dp s p q = 2 * (((midZ p q).1 - z.1) * ((midZ p q).1 - z.1) + ((midZ p q).2 - z.2) * ((midZ p q).2 - z.2)) - 2 * (((midZ p q).1 - z.1) * ((s.1 : Rat) - z.1) + ((midZ p q).2 - z.2) * ((s.2 : Rat) - z.2)) := by
          have k1 : d2 z p = d2 z s := by rw [hpe, hse]
          have k2 : d2 z q = d2 z s := by rw [hqe, hse]
          unfold d2 at k1 k2; unfold dp midZ; grind
        grind
      refine ⟨p, hpL, q, hqL, s, hsL, hpe, hqe, hse, by grind, by grind, d4, ?_⟩
      -- the three sides and the radius
      have hcr : cr p q s ≠ 0 := cr_ne (z := z) (by rw [hpe, hqe]) (by rw [hpe, hse]) hpq hsp.symm hsq.symm
      have id1 : 4 * (cr p q s * cr p q s) * ρ = dd q s * dd p s * dd p q := by
        have k1 : d2 z p = d2 z q := by rw [hpe, hqe]
        have k2 : d2 z p = d2 z s := by rw [hpe, hse]
        rw [← hpe]
        clear hpe hqe hse hoe hm hmem hp hq hK h d1 d2' d3 d4 m1 m2 ps qs ep eq' hM hsd hz
        unfold d2 at k1 k2
        unfold cr dd d2
        obtain ⟨p1, p2⟩ := p
        obtain ⟨q1, q2⟩ := q
        obtain ⟨s1, s2⟩ := s
        obtain ⟨z1, z2⟩ := z
        dsimp only at *
        generalize (p1 : Rat) = P1 at *
        generalize (p2 : Rat) = P2 at *
        generalize (q1 : Rat) = Q1 at *
        generalize (q2 : Rat) = Q2 at *
        generalize (s1 : Rat) = S1 at *
        generalize (s2 : Rat) = S2 at *
        exact radius_id k1 k2
      have id2 : 4 * (cr p q s * cr p q s) = 4 * (dd q s * dd p s) - (dd q s + dd p s - dd p q) * (dd q s + dd p s - dd p q) := by unfold cr dd; grind
      have hx : (dd q s + dd p s - dd p q) * (dd q s + dd p s - dd p q) ≤ dd q s * dd p s := by
        have k1 := Rat.mul_le_mul_of_nonneg_left (show dd q s + dd p s - dd p q ≤ dd p s by rw [dd_comm q s] at *; grind) (show 0 ≤ dd q s + dd p s - dd p q by grind)
        have k2 := Rat.mul_le_mul_of_nonneg_right (show dd q s + dd p s - dd p q ≤ dd q s by grind) (show 0 ≤ dd p s by grind)
        grind
      have hcc : 0 < cr p q s * cr p q s := by
        have := sq_nn (cr p q s)
        by_cases hc : 0 < cr p q s * cr p q s
        · exact hc
        · exact absurd (sq_zero (show cr p q s * cr p q s ≤ 0 by grind)) hcr
      by_cases hc : 3 * ρ ≤ dd p q
      · exact hc
      · exfalso
        have k1 := Rat.mul_lt_mul_of_pos_right (show dd p q < 3 * ρ by grind) (show 0 < dd q s * dd p s from Rat.mul_pos qs ps)
        have k2 := Rat.mul_le_mul_of_nonneg_right (show 3 * (dd q s * dd p s) ≤ 4 * (cr p q s * cr p q s) by grind) (show 0 ≤ ρ by have := d2_nn z p; grind)
        grind
end Go.Proofs.Ytlemipnplgbckaa
