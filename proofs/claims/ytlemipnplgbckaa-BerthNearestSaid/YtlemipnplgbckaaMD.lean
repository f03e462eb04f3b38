import Derived.Test.YtlemipnplgbckaaMC
import Derived.Laws.AppendOwn
import Derived.ChangeKeysEq
import Derived.Maps.RangeWalk
import Derived.Maps.OwnIn
import Derived.Maps.AppendAt
import Derived.RangeFuncNested
import Derived.RangeFuncBound
import Derived.RangeFuncCalls
import Derived.RangeFuncLeaves
import Derived.Shelf.Abstract
import Derived.Shelf.RegionOpen
import Derived.WalkKit
import Derived.WalkMore
import Derived.OwnWalkIn
import Derived.TacticsInMore
import Derived.LoopNIn
import Derived.LoopIn
import Derived.WalkSpells
import Derived.WalkLawsBesides
import Derived.BigQuiet
import Derived.Deep.QuietTactic
import Derived.Lib.Hide
import Derived.Deep.RegionHeld3
import Derived.StillTailTactics
import Derived.Deep.LoopGhost
import Derived.Maps.OwnSet
import Derived.Lib.IndexAny
import Derived.Sort.QuietThIn
import Derived.Sort.QuietTacIn
import Derived.Sort.BigQuietIn
import Derived.Laws.OwnMore
import Derived.DeepKeys4
import Derived.Maps.Views
import Derived.Maps.OwnOps
import Derived.Deep.DeepCutAuto
import Derived.Test.YtlemipnplgbckaaMA
namespace Go.Proofs.Ytlemipnplgbckaa
open Go.RowKit Go.Shelf
attribute [local go_sem] Oper.semAt_some
abbrev Zt := Rat × Rat
/-- the square of the distance -/
def d2 (z : Zt) (p : Pt) : Rat := ((p.1 : Rat) - z.1) * ((p.1 : Rat) - z.1) + ((p.2 : Rat) - z.2) * ((p.2 : Rat) - z.2)
def mv (z m : Zt) (t : Rat) : Zt := (z.1 + t * (m.1 - z.1), z.2 + t * (m.2 - z.2))
def ptZ (p : Pt) : Zt := ((p.1 : Rat), (p.2 : Rat))
def midZ (p q : Pt) : Zt := (((p.1 : Rat) + q.1) / 2, ((p.2 : Rat) + q.2) / 2)
theorem aff_min {α : Type} (a b : α → Rat) : ∀ L : List α, (∀ q ∈ L, a q ≤ 0) → ∃ t : Rat, 0 ≤ t ∧ t ≤ 1 ∧ (∀ q ∈ L, a q + t * (b q - a q) ≤ 0) ∧ (t = 1 ∨ ∃ q ∈ L, a q + t * (b q - a q) = 0 ∧ 0 < b q)
  | [], _ => ⟨1, by grind, by grind, by simp, .inl rfl⟩
  | h :: L, ha => by
    obtain ⟨t, h0, h1, hL, hr⟩ := aff_min a b L (fun q hq => ha q (by simp [hq]))
    have hh := ha h (by simp)
    by_cases hc : a h + t * (b h - a h) ≤ 0
    · refine ⟨t, h0, h1, ?_, hr.imp id ?_⟩
      · intro q hq
        rcases List.mem_cons.1 hq with rfl | hq
        · exact hc
        · exact hL q hq
      · rintro ⟨q, hq, h⟩
        exact ⟨q, by simp [hq], h⟩
    · have hpos : 0 < t * (b h - a h) := by grind
      have hd : 0 < b h - a h := by
        rcases Rat.le_iff_lt_or_eq.1 h0 with k | k
        · by_cases hx : b h - a h ≤ 0
          · have := Rat.mul_le_mul_of_nonneg_left hx h0
            grind
          · grind
        · rw [← k] at hpos; grind
      have hne : b h - a h ≠ 0 := by grind
      have hs : ∃ s, s * (b h - a h) = - a h := ⟨- a h / (b h - a h), by grind⟩
      obtain ⟨s, hs⟩ := hs
      have hst : s < t := by
        by_cases k : s < t
        · exact k
        · have := Rat.mul_le_mul_of_nonneg_right (show t ≤ s by grind) (show (0 : Rat) ≤ b h - a h by grind)
          grind
      have hs0 : 0 ≤ s := by
        by_cases k : 0 ≤ s
        · exact k
        · have := Rat.mul_lt_mul_of_pos_right (show s < 0 by grind) hd
          grind
      refine ⟨s, hs0, by grind, ?_, .inr ⟨h, by simp, by grind, ?_⟩⟩
      · intro q hq
        rcases List.mem_cons.1 hq with rfl | hq
        · grind
        · have hq1 := hL q hq
          have hq0 := ha q (by simp [hq])
          by_cases hb : b q - a q ≤ 0
          · have := Rat.mul_le_mul_of_nonneg_left hb hs0
            grind
          · have := Rat.mul_le_mul_of_nonneg_right (show s ≤ t by grind) (show (0 : Rat) ≤ b q - a q by grind)
            grind
      · have := Rat.mul_le_mul_of_nonneg_right h1 (show (0 : Rat) ≤ b h - a h by grind)
        grind
theorem d2_mv (z m : Zt) (t : Rat) (p q : Pt) : d2 (mv z m t) q - d2 (mv z m t) p = (d2 z q - d2 z p) + t * ((d2 m q - d2 m p) - (d2 z q - d2 z p)) := by
  unfold d2 mv; grind

theorem sq_nn (x : Rat) : 0 ≤ x * x := by
  rcases Rat.le_total (a := 0) (b := x) with h | h
  · have := Rat.mul_le_mul_of_nonneg_left h h; grind
  · have := Rat.mul_le_mul_of_nonneg_left (show (0 : Rat) ≤ -x by grind) (show (0 : Rat) ≤ -x by grind)
    grind
theorem sq_zero {x : Rat} (h : x * x ≤ 0) : x = 0 := by
  have h1 : x * x = 0 := by have := sq_nn x; grind
  rcases Rat.mul_eq_zero.1 h1 with h | h <;> exact h
theorem d2_nn (z : Zt) (p : Pt) : 0 ≤ d2 z p := by
  unfold d2
  have := sq_nn ((p.1 : Rat) - z.1)
  have := sq_nn ((p.2 : Rat) - z.2)
  grind
theorem d2_zero {z : Zt} {p : Pt} (h : d2 z p ≤ 0) : z = ptZ p := by
  unfold d2 at h
  have h1 := sq_nn ((p.1 : Rat) - z.1)
  have h2 := sq_nn ((p.2 : Rat) - z.2)
  have e1 := sq_zero (show ((p.1 : Rat) - z.1) * ((p.1 : Rat) - z.1) ≤ 0 by grind)
  have e2 := sq_zero (show ((p.2 : Rat) - z.2) * ((p.2 : Rat) - z.2) ≤ 0 by grind)
  unfold ptZ
  ext
  · show z.1 = (p.1 : Rat); grind
  · show z.2 = (p.2 : Rat); grind
theorem ptZ_inj {p q : Pt} (h : ptZ p = ptZ q) : p = q := by
  unfold ptZ at h
  obtain ⟨p1, p2⟩ := p
  obtain ⟨q1, q2⟩ := q
  simp only [Prod.mk.injEq, Rat.intCast_inj] at h
  rw [h.1, h.2]
def cr (a b c : Pt) : Rat := ((b.1 : Rat) - a.1) * ((c.2 : Rat) - a.2) - ((b.2 : Rat) - a.2) * ((c.1 : Rat) - a.1)
/-- three different points at one distance from a place are not on one line -/
theorem cr_ne {z : Zt} {p q r : Pt} (h1 : d2 z p = d2 z q) (h2 : d2 z p = d2 z r) (hpq : p ≠ q) (hpr : p ≠ r) (hqr : q ≠ r) : cr p q r ≠ 0 := by
  intro hc
  unfold cr at hc
  obtain ⟨p1, p2⟩ := p
  obtain ⟨q1, q2⟩ := q
  obtain ⟨r1, r2⟩ := r
  obtain ⟨z1, z2⟩ := z
  unfold d2 at h1 h2
  dsimp only at h1 h2 hc
  have e1 : (p1 : Rat) = q1 → (p2 : Rat) = q2 → False := fun a b => hpq (by rw [Rat.intCast_inj.1 a, Rat.intCast_inj.1 b])
  have e2 : (p1 : Rat) = r1 → (p2 : Rat) = r2 → False := fun a b => hpr (by rw [Rat.intCast_inj.1 a, Rat.intCast_inj.1 b])
  have e3 : (q1 : Rat) = r1 → (q2 : Rat) = r2 → False := fun a b => hqr (by rw [Rat.intCast_inj.1 a, Rat.intCast_inj.1 b])
  clear hpq hpr hqr
  generalize (p1 : Rat) = P1 at *
  generalize (p2 : Rat) = P2 at *
  generalize (q1 : Rat) = Q1 at *
  generalize (q2 : Rat) = Q2 at *
  generalize (r1 : Rat) = R1 at *
  generalize (r2 : Rat) = R2 at *
  obtain ⟨u1, hu1⟩ : ∃ u, u = Q1 - P1 := ⟨_, rfl⟩
  obtain ⟨u2, hu2⟩ : ∃ u, u = Q2 - P2 := ⟨_, rfl⟩
  obtain ⟨v1, hv1⟩ : ∃ u, u = R1 - P1 := ⟨_, rfl⟩
  obtain ⟨v2, hv2⟩ : ∃ u, u = R2 - P2 := ⟨_, rfl⟩
  obtain ⟨w1, hw1⟩ : ∃ u, u = z1 - P1 := ⟨_, rfl⟩
  obtain ⟨w2, hw2⟩ : ∃ u, u = z2 - P2 := ⟨_, rfl⟩
  have c0 : u1 * v2 - u2 * v1 = 0 := by grind
  have k1 : u1 * u1 + u2 * u2 = 2 * (w1 * u1 + w2 * u2) := by grind
  have k2 : v1 * v1 + v2 * v2 = 2 * (w1 * v1 + w2 * v2) := by grind
  obtain ⟨N, hN⟩ : ∃ N, N = u1 * u1 + u2 * u2 := ⟨_, rfl⟩
  obtain ⟨d, hd⟩ : ∃ N, N = u1 * v1 + u2 * v2 := ⟨_, rfl⟩
  have n0 : N ≠ 0 := by
    intro h
    have a1 := sq_nn u1
    have a2 := sq_nn u2
    have b1 := sq_zero (show u1 * u1 ≤ 0 by grind)
    have b2 := sq_zero (show u2 * u2 ≤ 0 by grind)
    exact e1 (by grind) (by grind)
  have f1 : N * v1 = d * u1 := by grind
  have f2 : N * v2 = d * u2 := by grind
  have f3 : N * (v1 * v1 + v2 * v2) = d * d := by grind
  have f4 : 2 * (N * (w1 * v1 + w2 * v2)) = d * N := by grind
  have f5 : d * (d - N) = 0 := by grind
  rcases Rat.mul_eq_zero.1 f5 with h | h
  · have g1 : N * v1 = 0 := by grind
    have g2 : N * v2 = 0 := by grind
    have g3 : v1 = 0 := by rcases Rat.mul_eq_zero.1 g1 with h | h; exact absurd h n0; exact h
    have g4 : v2 = 0 := by rcases Rat.mul_eq_zero.1 g2 with h | h; exact absurd h n0; exact h
    exact e2 (by grind) (by grind)
  · have g1 : N * (v1 - u1) = 0 := by grind
    have g2 : N * (v2 - u2) = 0 := by grind
    have g3 : v1 - u1 = 0 := by rcases Rat.mul_eq_zero.1 g1 with h | h; exact absurd h n0; exact h
    have g4 : v2 - u2 = 0 := by rcases Rat.mul_eq_zero.1 g2 with h | h; exact absurd h n0; exact h
    exact e3 (by grind) (by grind)
theorem d2_mid (z : Zt) (p q : Pt) (h : d2 z p = d2 z q) : d2 (midZ p q) p = d2 (midZ p q) q ∧ d2 (midZ p q) p ≤ d2 z p := by
  have h1 : d2 (midZ p q) p = d2 (midZ p q) q := by unfold d2 midZ; grind
  refine ⟨h1, ?_⟩
  have e : d2 z p = d2 (midZ p q) p + ((z.1 - (midZ p q).1) * (z.1 - (midZ p q).1) + (z.2 - (midZ p q).2) * (z.2 - (midZ p q).2)) := by
    unfold d2 midZ at *; grind
  have := sq_nn (z.1 - (midZ p q).1)
  have := sq_nn (z.2 - (midZ p q).2)
  grind
/-- the places of the circles that are tried: over two points, or through three, with one of them -/
def Cand (L : List Pt) (z : Zt) (p : Pt) : Prop := p ∈ L ∧ ((∃ q ∈ L, z = midZ p q) ∨ ∃ q ∈ L, ∃ r ∈ L, cr p q r ≠ 0 ∧ d2 z p = d2 z q ∧ d2 z p = d2 z r)
/-- the greatest distance -/
theorem far_ex (z : Zt) : ∀ L : List Pt, L ≠ [] → ∃ p ∈ L, ∀ q ∈ L, d2 z q ≤ d2 z p
  | [], h => absurd rfl h
  | [p], _ => ⟨p, by simp, fun q hq => by simp at hq; subst hq; exact Rat.le_refl⟩
  | p :: q :: L, _ => by
    obtain ⟨m, hm, h⟩ := far_ex z (q :: L) (by simp)
    by_cases hc : d2 z p ≤ d2 z m
    · exact ⟨m, List.mem_cons_of_mem _ hm, fun r hr => by
        rcases List.mem_cons.1 hr with rfl | hr
        · exact hc
        · exact h r hr⟩
    · exact ⟨p, by simp, fun r hr => by
        rcases List.mem_cons.1 hr with rfl | hr
        · exact Rat.le_refl
        · have := h r hr; grind⟩
theorem d2_scale (z m : Zt) (t : Rat) (p : Pt) (hm : m = ptZ p) : d2 (mv z m t) p = (1 - t) * (1 - t) * d2 z p := by
  subst hm; unfold d2 mv ptZ; grind
theorem mv_one (z m : Zt) : mv z m 1 = m := by
  unfold mv; ext <;> (dsimp only; grind)
/-- for any circle that has all points inside or on it there is one that is tried and no greater -/
theorem cand_ex (L : List Pt) (z : Zt) (p : Pt) (hp : p ∈ L) (hL : ∀ q ∈ L, d2 z q ≤ d2 z p) : ∃ z' p', Cand L z' p' ∧ (∀ q ∈ L, d2 z' q ≤ d2 z' p') ∧ d2 z' p' ≤ d2 z p := by
  obtain ⟨t, t0, t1, ht, hr⟩ := aff_min (fun q => d2 z q - d2 z p) (fun q => d2 (ptZ p) q - d2 (ptZ p) p) L (fun q hq => by have := hL q hq; grind)
  have e1 : ∀ q ∈ L, d2 (mv z (ptZ p) t) q ≤ d2 (mv z (ptZ p) t) p := fun q hq => by
    have := d2_mv z (ptZ p) t p q
    have := ht q hq
    grind
  have es : d2 (mv z (ptZ p) t) p ≤ d2 z p := by
    rw [d2_scale z _ t p rfl]
    have h1 : (1 - t) * (1 - t) ≤ 1 := by
      have := Rat.mul_le_mul_of_nonneg_left (show 1 - t ≤ 1 by grind) (show 0 ≤ 1 - t by grind)
      grind
    have := Rat.mul_le_mul_of_nonneg_right h1 (d2_nn z p)
    grind
  rcases hr with rfl | ⟨q, hq, h1, h2⟩
  · rw [mv_one] at e1 es
    refine ⟨ptZ p, p, ⟨hp, .inl ⟨p, hp, ?_⟩⟩, e1, es⟩
    unfold ptZ midZ; ext <;> (dsimp only; grind)
  · have hpq : p ≠ q := by rintro rfl; grind
    have eq1 : d2 (mv z (ptZ p) t) p = d2 (mv z (ptZ p) t) q := by have := d2_mv z (ptZ p) t p q; grind
    generalize mv z (ptZ p) t = y at *
    clear t0 t1 ht h1 h2 hL
    obtain ⟨s, s0, s1, hs, hr⟩ := aff_min (fun q => d2 y q - d2 y p) (fun r => d2 (midZ p q) r - d2 (midZ p q) p) L (fun q hq => by have := e1 q hq; grind)
    have hm := d2_mid y p q eq1
    have f1 : ∀ r ∈ L, d2 (mv y (midZ p q) s) r ≤ d2 (mv y (midZ p q) s) p := fun r hr => by
      have := d2_mv y (midZ p q) s p r
      have := hs r hr
      grind
    have ep : d2 (mv y (midZ p q) s) p = d2 (mv y (midZ p q) s) q := by
      have := d2_mv y (midZ p q) s p q; grind
    have f2 : d2 (mv y (midZ p q) s) p ≤ d2 y p := by
      have e : d2 (mv y (midZ p q) s) p = d2 (midZ p q) p + (1 - s) * (1 - s) * (d2 y p - d2 (midZ p q) p) := by
        unfold d2 mv midZ at *; grind
      have h1 : (1 - s) * (1 - s) ≤ 1 := by
        have := Rat.mul_le_mul_of_nonneg_left (show 1 - s ≤ 1 by grind) (show 0 ≤ 1 - s by grind)
        grind
      have := Rat.mul_le_mul_of_nonneg_right h1 (show 0 ≤ d2 y p - d2 (midZ p q) p by grind)
      grind
    rcases hr with rfl | ⟨r, hr, h1, h2⟩
    · rw [mv_one] at f1 f2
      exact ⟨midZ p q, p, ⟨hp, .inl ⟨q, hq, rfl⟩⟩, f1, Rat.le_trans f2 es⟩
    · have hpr : p ≠ r := by rintro rfl; grind
      have hqr : q ≠ r := by rintro rfl; grind
      have er : d2 (mv y (midZ p q) s) p = d2 (mv y (midZ p q) s) r := by
        have := d2_mv y (midZ p q) s p r; grind
      exact ⟨mv y (midZ p q) s, p, ⟨hp, .inr ⟨q, hq, r, hr, cr_ne ep er hpq hpr hqr, ep, er⟩⟩, f1, Rat.le_trans f2 es⟩

/-- is that the least distance from which a place has all points? -/
def Best (L : List Pt) (z : Zt) (ρ : Rat) : Prop := (∀ q ∈ L, d2 z q ≤ ρ) ∧ ∀ (y : Zt) (σ : Rat), (∀ q ∈ L, d2 y q ≤ σ) → ρ ≤ σ
theorem best_unique {L : List Pt} {z y : Zt} {ρ σ : Rat} (hL : L ≠ []) (h : Best L z ρ) (k : Best L y σ) : z = y ∧ ρ = σ := by
  have e : ρ = σ := Rat.le_antisymm (h.2 y σ k.1) (k.2 z ρ h.1)
  subst e
  refine ⟨?_, rfl⟩
  obtain ⟨p, hp, hm⟩ := far_ex (mv z y (1 / 2)) L hL
  have h1 := h.2 (mv z y (1 / 2)) _ hm
  have e1 : d2 (mv z y (1 / 2)) p = (d2 z p + d2 y p) / 2 - ((z.1 - y.1) * (z.1 - y.1) + (z.2 - y.2) * (z.2 - y.2)) / 4 := by unfold d2 mv; grind
  have h2 := h.1 p hp
  have h3 := k.1 p hp
  have a1 := sq_nn (z.1 - y.1)
  have a2 := sq_nn (z.2 - y.2)
  have b1 := sq_zero (show (z.1 - y.1) * (z.1 - y.1) ≤ 0 by grind)
  have b2 := sq_zero (show (z.2 - y.2) * (z.2 - y.2) ≤ 0 by grind)
  ext <;> grind
/-- no direction has all points on the circle strictly at its side -/
theorem best_sides {L : List Pt} {z : Zt} {ρ : Rat} (h : Best L z ρ) (m : Zt) (hs : ∀ q ∈ L, d2 z q = ρ → 0 < m.1 * ((q.1 : Rat) - z.1) + m.2 * ((q.2 : Rat) - z.2)) (hL : L ≠ []) : False := by
  -- how far the place may move by m until a point comes up to the distance ρ again
  have key : ∀ K : List Pt, (∀ q ∈ K, q ∈ L) → ∃ t : Rat, 0 < t ∧ ∀ q ∈ K, ∀ s, 0 < s → s ≤ t → d2 (z.1 + s * m.1, z.2 + s * m.2) q < ρ := by
    intro K
    induction K with
    | nil => exact fun _ => ⟨1, by grind, fun q hq => by cases hq⟩
    | cons q K ih =>
      intro hK
      obtain ⟨t, t0, ht⟩ := ih (fun r hr => hK r (by simp [hr]))
      have hq := hK q (by simp)
      obtain ⟨B, hB⟩ : ∃ B, B = m.1 * ((q.1 : Rat) - z.1) + m.2 * ((q.2 : Rat) - z.2) := ⟨_, rfl⟩
      obtain ⟨M, hM⟩ : ∃ M, M = m.1 * m.1 + m.2 * m.2 := ⟨_, rfl⟩
      have M0 : 0 ≤ M := by have := sq_nn m.1; have := sq_nn m.2; grind
      have e : ∀ s : Rat, d2 (z.1 + s * m.1, z.2 + s * m.2) q = d2 z q - 2 * s * B + s * s * M := by
        intro s; unfold d2; grind
      have step : ∃ u : Rat, 0 < u ∧ ∀ s, 0 < s → s ≤ u → d2 (z.1 + s * m.1, z.2 + s * m.2) q < ρ := by
        have hle := h.1 q hq
        by_cases he : d2 z q = ρ
        · have hb := hs q hq he
          rw [← hB] at hb
          have d0 : 0 < M + 1 := by grind
          obtain ⟨u, hu⟩ : ∃ u, u * (M + 1) = B := ⟨B / (M + 1), by grind⟩
          have u0 : 0 < u := by
            by_cases k : 0 < u
            · exact k
            · have := Rat.mul_le_mul_of_nonneg_right (show u ≤ 0 by grind) (show 0 ≤ M + 1 by grind)
              grind
          refine ⟨u, u0, fun s s0 su => ?_⟩
          rw [e s, he]
          have h1 : s * (M + 1) ≤ B := by
            have := Rat.mul_le_mul_of_nonneg_right su (show 0 ≤ M + 1 by grind)
            grind
          have h2 : 0 < s * (2 * B - s * M) := Rat.mul_pos s0 (by grind)
          grind
        · have hlt : 0 < ρ - d2 z q := by grind
          obtain ⟨C, hC⟩ : ∃ C, C = 2 * (if 0 ≤ B then B else -B) + M + 1 := ⟨_, rfl⟩
          have C0 : 0 < C := by rw [hC]; split <;> grind
          obtain ⟨u', hu'⟩ : ∃ u, u * C = ρ - d2 z q := ⟨(ρ - d2 z q) / C, by grind⟩
          have u0 : 0 < u' := by
            by_cases k : 0 < u'
            · exact k
            · have := Rat.mul_le_mul_of_nonneg_right (show u' ≤ 0 by grind) (show 0 ≤ C by grind)
              grind
          refine ⟨if u' ≤ 1 then u' else 1, by split <;> grind, fun s s0 su => ?_⟩
          rw [e s]
          have s1 : s ≤ 1 := by split at su <;> grind
          have s2 : s ≤ u' := by split at su <;> grind
          have h1 : s * C ≤ ρ - d2 z q := by
            have := Rat.mul_le_mul_of_nonneg_right s2 (show 0 ≤ C by grind)
            grind
          have h2 : s * s * M ≤ s * M := by
            have := Rat.mul_le_mul_of_nonneg_left (Rat.mul_le_mul_of_nonneg_right s1 M0) (show 0 ≤ s by grind)
            grind
          have h3 : -(2 * s * B) ≤ s * (2 * (if 0 ≤ B then B else -B)) := by
            split
            · have := Rat.mul_nonneg (show 0 ≤ s by grind) (show 0 ≤ B by grind); grind
            · grind
          have h4 : s * C = s * (2 * (if 0 ≤ B then B else -B)) + s * M + s := by rw [hC]; grind
          grind
      obtain ⟨u, u0, hu⟩ := step
      refine ⟨if t ≤ u then t else u, by split <;> grind, ?_⟩
      intro r hr s s0 st
      have k1 : s ≤ t := by split at st <;> grind
      have k2 : s ≤ u := by split at st <;> grind
      rcases List.mem_cons.1 hr with rfl | hr
      · exact hu s s0 k2
      · exact ht r hr s s0 k1
  obtain ⟨t, t0, ht⟩ := key L (fun _ h => h)
  obtain ⟨p, hp, hm⟩ := far_ex (z.1 + t * m.1, z.2 + t * m.2) L hL
  have h1 := h.2 _ _ hm
  have h2 := ht p hp t t0 Rat.le_refl
  grind

theorem best_on {L : List Pt} {z : Zt} {ρ : Rat} (hL : L ≠ []) (h : Best L z ρ) : ∃ p ∈ L, d2 z p = ρ := by
  obtain ⟨p, hp, hm⟩ := far_ex z L hL
  exact ⟨p, hp, Rat.le_antisymm (h.1 p hp) (h.2 z _ hm)⟩
/-- the points on the best circle have it as their best one -/
theorem best_filter {L K : List Pt} {z : Zt} {ρ : Rat} (hL : L ≠ []) (h : Best L z ρ) (hK : ∀ p, p ∈ K ↔ p ∈ L ∧ d2 z p = ρ) : Best K z ρ := by
  refine ⟨fun q hq => h.1 q ((hK q).1 hq).1, fun y σ hy => ?_⟩
  by_cases hc : ρ ≤ σ
  · exact hc
  · exfalso
    refine best_sides h (y.1 - z.1, y.2 - z.2) (fun q hq he => ?_) hL
    have h1 := hy q ((hK q).2 ⟨hq, he⟩)
    have e : d2 z q - d2 y q + ((y.1 - z.1) * (y.1 - z.1) + (y.2 - z.2) * (y.2 - z.2)) = 2 * ((y.1 - z.1) * ((q.1 : Rat) - z.1) + (y.2 - z.2) * ((q.2 : Rat) - z.2)) := by unfold d2; grind
    have := sq_nn (y.1 - z.1)
    have := sq_nn (y.2 - z.2)
    grind
theorem best_two (p q : Pt) : Best [p, q] (midZ p q) (d2 (midZ p q) p) := by
  have h1 : d2 (midZ p q) p = d2 (midZ p q) q := by unfold d2 midZ; grind
  refine ⟨?_, fun y σ hy => ?_⟩
  · intro r hr
    simp at hr
    rcases hr with rfl | rfl
    · exact Rat.le_refl
    · rw [h1]; exact Rat.le_refl
  · have a := hy p (by simp)
    have b := hy q (by simp)
    have e : d2 y p + d2 y q = 2 * d2 (midZ p q) p + 2 * ((y.1 - (midZ p q).1) * (y.1 - (midZ p q).1) + (y.2 - (midZ p q).2) * (y.2 - (midZ p q).2)) := by unfold d2 midZ; grind
    have := sq_nn (y.1 - (midZ p q).1)
    have := sq_nn (y.2 - (midZ p q).2)
    grind
/-- the angle at a between b and c, as a product -/
def dp (a b c : Pt) : Rat := ((b.1 : Rat) - a.1) * ((c.1 : Rat) - a.1) + ((b.2 : Rat) - a.2) * ((c.2 : Rat) - a.2)
theorem dp_comm (a b c : Pt) : dp a b c = dp a c b := by unfold dp; grind
theorem bary (a1 a2 b1 b2 c1 c2 N : Rat) (ha : a1 * a1 + a2 * a2 = N) (hb : b1 * b1 + b2 * b2 = N) (hc : c1 * c1 + c2 * c2 = N) :
    ((b1 - c1) * (b1 - c1) + (b2 - c2) * (b2 - c2)) * ((b1 - a1) * (c1 - a1) + (b2 - a2) * (c2 - a2)) * a1 +
    ((a1 - c1) * (a1 - c1) + (a2 - c2) * (a2 - c2)) * ((a1 - b1) * (c1 - b1) + (a2 - b2) * (c2 - b2)) * b1 +
    ((a1 - b1) * (a1 - b1) + (a2 - b2) * (a2 - b2)) * ((a1 - c1) * (b1 - c1) + (a2 - c2) * (b2 - c2)) * c1 = 0 := by
  grind
theorem three_pos {x1 x2 p1 p2 q1 q2 r1 r2 A B C : Rat} (g1 : A * p1 + B * q1 + C * r1 = 0) (g2 : A * p2 + B * q2 + C * r2 = 0)
    (k1 : 0 ≤ A * (x1 * p1 + x2 * p2)) (k2 : 0 ≤ B * (x1 * q1 + x2 * q2)) (k3 : 0 < C * (x1 * r1 + x2 * r2)) : False := by
  have h1 : x1 * (A * p1 + B * q1 + C * r1) = 0 := by rw [g1]; grind
  have h2 : x2 * (A * p2 + B * q2 + C * r2) = 0 := by rw [g2]; grind
  grind
theorem best_three {p q r : Pt} {z : Zt} (h1 : d2 z p = d2 z q) (h2 : d2 z p = d2 z r) (ha : 0 < dp p q r) (hb : 0 < dp q p r) (hc : 0 < dp r p q) : Best [p, q, r] z (d2 z p) := by
  refine ⟨?_, fun y σ hy => ?_⟩
  · intro s hs
    simp at hs
    rcases hs with rfl | rfl | rfl
    · exact Rat.le_refl
    · rw [h1]; exact Rat.le_refl
    · rw [h2]; exact Rat.le_refl
  · by_cases hle : d2 z p ≤ σ
    · exact hle
    · exfalso
      have e : ∀ s : Pt, d2 z s = d2 z p → d2 y s ≤ σ → 0 < (y.1 - z.1) * ((s.1 : Rat) - z.1) + (y.2 - z.2) * ((s.2 : Rat) - z.2) := by
        intro s h k
        have e : d2 z s - d2 y s + ((y.1 - z.1) * (y.1 - z.1) + (y.2 - z.2) * (y.2 - z.2)) = 2 * ((y.1 - z.1) * ((s.1 : Rat) - z.1) + (y.2 - z.2) * ((s.2 : Rat) - z.2)) := by unfold d2; grind
        have := sq_nn (y.1 - z.1)
        have := sq_nn (y.2 - z.2)
        grind
      have ep := e p rfl (hy p (by simp))
      have eq' := e q h1.symm (hy q (by simp))
      have er := e r h2.symm (hy r (by simp))
      clear e hy hle
      obtain ⟨p1, p2⟩ := p
      obtain ⟨q1, q2⟩ := q
      obtain ⟨r1, r2⟩ := r
      obtain ⟨z1, z2⟩ := z
      obtain ⟨y1, y2⟩ := y
      unfold d2 at h1 h2
      unfold dp at ha hb hc
      dsimp only at *
      have h0 : ((p1 : Rat) - z1) * (p1 - z1) + ((p2 : Rat) - z2) * (p2 - z2) = ((p1 : Rat) - z1) * (p1 - z1) + ((p2 : Rat) - z2) * (p2 - z2) := rfl
      have b1 := bary ((p1 : Rat) - z1) ((p2 : Rat) - z2) ((q1 : Rat) - z1) ((q2 : Rat) - z2) ((r1 : Rat) - z1) ((r2 : Rat) - z2) _ h0 h1.symm h2.symm
      have b2 := bary ((p2 : Rat) - z2) ((p1 : Rat) - z1) ((q2 : Rat) - z2) ((q1 : Rat) - z1) ((r2 : Rat) - z2) ((r1 : Rat) - z1) (((p1 : Rat) - z1) * (p1 - z1) + ((p2 : Rat) - z2) * (p2 - z2)) (by grind) (by grind) (by grind)
      clear h0
      have f1 : ∀ x : Rat, x - z1 - (p1 - z1) = x - p1 := by intro x; grind
      obtain ⟨A, hA⟩ : ∃ A, A = ((q1 : Rat) - r1) * (q1 - r1) + ((q2 : Rat) - r2) * (q2 - r2) := ⟨_, rfl⟩
      obtain ⟨B, hB⟩ : ∃ A, A = ((p1 : Rat) - r1) * (p1 - r1) + ((p2 : Rat) - r2) * (p2 - r2) := ⟨_, rfl⟩
      obtain ⟨C, hC⟩ : ∃ A, A = ((p1 : Rat) - q1) * (p1 - q1) + ((p2 : Rat) - q2) * (p2 - q2) := ⟨_, rfl⟩
      obtain ⟨a, ea⟩ : ∃ A, A = ((q1 : Rat) - p1) * ((r1 : Rat) - p1) + ((q2 : Rat) - p2) * ((r2 : Rat) - p2) := ⟨_, rfl⟩
      obtain ⟨b, eb⟩ : ∃ A, A = ((p1 : Rat) - q1) * ((r1 : Rat) - q1) + ((p2 : Rat) - q2) * ((r2 : Rat) - q2) := ⟨_, rfl⟩
      obtain ⟨c, ec⟩ : ∃ A, A = ((p1 : Rat) - r1) * ((q1 : Rat) - r1) + ((p2 : Rat) - r2) * ((q2 : Rat) - r2) := ⟨_, rfl⟩
      rw [← ea] at ha
      rw [← eb] at hb
      rw [← ec] at hc
      have g1 : A * a * ((p1 : Rat) - z1) + B * b * ((q1 : Rat) - z1) + C * c * ((r1 : Rat) - z1) = 0 := by rw [hA, hB, hC, ea, eb, ec]; grind
      have g2 : A * a * ((p2 : Rat) - z2) + B * b * ((q2 : Rat) - z2) + C * c * ((r2 : Rat) - z2) = 0 := by rw [hA, hB, hC, ea, eb, ec]; grind
      have A0 : 0 ≤ A := by rw [hA]; have := sq_nn ((q1 : Rat) - r1); have := sq_nn ((q2 : Rat) - r2); grind
      have B0 : 0 ≤ B := by rw [hB]; have := sq_nn ((p1 : Rat) - r1); have := sq_nn ((p2 : Rat) - r2); grind
      have C0 : 0 < C := by
        have n1 := sq_nn ((p1 : Rat) - q1)
        have n2 := sq_nn ((p2 : Rat) - q2)
        by_cases k : 0 < C
        · exact k
        · exfalso
          have m1 := sq_zero (show ((p1 : Rat) - q1) * (p1 - q1) ≤ 0 by grind)
          have m2 := sq_zero (show ((p2 : Rat) - q2) * (p2 - q2) ≤ 0 by grind)
          rw [ea] at ha
          rw [eb] at hb
          have : ((q1 : Rat) - p1) = 0 := by grind
          have : ((q2 : Rat) - p2) = 0 := by grind
          grind
      have k1 := Rat.mul_nonneg (Rat.mul_nonneg A0 (show 0 ≤ a by grind)) (show 0 ≤ (y1 - z1) * ((p1 : Rat) - z1) + (y2 - z2) * ((p2 : Rat) - z2) by grind)
      have k2 := Rat.mul_nonneg (Rat.mul_nonneg B0 (show 0 ≤ b by grind)) (show 0 ≤ (y1 - z1) * ((q1 : Rat) - z1) + (y2 - z2) * ((q2 : Rat) - z2) by grind)
      have k3 := Rat.mul_pos (Rat.mul_pos C0 hc) er
      exact three_pos g1 g2 k1 k2 k3
/-- the square of the distance of two points -/
def dd (p q : Pt) : Rat := ((p.1 : Rat) - q.1) * ((p.1 : Rat) - q.1) + ((p.2 : Rat) - q.2) * ((p.2 : Rat) - q.2)
theorem dd_nn (p q : Pt) : 0 ≤ dd p q := by
  unfold dd
  have := sq_nn ((p.1 : Rat) - q.1)
  have := sq_nn ((p.2 : Rat) - q.2)
  grind
theorem dd_zero {p q : Pt} (h : dd p q ≤ 0) : p = q := by
  unfold dd at h
  have h1 := sq_nn ((p.1 : Rat) - q.1)
  have h2 := sq_nn ((p.2 : Rat) - q.2)
  have e1 := sq_zero (show ((p.1 : Rat) - q.1) * ((p.1 : Rat) - q.1) ≤ 0 by grind)
  have e2 := sq_zero (show ((p.2 : Rat) - q.2) * ((p.2 : Rat) - q.2) ≤ 0 by grind)
  obtain ⟨p1, p2⟩ := p
  obtain ⟨q1, q2⟩ := q
  dsimp only at e1 e2
  rw [Rat.intCast_inj.1 (show (p1 : Rat) = q1 by grind), Rat.intCast_inj.1 (show (p2 : Rat) = q2 by grind)]
theorem dd_comm (p q : Pt) : dd p q = dd q p := by unfold dd; grind
/-- a function of two points has a greatest value -/
theorem pair_ex (f : Pt → Pt → Rat) (K : List Pt) (hK : K ≠ []) : ∃ p ∈ K, ∃ q ∈ K, ∀ r ∈ K, ∀ s ∈ K, f r s ≤ f p q := by
  have one : ∀ (g : Pt → Rat) (L : List Pt), L ≠ [] → ∃ p ∈ L, ∀ q ∈ L, g q ≤ g p := by
    intro g L
    induction L with
    | nil => exact fun h => absurd rfl h
    | cons p L ih =>
      intro _
      by_cases hL : L = []
      · subst hL; exact ⟨p, by simp, fun q hq => by simp at hq; subst hq; exact Rat.le_refl⟩
      · obtain ⟨m, hm, h⟩ := ih hL
        by_cases hc : g p ≤ g m
        · exact ⟨m, List.mem_cons_of_mem _ hm, fun r hr => by
            rcases List.mem_cons.1 hr with rfl | hr
            · exact hc
            · exact h r hr⟩
        · exact ⟨p, by simp, fun r hr => by
            rcases List.mem_cons.1 hr with rfl | hr
            · exact Rat.le_refl
            · have := h r hr; grind⟩
  have two : ∀ L : List Pt, L ≠ [] → ∃ p ∈ L, ∃ q ∈ K, ∀ r ∈ L, ∀ s ∈ K, f r s ≤ f p q := by
    intro L
    induction L with
    | nil => exact fun h => absurd rfl h
    | cons p L ih =>
      intro _
      obtain ⟨q, hq, hm⟩ := one (f p) K hK
      by_cases hL : L = []
      · subst hL; exact ⟨p, by simp, q, hq, fun r hr s hs => by simp at hr; subst hr; exact hm s hs⟩
      · obtain ⟨p', hp', q', hq', h⟩ := ih hL
        by_cases hc : f p q ≤ f p' q'
        · exact ⟨p', List.mem_cons_of_mem _ hp', q', hq', fun r hr s hs => by
            rcases List.mem_cons.1 hr with rfl | hr
            · exact Rat.le_trans (hm s hs) hc
            · exact h r hr s hs⟩
        · exact ⟨p, by simp, q, hq, fun r hr s hs => by
            rcases List.mem_cons.1 hr with rfl | hr
            · exact hm s hs
            · have := h r hr s hs; grind⟩
  exact two K hK
theorem radius_id {P1 P2 Q1 Q2 S1 S2 z1 z2 : Rat} (k1 : (P1 - z1) * (P1 - z1) + (P2 - z2) * (P2 - z2) = (Q1 - z1) * (Q1 - z1) + (Q2 - z2) * (Q2 - z2))
    (k2 : (P1 - z1) * (P1 - z1) + (P2 - z2) * (P2 - z2) = (S1 - z1) * (S1 - z1) + (S2 - z2) * (S2 - z2)) :
    4 * (((Q1 - P1) * (S2 - P2) - (Q2 - P2) * (S1 - P1)) * ((Q1 - P1) * (S2 - P2) - (Q2 - P2) * (S1 - P1))) * ((P1 - z1) * (P1 - z1) + (P2 - z2) * (P2 - z2)) =
      ((Q1 - S1) * (Q1 - S1) + (Q2 - S2) * (Q2 - S2)) * ((P1 - S1) * (P1 - S1) + (P2 - S2) * (P2 - S2)) * ((P1 - Q1) * (P1 - Q1) + (P2 - Q2) * (P2 - Q2)) := by
  obtain ⟨u1, hu1⟩ : ∃ u, u = Q1 - P1 := ⟨_, rfl⟩
  obtain ⟨u2, hu2⟩ : ∃ u, u = Q2 - P2 := ⟨_, rfl⟩
  obtain ⟨v1, hv1⟩ : ∃ u, u = S1 - P1 := ⟨_, rfl⟩
  obtain ⟨v2, hv2⟩ : ∃ u, u = S2 - P2 := ⟨_, rfl⟩
  obtain ⟨w1, hw1⟩ : ∃ u, u = z1 - P1 := ⟨_, rfl⟩
  obtain ⟨w2, hw2⟩ : ∃ u, u = z2 - P2 := ⟨_, rfl⟩
  have e1 : u1 * u1 + u2 * u2 = 2 * (w1 * u1 + w2 * u2) := by grind
  have e2 : v1 * v1 + v2 * v2 = 2 * (w1 * v1 + w2 * v2) := by grind
  have f1 : 2 * (u1 * v2 - u2 * v1) * w1 = (u1 * u1 + u2 * u2) * v2 - (v1 * v1 + v2 * v2) * u2 := by rw [e1, e2]; grind
  have f2 : 2 * (u1 * v2 - u2 * v1) * w2 = u1 * (v1 * v1 + v2 * v2) - v1 * (u1 * u1 + u2 * u2) := by rw [e1, e2]; grind
  have f3 : 4 * ((u1 * v2 - u2 * v1) * (u1 * v2 - u2 * v1)) * (w1 * w1 + w2 * w2) = (2 * (u1 * v2 - u2 * v1) * w1) * (2 * (u1 * v2 - u2 * v1) * w1) + (2 * (u1 * v2 - u2 * v1) * w2) * (2 * (u1 * v2 - u2 * v1) * w2) := by grind
  rw [show (P1 - z1) * (P1 - z1) + (P2 - z2) * (P2 - z2) = w1 * w1 + w2 * w2 by rw [hw1, hw2]; grind, show Q1 - S1 = u1 - v1 by grind, show Q2 - S2 = u2 - v2 by grind, show P1 - S1 = -v1 by grind, show P2 - S2 = -v2 by grind, show P1 - Q1 = -u1 by grind, show P2 - Q2 = -u2 by grind, ← hu1, ← hu2, ← hv1, ← hv2, f3, f1, f2]
  clear f1 f2 f3 e1 e2 hu1 hu2 hv1 hv2 hw1 hw2 k1 k2
  grind
/-- what holds a best circle: one point, two ends of a diameter, or three corners of a triangle with angles less than a right one; and Jung's bound -/
theorem force_ex {L : List Pt} {z : Zt} {ρ : Rat} (hL : L ≠ []) (h : Best L z ρ) :
    (∃ p ∈ L, ∀ q ∈ L, q = p) ∨ (∃ p ∈ L, ∃ q ∈ L, p ≠ q ∧ z = midZ p q ∧ d2 z p = ρ) ∨
    ∃ p ∈ L, ∃ q ∈ L, ∃ r ∈ L, d2 z p = ρ ∧ d2 z q = ρ ∧ d2 z r = ρ ∧ 0 < dp p q r ∧ 0 < dp q p r ∧ 0 < dp r p q ∧ 3 * ρ ≤ dd p q := by
  obtain ⟨o, ho, hoe⟩ := best_on hL h
  have hK : L.filter (fun q => decide (d2 z q = ρ)) ≠ [] := by
    intro hc
    have : o ∈ L.filter (fun q => decide (d2 z q = ρ)) := List.mem_filter.2 ⟨ho, by simp [hoe]⟩
    rw [hc] at this; cases this
  obtain ⟨p, hp, q, hq, hm⟩ := pair_ex dd _ hK
  have hmem : ∀ r, r ∈ L.filter (fun q => decide (d2 z q = ρ)) ↔ r ∈ L ∧ d2 z r = ρ := fun r => by rw [List.mem_filter]; simp
  obtain ⟨hpL, hpe⟩ := (hmem p).1 hp
  obtain ⟨hqL, hqe⟩ := (hmem q).1 hq
  by_cases hpq : p = q
  · subst hpq
    have hall : ∀ r ∈ L, d2 z r = ρ → r = p := fun r hr he => dd_zero (by have := hm r ((hmem r).2 ⟨hr, he⟩) p hp; have e : dd p p = 0 := by unfold dd; grind
                                                                          grind)
    left
    refine ⟨p, hpL, ?_⟩
    by_cases hz : z = ptZ p
    · intro r hr
      have : d2 z p = 0 := by rw [hz]; unfold d2 ptZ; grind
      have h1 := h.1 r hr
      have h2 := d2_zero (z := z) (p := r) (by grind)
      exact ptZ_inj (by rw [← h2, hz])
    · exfalso
      refine best_sides h ((p.1 : Rat) - z.1, (p.2 : Rat) - z.2) (fun r hr he => ?_) hL
      rw [hall r hr he]
      have a1 := sq_nn ((p.1 : Rat) - z.1)
      have a2 := sq_nn ((p.2 : Rat) - z.2)
      by_cases hc : 0 < ((p.1 : Rat) - z.1) * ((p.1 : Rat) - z.1) + ((p.2 : Rat) - z.2) * ((p.2 : Rat) - z.2)
      · exact hc
      · exact absurd (d2_zero (z := z) (p := p) (by unfold d2; grind)) hz
  · by_cases hz : z = midZ p q
    · exact .inr (.inl ⟨p, hpL, q, hqL, hpq, hz, hpe⟩)
    · right; right
      have hs : ∃ s ∈ L, d2 z s = ρ ∧ ((midZ p q).1 - z.1) * ((s.1 : Rat) - z.1) + ((midZ p q).2 - z.2) * ((s.2 : Rat) - z.2) ≤ 0 := by
        false_or_by_contra
        rename_i hno
        refine best_sides h ((midZ p q).1 - z.1, (midZ p q).2 - z.2) (fun r hr he => ?_) hL
        by_cases hc : 0 < ((midZ p q).1 - z.1) * ((r.1 : Rat) - z.1) + ((midZ p q).2 - z.2) * ((r.2 : Rat) - z.2)
        · exact hc
        · exact absurd ⟨r, hr, he, by grind⟩ hno
      obtain ⟨s, hsL, hse, hsd⟩ := hs
      have hM : 0 < ((midZ p q).1 - z.1) * ((midZ p q).1 - z.1) + ((midZ p q).2 - z.2) * ((midZ p q).2 - z.2) := by
        have a1 := sq_nn ((midZ p q).1 - z.1)
        have a2 := sq_nn ((midZ p q).2 - z.2)
        by_cases hc : 0 < ((midZ p q).1 - z.1) * ((midZ p q).1 - z.1) + ((midZ p q).2 - z.2) * ((midZ p q).2 - z.2)
        · exact hc
        · have b1 := sq_zero (show ((midZ p q).1 - z.1) * ((midZ p q).1 - z.1) ≤ 0 by grind)
          have b2 := sq_zero (show ((midZ p q).2 - z.2) * ((midZ p q).2 - z.2) ≤ 0 by grind)
          exact absurd (by ext <;> grind) hz
      have ep : ((midZ p q).1 - z.1) * ((p.1 : Rat) - z.1) + ((midZ p q).2 - z.2) * ((p.2 : Rat) - z.2) = ((midZ p q).1 - z.1) * ((midZ p q).1 - z.1) + ((midZ p q).2 - z.2) * ((midZ p q).2 - z.2) := by
        have : d2 z p = d2 z q := by rw [hpe, hqe]
        unfold d2 at this; unfold midZ; grind
      have eq' : ((midZ p q).1 - z.1) * ((q.1 : Rat) - z.1) + ((midZ p q).2 - z.2) * ((q.2 : Rat) - z.2) = ((midZ p q).1 - z.1) * ((midZ p q).1 - z.1) + ((midZ p q).2 - z.2) * ((midZ p q).2 - z.2) := by
        have : d2 z p = d2 z q := by rw [hpe, hqe]
        unfold d2 at this; unfold midZ; grind
      have hsp : s ≠ p := by rintro rfl; grind
      have hsq : s ≠ q := by rintro rfl; grind
      have m1 := hm p hp s ((hmem s).2 ⟨hsL, hse⟩)
      have m2 := hm q hq s ((hmem s).2 ⟨hsL, hse⟩)
      have ps : 0 < dd p s := by
        have := dd_nn p s
        by_cases hc : 0 < dd p s
        · exact hc
        · exact absurd (dd_zero (p := p) (q := s) (by grind)).symm hsp
      have qs : 0 < dd q s := by
        have := dd_nn q s
        by_cases hc : 0 < dd q s
        · exact hc
        · exact absurd (dd_zero (p := q) (q := s) (by grind)).symm hsq
      have d1 : 2 * dp p q s = dd p q + dd p s - dd q s := by unfold dp dd; grind
      have d2' : 2 * dp q p s = dd p q + dd q s - dd p s := by unfold dp dd; grind
      have d3 : 2 * dp s p q = dd p s + dd q s - dd p q := by unfold dp dd; grind
      have d4 : 0 < dp s p q := by
        have e : dp s p q = 2 * (((midZ p q).1 - z.1) * ((midZ p q).1 - z.1) + ((midZ p q).2 - z.2) * ((midZ p q).2 - z.2)) - 2 * (((midZ p q).1 - z.1) * ((s.1 : Rat) - z.1) + ((midZ p q).2 - z.2) * ((s.2 : Rat) - z.2)) := by
          have k1 : d2 z p = d2 z s := by rw [hpe, hse]
          have k2 : d2 z q = d2 z s := by rw [hqe, hse]
          unfold d2 at k1 k2; unfold dp midZ; grind
        grind
      refine ⟨p, hpL, q, hqL, s, hsL, hpe, hqe, hse, by grind, by grind, d4, ?_⟩
      -- the three sides and the radius
      have hcr : cr p q s ≠ 0 := cr_ne (z := z) (by rw [hpe, hqe]) (by rw [hpe, hse]) hpq hsp.symm hsq.symm
      have id1 : 4 * (cr p q s * cr p q s) * ρ = dd q s * dd p s * dd p q := by
        have k1 : d2 z p = d2 z q := by rw [hpe, hqe]
        have k2 : d2 z p = d2 z s := by rw [hpe, hse]
        rw [← hpe]
        clear hpe hqe hse hoe hm hmem hp hq hK h d1 d2' d3 d4 m1 m2 ps qs ep eq' hM hsd hz
        unfold d2 at k1 k2
        unfold cr dd d2
        obtain ⟨p1, p2⟩ := p
        obtain ⟨q1, q2⟩ := q
        obtain ⟨s1, s2⟩ := s
        obtain ⟨z1, z2⟩ := z
        dsimp only at *
        generalize (p1 : Rat) = P1 at *
        generalize (p2 : Rat) = P2 at *
        generalize (q1 : Rat) = Q1 at *
        generalize (q2 : Rat) = Q2 at *
        generalize (s1 : Rat) = S1 at *
        generalize (s2 : Rat) = S2 at *
        exact radius_id k1 k2
      have id2 : 4 * (cr p q s * cr p q s) = 4 * (dd q s * dd p s) - (dd q s + dd p s - dd p q) * (dd q s + dd p s - dd p q) := by unfold cr dd; grind
      have hx : (dd q s + dd p s - dd p q) * (dd q s + dd p s - dd p q) ≤ dd q s * dd p s := by
        have k1 := Rat.mul_le_mul_of_nonneg_left (show dd q s + dd p s - dd p q ≤ dd p s by rw [dd_comm q s] at *; grind) (show 0 ≤ dd q s + dd p s - dd p q by grind)
        have k2 := Rat.mul_le_mul_of_nonneg_right (show dd q s + dd p s - dd p q ≤ dd q s by grind) (show 0 ≤ dd p s by grind)
        grind
      have hcc : 0 < cr p q s * cr p q s := by
        have := sq_nn (cr p q s)
        by_cases hc : 0 < cr p q s * cr p q s
        · exact hc
        · exact absurd (sq_zero (show cr p q s * cr p q s ≤ 0 by grind)) hcr
      by_cases hc : 3 * ρ ≤ dd p q
      · exact hc
      · exfalso
        have k1 := Rat.mul_lt_mul_of_pos_right (show dd p q < 3 * ρ by grind) (show 0 < dd q s * dd p s from Rat.mul_pos qs ps)
        have k2 := Rat.mul_le_mul_of_nonneg_right (show 3 * (dd q s * dd p s) ≤ 4 * (cr p q s * cr p q s) by grind) (show 0 ≤ ρ by have := d2_nn z p; grind)
        grind
end Go.Proofs.Ytlemipnplgbckaa
namespace Go.Proofs.Ytlemipnplgbckaa
open Go.RowKit Go.Shelf
attribute [local go_sem] Oper.semAt_some
/-- a circle's middle, and the square of its radius -/
def Cir.Z (c : Cir) : Zt := ((c.X : Rat) / c.D, (c.Y : Rat) / c.D)
def Cir.ρ (c : Cir) : Rat := (c.R : Rat) / (c.D * c.D)
theorem ratD {d : Int} (h : 1 ≤ d) : (0 : Rat) < (d : Rat) := by
  have := (Rat.intCast_lt_intCast (a := 0) (b := d)).2 (by omega)
  simpa using this
theorem ap_rat (c : Cir) (hd : 1 ≤ c.D) (p : Pt) : ((apF c.X c.Y c.D p : Int) : Rat) = (c.D : Rat) * c.D * d2 c.Z p := by
  have h := ratD hd
  unfold apF d2 Cir.Z
  simp only [Rat.intCast_add, Rat.intCast_mul, Rat.intCast_sub]
  generalize (c.D : Rat) = D at *
  generalize (c.X : Rat) = X at *
  generalize (c.Y : Rat) = Y at *
  obtain ⟨x, hx⟩ : ∃ x, x = X / D := ⟨_, rfl⟩
  obtain ⟨y, hy⟩ : ∃ y, y = Y / D := ⟨_, rfl⟩
  rw [← hx, ← hy]
  have h1 : x * D = X := by rw [hx]; grind
  have h2 : y * D = Y := by rw [hy]; grind
  rw [← h1, ← h2]
  grind
theorem rho_R (c : Cir) (hd : 1 ≤ c.D) : (c.R : Rat) = (c.D : Rat) * c.D * c.ρ := by
  have h := ratD hd
  unfold Cir.ρ
  have : (c.D : Rat) * c.D ≠ 0 := by have := Rat.mul_pos h h; grind
  grind
theorem cmpI_le {a b : Int} : cmpI a b ≤ 0 ↔ a ≤ b := by unfold cmpI; split <;> (try split) <;> omega
theorem cmpI_lt {a b : Int} : cmpI a b < 0 ↔ a < b := by unfold cmpI; split <;> (try split) <;> omega
theorem cmpI_eq {a b : Int} : cmpI a b = 0 ↔ a = b := by unfold cmpI; split <;> (try split) <;> omega
theorem cmpI_gt {a b : Int} : 0 < cmpI a b ↔ b < a := by unfold cmpI; split <;> (try split) <;> omega
theorem rat_le (a b : Int) : (a : Rat) ≤ b ↔ a ≤ b := Rat.intCast_le_intCast
theorem mul_le_iff {k x y : Rat} (hk : 0 < k) : k * x ≤ k * y ↔ x ≤ y := by
  refine ⟨fun h => ?_, fun h => Rat.mul_le_mul_of_nonneg_left h (by grind)⟩
  by_cases hc : x ≤ y
  · exact hc
  · have := Rat.mul_lt_mul_of_pos_left (show y < x by grind) hk
    grind
theorem wh_le (c : Cir) (hd : 1 ≤ c.D) (p : Pt) : whF c p ≤ 0 ↔ d2 c.Z p ≤ c.ρ := by
  unfold whF
  rw [cmpI_le, ← rat_le, ap_rat c hd, rho_R c hd]
  have h := ratD hd
  exact mul_le_iff (Rat.mul_pos h h)
theorem wh_eq (c : Cir) (hd : 1 ≤ c.D) (p : Pt) : whF c p = 0 ↔ d2 c.Z p = c.ρ := by
  unfold whF
  rw [cmpI_eq, ← Rat.intCast_inj, ap_rat c hd, rho_R c hd]
  have h := ratD hd
  have h2 := Rat.mul_pos h h
  refine ⟨fun h => ?_, fun h => by rw [h]⟩
  exact Rat.le_antisymm ((mul_le_iff h2).1 (by rw [h]; exact Rat.le_refl)) ((mul_le_iff h2).1 (by rw [h]; exact Rat.le_refl))
theorem cmpV_lt {a b : Cir} (ha : 1 ≤ a.D) (hb : 1 ≤ b.D) : cmpV a b < 0 ↔ a.ρ < b.ρ := by
  unfold cmpV cmpC
  rw [cmpI_lt, ← Rat.intCast_lt_intCast]
  simp only [Rat.intCast_mul]
  rw [rho_R a ha, rho_R b hb]
  have h1 := ratD ha
  have h2 := ratD hb
  have h3 : 0 < ((a.D : Rat) * a.D) * (b.D * b.D) := Rat.mul_pos (Rat.mul_pos h1 h1) (Rat.mul_pos h2 h2)
  constructor
  · intro h
    by_cases hc : a.ρ < b.ρ
    · exact hc
    · have := (mul_le_iff h3 (x := b.ρ) (y := a.ρ)).2 (by grind)
      grind
  · intro h
    have := Rat.mul_lt_mul_of_pos_left h h3
    grind
theorem cmpV_gt {a b : Cir} (ha : 1 ≤ a.D) (hb : 1 ≤ b.D) : 0 < cmpV a b ↔ b.ρ < a.ρ := by
  rw [← cmpV_lt hb ha]
  unfold cmpV cmpC
  rw [cmpI_lt, cmpI_gt]
theorem rnd_D {x y d : Int} {p : Pt} (hd : d ≠ 0) : 1 ≤ (rndC x y d p).D := rD_pos hd
theorem rnd_Z {x y d : Int} {p : Pt} (hd : d ≠ 0) : (rndC x y d p).Z = ((x : Rat) / d, (y : Rat) / d) := by
  obtain ⟨h1, h2, h3⟩ := r_mul x y d
  have hg := (gS_ne (x := x) (y := y) hd).1
  have hD := rD_pos (x := x) (y := y) hd
  unfold Cir.Z rndC
  dsimp only
  have e1 : (rX x y d : Rat) * gS x y d = x := by rw [← Rat.intCast_mul, h1]
  have e2 : (rY x y d : Rat) * gS x y d = y := by rw [← Rat.intCast_mul, h2]
  have e3 : (rD x y d : Rat) * gS x y d = d := by rw [← Rat.intCast_mul, h3]
  have g0 : (gS x y d : Rat) ≠ 0 := fun h => hg (by rw [← Rat.intCast_inj]; simpa using h)
  have d0 := ratD hD
  rw [← e1, ← e2, ← e3]
  generalize (gS x y d : Rat) = g at *
  generalize (rD x y d : Rat) = D at *
  have D0 : D ≠ 0 := by grind
  have Dg : D * g ≠ 0 := by intro h; rcases Rat.mul_eq_zero.1 h with h | h <;> contradiction
  ext <;> (dsimp only; grind)
theorem rnd_ρ {x y d : Int} {p : Pt} (hd : d ≠ 0) : (rndC x y d p).ρ = d2 (rndC x y d p).Z p := by
  have hD := rD_pos (x := x) (y := y) hd
  have h := ap_rat (rndC x y d p) hD p
  have h2 := rho_R (rndC x y d p) hD
  have e : (rndC x y d p).R = apF (rndC x y d p).X (rndC x y d p).Y (rndC x y d p).D p := rfl
  rw [e, h] at h2
  have h3 := ratD hD
  have h4 := Rat.mul_pos h3 h3
  exact Rat.le_antisymm ((mul_le_iff h4).1 (by rw [show ((rndC x y d p).D : Rat) = (rD x y d : Rat) from rfl] at h2; rw [h2]; exact Rat.le_refl)) ((mul_le_iff h4).1 (by rw [show ((rndC x y d p).D : Rat) = (rD x y d : Rat) from rfl] at h2; rw [h2]; exact Rat.le_refl))
theorem ovC_Z (a b : Pt) : (ovC a b).Z = midZ a b := by
  unfold ovC
  rw [rnd_Z (by omega)]
  unfold midZ
  simp only [Rat.intCast_add]
  rfl
theorem ovC_ρ (a b : Pt) : (ovC a b).ρ = d2 (midZ a b) a := by
  rw [← ovC_Z]
  unfold ovC
  exact rnd_ρ (by omega)
theorem thD_cr (a b c : Pt) : (thD a b c : Rat) = 2 * cr a b c := by
  unfold thD crs cr
  simp only [Rat.intCast_mul, Rat.intCast_sub]
  rfl
theorem thD_ne {a b c : Pt} : thD a b c ≠ 0 ↔ cr a b c ≠ 0 := by
  have h := thD_cr a b c
  constructor
  · intro k h2
    rw [h2] at h
    exact k (by rw [← Rat.intCast_inj]; rw [h]; simp)
  · intro k h2
    rw [h2] at h
    have : cr a b c = 0 := by simp at h; grind
    exact k this
/-- the middle is where the three distances are the same -/
theorem mid_eq {a b c : Pt} {z : Zt} (_hc : cr a b c ≠ 0) (h1 : d2 z a = d2 z b) (h2 : d2 z a = d2 z c) : (2 * cr a b c) * z.1 = (2 * cr a b c) * a.1 + (thX a b c : Rat) ∧ (2 * cr a b c) * z.2 = (2 * cr a b c) * a.2 + (thY a b c : Rat) := by
  unfold thX thY
  simp only [Rat.intCast_add, Rat.intCast_mul, Rat.intCast_sub]
  unfold d2 at h1 h2
  unfold cr
  constructor <;> grind
theorem thC_Z {a b c : Pt} (h : thD a b c ≠ 0) : (thC a b c).Z = ((a.1 : Rat) + (thX a b c : Rat) / (2 * cr a b c), (a.2 : Rat) + (thY a b c : Rat) / (2 * cr a b c)) := by
  have hc := thD_ne.1 h
  unfold thC
  rw [rnd_Z h]
  simp only [Rat.intCast_add, Rat.intCast_mul, thD_cr]
  have : 2 * cr a b c ≠ 0 := by grind
  ext <;> (dsimp only; grind)
theorem thC_on {a b c : Pt} (h : thD a b c ≠ 0) : d2 (thC a b c).Z a = d2 (thC a b c).Z b ∧ d2 (thC a b c).Z a = d2 (thC a b c).Z c := by
  rw [thC_Z h]
  have hc := thD_ne.1 h
  obtain ⟨x, hx⟩ : ∃ x, x = (thX a b c : Rat) / (2 * cr a b c) := ⟨_, rfl⟩
  obtain ⟨y, hy⟩ : ∃ x, x = (thY a b c : Rat) / (2 * cr a b c) := ⟨_, rfl⟩
  rw [← hx, ← hy]
  have e1 : x * (2 * cr a b c) = (thX a b c : Rat) := by grind
  have e2 : y * (2 * cr a b c) = (thY a b c : Rat) := by grind
  clear hx hy h
  unfold thX at e1
  unfold thY at e2
  simp only [Rat.intCast_add, Rat.intCast_mul, Rat.intCast_sub] at e1 e2
  unfold d2
  unfold cr at *
  dsimp only
  obtain ⟨u1, hu1⟩ : ∃ u : Rat, u = b.1 - a.1 := ⟨_, rfl⟩
  obtain ⟨u2, hu2⟩ : ∃ u : Rat, u = b.2 - a.2 := ⟨_, rfl⟩
  obtain ⟨v1, hv1⟩ : ∃ u : Rat, u = c.1 - a.1 := ⟨_, rfl⟩
  obtain ⟨v2, hv2⟩ : ∃ u : Rat, u = c.2 - a.2 := ⟨_, rfl⟩
  rw [← hu1, ← hu2, ← hv1, ← hv2] at e1 e2 hc
  obtain ⟨C, hC⟩ : ∃ C, C = u1 * v2 - u2 * v1 := ⟨_, rfl⟩
  rw [← hC] at e1 e2 hc
  have f1 : C * (2 * (x * u1 + y * u2)) = C * (u1 * u1 + u2 * u2) := by grind
  have f2 : C * (2 * (x * v1 + y * v2)) = C * (v1 * v1 + v2 * v2) := by grind
  have g1 : 2 * (x * u1 + y * u2) = u1 * u1 + u2 * u2 := by
    have : C * (2 * (x * u1 + y * u2) - (u1 * u1 + u2 * u2)) = 0 := by grind
    rcases Rat.mul_eq_zero.1 this with h | h
    · exact absurd h hc
    · grind
  have g2 : 2 * (x * v1 + y * v2) = v1 * v1 + v2 * v2 := by
    have : C * (2 * (x * v1 + y * v2) - (v1 * v1 + v2 * v2)) = 0 := by grind
    rcases Rat.mul_eq_zero.1 this with h | h
    · exact absurd h hc
    · grind
  constructor
  · rw [show (b.1 : Rat) = u1 + a.1 by grind, show (b.2 : Rat) = u2 + a.2 by grind]; grind
  · rw [show (c.1 : Rat) = v1 + a.1 by grind, show (c.2 : Rat) = v2 + a.2 by grind]; grind
theorem thC_ρ {a b c : Pt} (h : thD a b c ≠ 0) : (thC a b c).ρ = d2 (thC a b c).Z a := rnd_ρ h
theorem thC_mid {a b c : Pt} {z : Zt} (hc : thD a b c ≠ 0) (h1 : d2 z a = d2 z b) (h2 : d2 z a = d2 z c) : (thC a b c).Z = z := by
  rw [thC_Z hc]
  have h := mid_eq (thD_ne.1 hc) h1 h2
  have hc := thD_ne.1 hc
  ext <;> (dsimp only; grind)
theorem cr_swap {a b c : Pt} : cr a c b = - cr a b c ∧ cr b a c = - cr a b c ∧ cr b c a = cr a b c ∧ cr c a b = cr a b c ∧ cr c b a = - cr a b c := by
  unfold cr; refine ⟨?_, ?_, ?_, ?_, ?_⟩ <;> grind
end Go.Proofs.Ytlemipnplgbckaa
namespace Go.Proofs.Ytlemipnplgbckaa
open Go.RowKit Go.Shelf
attribute [local go_sem] Oper.semAt_some
/-- all points inside or on it? -/
def holdB (ps : List Pt) (c : Cir) : Bool := !(ps.any fun p => decide (0 < whF c p))
theorem holdB_iff {ps : List Pt} {c : Cir} (hd : 1 ≤ c.D) : holdB ps c = true ↔ ∀ q ∈ ps, d2 c.Z q ≤ c.ρ := by
  unfold holdB
  rw [Bool.not_eq_true', List.any_eq_false]
  constructor
  · intro h q hq
    have := h q hq
    rw [← wh_le c hd q]
    simp only [decide_eq_true_eq] at this
    omega
  · intro h q hq
    have := (wh_le c hd q).2 (h q hq)
    simp only [decide_eq_true_eq]
    omega
/-- the smallest circle, as the program finds it -/
def smC (ps : List Pt) : Cir := match (circL ps).filter (fun c => !(ps.any fun p => decide (0 < whF c p))) with
  | [] => ⟨0, 0, 0, 0⟩
  | c0 :: cs => minL c0 cs
theorem mem_ovs {ps : List Pt} {i j : Nat} (h : i ≤ j) (hj : j < ps.length) : ovC (ptAt ps i) (ptAt ps j) ∈ circL ps := by
  unfold circL ovB
  refine List.mem_append_left _ (List.mem_append_left _ (List.mem_flatMap.2 ⟨i, List.mem_range.2 (by omega), ?_⟩))
  unfold ovR
  refine List.mem_map.2 ⟨j - i, List.mem_range.2 (by omega), ?_⟩
  rw [show i + (j - i) = j by omega]
theorem mem_ths {ps : List Pt} {i j k : Nat} (h : i < j) (hj : j < k) (hk : k < ps.length) (hd : thD (ptAt ps i) (ptAt ps j) (ptAt ps k) ≠ 0) : thC (ptAt ps i) (ptAt ps j) (ptAt ps k) ∈ circL ps := by
  unfold circL
  refine List.mem_append_right _ (List.mem_flatMap.2 ⟨(i, j, k), mem_trL.2 ⟨h, hj, hk⟩, ?_⟩)
  unfold thT
  rw [if_neg hd]
  simp
theorem circL_cases {ps : List Pt} {c : Cir} (h : c ∈ circL ps) : (∃ i j, i ≤ j ∧ j < ps.length ∧ c = ovC (ptAt ps i) (ptAt ps j)) ∨ ∃ i j k, i < j ∧ j < k ∧ k < ps.length ∧ thD (ptAt ps i) (ptAt ps j) (ptAt ps k) ≠ 0 ∧ c = thC (ptAt ps i) (ptAt ps j) (ptAt ps k) := by
  unfold circL ovB at h
  rcases List.mem_append.1 h with h | h
  · rcases List.mem_append.1 h with h | h
    · obtain ⟨a, ha, h⟩ := List.mem_flatMap.1 h
      unfold ovR at h
      obtain ⟨j, hj, rfl⟩ := List.mem_map.1 h
      rw [List.mem_range] at ha hj
      exact .inl ⟨a, a + j, by omega, by omega, rfl⟩
    · simp [ovR] at h
  · obtain ⟨⟨i, j, k⟩, ht, h⟩ := List.mem_flatMap.1 h
    have ht := mem_trL.1 ht
    unfold thT at h
    dsimp only at h ht
    by_cases hd : thD (ptAt ps i) (ptAt ps j) (ptAt ps k) = 0
    · rw [if_pos hd] at h; cases h
    · rw [if_neg hd] at h
      simp at h
      exact .inr ⟨i, j, k, ht.1, ht.2.1, ht.2.2, hd, h⟩
/-- in lowest terms? -/
def Low (c : Cir) : Prop := 1 ≤ c.D ∧ gcdL 0 [c.X, c.Y, c.D] = 1
theorem gcdL3 (x y d : Int) : gcdL 0 [x, y, d] = Nat.gcd (Nat.gcd x.natAbs y.natAbs) d.natAbs := by simp [gcdL]
theorem low_rnd {x y d : Int} {p : Pt} (hd : d ≠ 0) : Low (rndC x y d p) := by
  refine ⟨rD_pos hd, ?_⟩
  obtain ⟨h1, h2, h3⟩ := r_mul x y d
  have hg := gS_ne (x := x) (y := y) hd
  show gcdL 0 [rX x y d, rY x y d, rD x y d] = 1
  have e : gcdL 0 [x, y, d] = gcdL 0 [rX x y d, rY x y d, rD x y d] * (gS x y d).natAbs := by
    rw [gcdL3, gcdL3]
    have n1 : x.natAbs = (rX x y d).natAbs * (gS x y d).natAbs := by rw [← Int.natAbs_mul, h1]
    have n2 : y.natAbs = (rY x y d).natAbs * (gS x y d).natAbs := by rw [← Int.natAbs_mul, h2]
    have n3 : d.natAbs = (rD x y d).natAbs * (gS x y d).natAbs := by rw [← Int.natAbs_mul, h3]
    generalize (rX x y d).natAbs = u at *
    generalize (rY x y d).natAbs = v at *
    generalize (rD x y d).natAbs = w at *
    generalize (gS x y d).natAbs = g at *
    rw [n1, n2, n3, Nat.gcd_mul_right, Nat.gcd_mul_right]
  have e2 : (gS x y d).natAbs = gcdL 0 [x, y, d] := by
    unfold gS; split <;> simp
  rw [e2] at e
  generalize gcdL 0 [rX x y d, rY x y d, rD x y d] = u at *
  generalize gcdL 0 [x, y, d] = g at *
  have : 0 < g := Nat.pos_of_ne_zero hg.2
  exact Nat.eq_of_mul_eq_mul_right this (by omega)
theorem low_dvd {c c' : Cir} (h : Low c) (_h' : Low c') (hx : c.X * c'.D = c'.X * c.D) (hy : c.Y * c'.D = c'.Y * c.D) : c.D.natAbs ∣ c'.D.natAbs := by
  have e := h.2
  rw [gcdL3] at e
  have k1 : c.D.natAbs ∣ c.X.natAbs * c'.D.natAbs := by rw [← Int.natAbs_mul, hx, Int.natAbs_mul]; exact Nat.dvd_mul_left _ _
  have k2 : c.D.natAbs ∣ c.Y.natAbs * c'.D.natAbs := by rw [← Int.natAbs_mul, hy, Int.natAbs_mul]; exact Nat.dvd_mul_left _ _
  have k3 : c.D.natAbs ∣ c.D.natAbs * c'.D.natAbs := Nat.dvd_mul_right _ _
  have := Nat.dvd_gcd (Nat.dvd_gcd k1 k2) k3
  rw [Nat.gcd_mul_right, Nat.gcd_mul_right, e, Nat.one_mul] at this
  exact this
theorem low_eq {c c' : Cir} (h : Low c) (h' : Low c') (hz : c.Z = c'.Z) (hr : c.ρ = c'.ρ) : c = c' := by
  have d1 := ratD h.1
  have d2 := ratD h'.1
  have z1 : (c.X : Rat) / c.D = (c'.X : Rat) / c'.D := congrArg Prod.fst hz
  have z2 : (c.Y : Rat) / c.D = (c'.Y : Rat) / c'.D := congrArg Prod.snd hz
  have hx : c.X * c'.D = c'.X * c.D := by
    rw [← Rat.intCast_inj, Rat.intCast_mul, Rat.intCast_mul]; grind
  have hy : c.Y * c'.D = c'.Y * c.D := by
    rw [← Rat.intCast_inj, Rat.intCast_mul, Rat.intCast_mul]; grind
  have hd := Nat.dvd_antisymm (low_dvd h h' hx hy) (low_dvd h' h hx.symm hy.symm)
  have hD : c.D = c'.D := by have := h.1; have := h'.1; omega
  have hR : c.R = c'.R := by
    have a := rho_R c h.1
    have b := rho_R c' h'.1
    rw [← Rat.intCast_inj, a, b, hD, hr]
  rw [hD] at hx hy
  have n0 : c'.D ≠ 0 := by have := h'.1; omega
  have hX := Int.eq_of_mul_eq_mul_right n0 hx
  have hY := Int.eq_of_mul_eq_mul_right n0 hy
  obtain ⟨X, Y, D, R⟩ := c
  obtain ⟨X', Y', D', R'⟩ := c'
  dsimp only at *
  subst hX hY hD hR
  rfl
theorem circ_low {ps : List Pt} {c : Cir} (h : c ∈ circL ps) : Low c := by
  rcases circL_cases h with ⟨i, j, _, _, rfl⟩ | ⟨i, j, k, _, _, _, hd, rfl⟩
  · exact low_rnd (by omega)
  · exact low_rnd hd
theorem at_of_mem {ps : List Pt} {p : Pt} (h : p ∈ ps) : ∃ i, i < ps.length ∧ p = ptAt ps i := by
  obtain ⟨i, hi, rfl⟩ := List.getElem_of_mem h
  exact ⟨i, hi, (ptAt_lt hi).symm⟩
theorem th_of {ps : List Pt} {i j k : Nat} {z : Zt} (h : i < j) (hj : j < k) (hk : k < ps.length) (hc : cr (ptAt ps i) (ptAt ps j) (ptAt ps k) ≠ 0)
    (h1 : d2 z (ptAt ps i) = d2 z (ptAt ps j)) (h2 : d2 z (ptAt ps i) = d2 z (ptAt ps k)) : ∃ c ∈ circL ps, c.Z = z ∧ c.ρ = d2 z (ptAt ps i) := by
  have hd := thD_ne.2 hc
  have hz := thC_mid hd h1 h2
  exact ⟨_, mem_ths h hj hk hd, hz, by rw [thC_ρ hd, hz]⟩
theorem cand_circ {ps : List Pt} {z : Zt} {p : Pt} (h : Cand ps z p) : ∃ c ∈ circL ps, c.Z = z ∧ c.ρ = d2 z p := by
  obtain ⟨hp, h⟩ := h
  obtain ⟨i, hi, rfl⟩ := at_of_mem hp
  rcases h with ⟨q, hq, rfl⟩ | ⟨q, hq, r, hr, hc, h1, h2⟩
  · obtain ⟨j, hj, rfl⟩ := at_of_mem hq
    have em : midZ (ptAt ps j) (ptAt ps i) = midZ (ptAt ps i) (ptAt ps j) := by unfold midZ; ext <;> (dsimp only; grind)
    have ed : d2 (midZ (ptAt ps i) (ptAt ps j)) (ptAt ps j) = d2 (midZ (ptAt ps i) (ptAt ps j)) (ptAt ps i) := by unfold d2 midZ; grind
    rcases Nat.le_total i j with h | h
    · exact ⟨_, mem_ovs h hj, ovC_Z _ _, ovC_ρ _ _⟩
    · exact ⟨_, mem_ovs h hi, by rw [ovC_Z, em], by rw [ovC_ρ, em, ed]⟩
  · obtain ⟨j, hj, rfl⟩ := at_of_mem hq
    obtain ⟨k, hk, rfl⟩ := at_of_mem hr
    have nij : i ≠ j := by rintro rfl; exact hc (by unfold cr; grind)
    have nik : i ≠ k := by rintro rfl; exact hc (by unfold cr; grind)
    have njk : j ≠ k := by rintro rfl; exact hc (by unfold cr; grind)
    obtain ⟨s1, s2, s3, s4, s5⟩ := cr_swap (a := ptAt ps i) (b := ptAt ps j) (c := ptAt ps k)
    have go : ∀ a b c, a < b → b < c → c < ps.length → cr (ptAt ps a) (ptAt ps b) (ptAt ps c) ≠ 0 → d2 z (ptAt ps a) = d2 z (ptAt ps b) → d2 z (ptAt ps a) = d2 z (ptAt ps c) → d2 z (ptAt ps a) = d2 z (ptAt ps i) →
        ∃ c ∈ circL ps, c.Z = z ∧ c.ρ = d2 z (ptAt ps i) := by
      intro a b c hab hbc hcl hcr e1 e2 e3
      obtain ⟨c, hc1, hc2, hc3⟩ := th_of hab hbc hcl hcr e1 e2
      exact ⟨c, hc1, hc2, by rw [hc3, e3]⟩
    have hc' : - cr (ptAt ps i) (ptAt ps j) (ptAt ps k) ≠ 0 := by grind
    rcases Nat.lt_or_gt_of_ne nij with a | a
    · rcases Nat.lt_or_gt_of_ne njk with b | b
      · exact go i j k a b hk hc h1 h2 rfl
      · rcases Nat.lt_or_gt_of_ne nik with c | c
        · exact go i k j c b hj (by rw [s1]; exact hc') h2 h1 rfl
        · exact go k i j c a hj (by rw [s4]; exact hc) h2.symm (by rw [← h2, h1]) h2.symm
    · rcases Nat.lt_or_gt_of_ne njk with b | b
      · rcases Nat.lt_or_gt_of_ne nik with c | c
        · exact go j i k a c hk (by rw [s2]; exact hc') h1.symm (by rw [← h1, h2]) h1.symm
        · exact go j k i b c hi (by rw [s3]; exact hc) (by rw [← h1, h2]) h1.symm h1.symm
      · exact go k j i b a hi (by rw [s5]; exact hc') (by rw [← h1, h2]) h2.symm h2.symm
theorem minL_le : ∀ (cs : List Cir) (m : Cir), 1 ≤ m.D → (∀ c ∈ cs, 1 ≤ c.D) → (minL m cs).ρ ≤ m.ρ ∧ ∀ c ∈ cs, (minL m cs).ρ ≤ c.ρ
  | [], m, _, _ => ⟨Rat.le_refl, fun c h => by cases h⟩
  | x :: xs, m, hm, hx => by
    have h : minL m (x :: xs) = minL (if cmpV x m < 0 then x else m) xs := rfl
    rw [h]
    have hx0 := hx x (by simp)
    have hxs : ∀ c ∈ xs, 1 ≤ c.D := fun c hc => hx c (by simp [hc])
    by_cases hc : cmpV x m < 0
    · rw [if_pos hc]
      have := minL_le xs x hx0 hxs
      have hlt := (cmpV_lt hx0 hm).1 hc
      refine ⟨by grind, fun c h => ?_⟩
      rcases List.mem_cons.1 h with rfl | h
      · exact this.1
      · exact this.2 c h
    · rw [if_neg hc]
      have := minL_le xs m hm hxs
      have hge : m.ρ ≤ x.ρ := by
        have := fun k => hc ((cmpV_lt hx0 hm).2 k)
        grind
      refine ⟨this.1, fun c h => ?_⟩
      rcases List.mem_cons.1 h with rfl | h
      · exact Rat.le_trans this.1 hge
      · exact this.2 c h
/-- least among the circles that are tried and hold all points: the best -/
theorem best_of_min {ps : List Pt} (hne : ps ≠ []) {c : Cir} (hc : ∀ q ∈ ps, d2 c.Z q ≤ c.ρ) (hm : ∀ z p, Cand ps z p → (∀ q ∈ ps, d2 z q ≤ d2 z p) → c.ρ ≤ d2 z p) : Best ps c.Z c.ρ := by
  refine ⟨hc, fun y σ hy => ?_⟩
  obtain ⟨p0, hp0, h0⟩ := far_ex y ps hne
  obtain ⟨z', p', h1, h2, h3⟩ := cand_ex ps y p0 hp0 h0
  exact Rat.le_trans (hm z' p' h1 h2) (Rat.le_trans h3 (hy p0 hp0))
theorem sm_filter {ps : List Pt} (hne : ps ≠ []) : ∃ c0 cs, (circL ps).filter (fun c => !(ps.any fun p => decide (0 < whF c p))) = c0 :: cs := by
  obtain ⟨p0, hp0, h0⟩ := far_ex (0, 0) ps hne
  obtain ⟨z', p', h1, h2, h3⟩ := cand_ex ps (0, 0) p0 hp0 h0
  obtain ⟨c, hc, hz, hr⟩ := cand_circ h1
  have : c ∈ (circL ps).filter (fun c => !(ps.any fun p => decide (0 < whF c p))) := List.mem_filter.2 ⟨hc, (holdB_iff (circ_low hc).1).2 (by rw [hz, hr]; exact h2)⟩
  cases h : (circL ps).filter (fun c => !(ps.any fun p => decide (0 < whF c p))) with
  | nil => rw [h] at this; cases this
  | cons a l => exact ⟨a, l, rfl⟩
theorem sm_spec {ps : List Pt} (hne : ps ≠ []) : smC ps ∈ circL ps ∧ Low (smC ps) ∧ Best ps (smC ps).Z (smC ps).ρ := by
  obtain ⟨c0, cs, h⟩ := sm_filter hne
  have e : smC ps = minL c0 cs := by unfold smC; rw [h]
  have hmem : ∀ c, c ∈ c0 :: cs ↔ c ∈ circL ps ∧ holdB ps c = true := fun c => by rw [← h, List.mem_filter]; rfl
  have hin : smC ps ∈ c0 :: cs := by
    rw [e]
    rcases minL_mem cs c0 with h | h
    · rw [h]; simp
    · simp [h]
  obtain ⟨h1, h2⟩ := (hmem _).1 hin
  have hl := circ_low h1
  refine ⟨h1, hl, best_of_min hne ((holdB_iff hl.1).1 h2) fun z p hc hq => ?_⟩
  obtain ⟨c, hcm, hz, hr⟩ := cand_circ hc
  have hcl := circ_low hcm
  have hcin : c ∈ c0 :: cs := (hmem c).2 ⟨hcm, (holdB_iff hcl.1).2 (by rw [hz, hr]; exact hq)⟩
  have hle := minL_le cs c0 (circ_low ((hmem c0).1 (by simp)).1).1 (fun c hc => (circ_low ((hmem c).1 (by simp [hc])).1).1)
  rw [e, ← hr]
  rcases List.mem_cons.1 hcin with rfl | h
  · exact hle.1
  · exact hle.2 c h
theorem sm_unique {ps : List Pt} (hne : ps ≠ []) {c : Cir} (hl : Low c) (h : Best ps c.Z c.ρ) : c = smC ps := by
  obtain ⟨_, h2, h3⟩ := sm_spec hne
  obtain ⟨e1, e2⟩ := best_unique hne h h3
  exact low_eq hl h2 e1 e2
end Go.Proofs.Ytlemipnplgbckaa
namespace Go.Proofs.Ytlemipnplgbckaa
open Go.RowKit Go.Shelf
attribute [local go_sem] Oper.semAt_some
/-- the point a on the circle, and the angle there less than a right one? -/
def shO (c : Cir) (a b d : Pt) : Bool := decide (whF c a = 0) && decide (0 < dt (b.1 - a.1, b.2 - a.2) (d.1 - a.1, d.2 - a.2))
def shB (c : Cir) (p q r : Pt) : Bool := shO c p q r && shO c q r p && shO c r p q
set_option maxRecDepth 100000 in
set_option maxHeartbeats 1000000 in
theorem isSharp_any (c : Cir) (hc : CirB c) (s0 t0 s1 t1 s2 t2 : Int) (g : Nat) (w : World) (h0 : Bd 20 s0 ∧ Bd 20 t0) (h1 : Bd 20 s1 ∧ Bd 20 t1) (h2 : Bd 20 s2 ∧ Bd 20 t2)
    (hr : Row w g 28 [.int .i64 s0, .int .i64 t0, .int .i64 s1, .int .i64 t1, .int .i64 s2, .int .i64 t2]) :
    Calls Try.prog 88 #[.agg #[.int .i64 c.X, .int .i64 c.Y, .int .i64 c.D, .int .i64 c.R], .slice (some ⟨g, 0, none⟩) 3 3] w fun e w' => e = .returned (.bool (shB c (s0, t0) (s1, t1) (s2, t2))) ∧ Below w.heap.size w w' := by
  have W0 := Lib.hid (fun (W : World) => where_any c.X c.Y c.D c.R s0 t0 W hc.1 hc.2.1 hc.d h0.1 h0.2)
  have W1 := Lib.hid (fun (W : World) => where_any c.X c.Y c.D c.R s1 t1 W hc.1 hc.2.1 hc.d h1.1 h1.2)
  have W2 := Lib.hid (fun (W : World) => where_any c.X c.Y c.D c.R s2 t2 W hc.1 hc.2.1 hc.d h2.1 h2.2)
  have HM := Lib.hid (fun (a b a' b' : Int) (W : World) (h : Bd 20 a ∧ Bd 20 b) (h' : Bd 20 a' ∧ Bd 20 b') => minus_any a b a' b' W (h.1.mono (by omega)) (h.2.mono (by omega)) (h'.1.mono (by omega)) (h'.2.mono (by omega)))
  have HDT := Lib.hid (fun (a b a' b' : Int) (W : World) (h : Bd 40 a ∧ Bd 40 b) (h' : Bd 40 a' ∧ Bd 40 b') => dot_any a b a' b' W (h.1.mono (by omega)) (h.2.mono (by omega)) (h'.1.mono (by omega)) (h'.2.mono (by omega)))
  have K := Lib.hid (And.intro h0 (And.intro h1 h2))
  obtain ⟨S0, hS0⟩ : ∃ S, shO c (s0, t0) (s1, t1) (s2, t2) = S := ⟨_, rfl⟩
  obtain ⟨S1, hS1⟩ : ∃ S, shO c (s1, t1) (s2, t2) (s0, t0) = S := ⟨_, rfl⟩
  obtain ⟨S2, hS2⟩ : ∃ S, shO c (s2, t2) (s0, t0) (s1, t1) = S := ⟨_, rfl⟩
  unfold shB
  rw [hS0, hS1, hS2]
  unfold shO whF at hS0 hS1 hS2
  dsimp only at hS0 hS1 hS2
  generalize cmpI (apF c.X c.Y c.D (s0, t0)) c.R = m0 at *
  generalize cmpI (apF c.X c.Y c.D (s1, t1)) c.R = m1 at *
  generalize cmpI (apF c.X c.Y c.D (s2, t2)) c.R = m2 at *
  obtain ⟨D0, hD0⟩ : ∃ D, dt (s1 - s0, t1 - t0) (s2 - s0, t2 - t0) = D := ⟨_, rfl⟩
  rw [hD0] at hS0
  have T0 := Lib.hid (fun (W : World) => hD0 ▸ HDT.out (s1 - s0) (t1 - t0) (s2 - s0) (t2 - t0) W ⟨K.out.2.1.1.sub K.out.1.1, K.out.2.1.2.sub K.out.1.2⟩ ⟨K.out.2.2.1.sub K.out.1.1, K.out.2.2.2.sub K.out.1.2⟩)
  have M0 := Lib.hid (fun (W : World) => HM.out s1 t1 s0 t0 W K.out.2.1 K.out.1)
  have N0 := Lib.hid (fun (W : World) => HM.out s2 t2 s0 t0 W K.out.2.2 K.out.1)
  have HS0 := Lib.hid hS0
  clear hS0 hD0
  obtain ⟨D1, hD1⟩ : ∃ D, dt (s2 - s1, t2 - t1) (s0 - s1, t0 - t1) = D := ⟨_, rfl⟩
  rw [hD1] at hS1
  have T1 := Lib.hid (fun (W : World) => hD1 ▸ HDT.out (s2 - s1) (t2 - t1) (s0 - s1) (t0 - t1) W ⟨K.out.2.2.1.sub K.out.2.1.1, K.out.2.2.2.sub K.out.2.1.2⟩ ⟨K.out.1.1.sub K.out.2.1.1, K.out.1.2.sub K.out.2.1.2⟩)
  have M1 := Lib.hid (fun (W : World) => HM.out s2 t2 s1 t1 W K.out.2.2 K.out.2.1)
  have N1 := Lib.hid (fun (W : World) => HM.out s0 t0 s1 t1 W K.out.1 K.out.2.1)
  have HS1 := Lib.hid hS1
  clear hS1 hD1
  obtain ⟨D2, hD2⟩ : ∃ D, dt (s0 - s2, t0 - t2) (s1 - s2, t1 - t2) = D := ⟨_, rfl⟩
  rw [hD2] at hS2
  have T2 := Lib.hid (fun (W : World) => hD2 ▸ HDT.out (s0 - s2) (t0 - t2) (s1 - s2) (t1 - t2) W ⟨K.out.1.1.sub K.out.2.2.1, K.out.1.2.sub K.out.2.2.2⟩ ⟨K.out.2.1.1.sub K.out.2.2.1, K.out.2.1.2.sub K.out.2.2.2⟩)
  have M2 := Lib.hid (fun (W : World) => HM.out s0 t0 s2 t2 W K.out.1 K.out.2.2)
  have N2 := Lib.hid (fun (W : World) => HM.out s1 t1 s2 t2 W K.out.2.1 K.out.2.2)
  have HS2 := Lib.hid hS2
  clear hS2 hD2
  clear HM HDT K h0 h1 h2
  have ba := Below.al (Below.refl w.heap.size w) (Nat.le_refl _) (.cells #[.int .i64 c.X, .int .i64 c.Y, .int .i64 c.D, .int .i64 c.R] 30)
  have rC := Row.new w 30 [.int .i64 c.X, .int .i64 c.Y, .int .i64 c.D, .int .i64 c.R]
  have rG := hr.below ba hr.lt
  obtain ⟨c1, c2, c3, c4⟩ := c
  dsimp only at *
  have BA := Lib.hid ba
  have RC := Lib.hid rC
  have RG := Lib.hid rG
  clear ba rC rG hr hc
  go_enter Try.func88, Try.ntmps88
  go_wp2_with fail
  obtain ⟨V, hV⟩ : ∃ V, V = w.alloc (.cells #[.int .i64 c1, .int .i64 c2, .int .i64 c3, .int .i64 c4] 30) := ⟨_, rfl⟩
  replace RC : Hid (Row V w.heap.size 30 [.int .i64 c1, .int .i64 c2, .int .i64 c3, .int .i64 c4]) := by rw [hV]; exact RC
  replace RG : Hid (Row V g 28 [.int .i64 s0, .int .i64 t0, .int .i64 s1, .int .i64 t1, .int .i64 s2, .int .i64 t2]) := by rw [hV]; exact RG
  replace BA : Hid (Below w.heap.size w V) := by rw [hV]; exact BA
  rw [← hV]
  clear hV
  go_loopw [11] (fun iv wr => ∃ k : Nat, k ≤ 3 ∧ iv = .int .i64 (k : Int) ∧ Hid ((1 ≤ k → S0 = true) ∧ (2 ≤ k → S1 = true) ∧ (3 ≤ k → S2 = true) ∧ Below V.heap.size V wr)) (fun iv _ => (3 - intOf iv).toNat)
  case atStart => exact ⟨0, by omega, rfl, Lib.hid ⟨by omega, by omega, by omega, Below.refl _ _⟩⟩
  case round =>
    obtain ⟨k, hk, rfl, HB⟩ := hrel
    have RC2 := Lib.hid (RC.out.below HB.out.2.2.2 RC.out.lt)
    have RG2 := Lib.hid (RG.out.below HB.out.2.2.2 RG.out.lt)
    have rg := RG2.out
    have k0 := rg.cell 0
    have k1 := rg.cell 1
    have k2 := rg.cell 2
    have k3 := rg.cell 3
    have k4 := rg.cell 4
    have k5 := rg.cell 5
    simp only [List.getElem?_cons_zero, List.getElem?_cons_succ] at k0 k1 k2 k3 k4 k5
    clear rg
    obtain rfl | rfl | rfl | rfl : k = 0 ∨ k = 1 ∨ k = 2 ∨ k = 3 := by omega
    · go_wp2_with fail
      have rB := Row.new wr 28 [.int .i64 s0, .int .i64 t0]
      have bB := Below.al (Below.refl wr.heap.size wr) (Nat.le_refl _) (.cells #[.int .i64 s0, .int .i64 t0] 28)
      have RB := Lib.hid rB
      have BB := Lib.hid bB
      have RC3 := Lib.hid (RC2.out.below bB RC2.out.lt)
      have RG3 := Lib.hid (RG2.out.below bB RG2.out.lt)
      clear rB bB k0 k1 k2 k3 k4 k5
      obtain ⟨U, hU⟩ : ∃ V, V = wr.alloc (.cells #[.int .i64 s0, .int .i64 t0] 28) := ⟨_, rfl⟩
      rw [← hU] at RB BB RC3 RG3 ⊢
      clear hU
      refine wp_region_box (by kernel_rfl) (by kernel_rfl) [16, 17, 18, 19, 20, 21, 22, 23, 24, 25, 26, 27, 7, 8, 1000, 1001] [(fun v => v = .slice (some ⟨g, 0, none⟩) 3 3), (fun v => v = .int .i64 0), (fun v => v = .int .i64 1), (fun v => v = .int .i64 1), (fun v => v = .pointer (some ⟨g, 2, none⟩)), (fun v => v = .agg #[.int .i64 s1, .int .i64 t1]), (fun v => v = .slice (some ⟨g, 0, none⟩) 3 3), (fun v => v = .int .i64 0), (fun v => v = .int .i64 2), (fun v => v = .int .i64 2), (fun v => v = .pointer (some ⟨g, 4, none⟩)), (fun v => v = .agg #[.int .i64 s2, .int .i64 t2]), (fun _ => True), (fun _ => True), (fun _ => True), (fun _ => True)] [none, none, none, none, none, none, none, none, none, none, none, none, some (28, [.int .i64 0, .int .i64 0], [.int .i64 s1, .int .i64 t1]), some (28, [.int .i64 0, .int .i64 0], [.int .i64 s2, .int .i64 t2]), none, none] [none, none, none, none, none, none, none, none, none, none, none, none, none, none, some 12, some 13] 16 rfl (by kernel_rfl) ?tr ⟨[u16, u17, u18, u19, u20, u21, u22, u23, u24, u25, u26, u27, u7, u8, undef, undef], by simp only [putAll, Act.put, List.setIfInBounds_toArray, List.set_cons_succ, List.set_cons_zero, List.set_nil], rfl⟩ ?steps ?fin
      case tr =>
        rintro i v h
        rcases i with _ | _ | _ | _ | _ | _ | _ | _ | _ | _ | _ | _ | _ | _ | _ | _ | i
        all_goals first | trivial | (exfalso; rcases h with h | h <;> simp at h)
      case steps =>
        simp only [boxSteps, Nat.reduceAdd, Nat.zero_add, List.getD_cons_succ, List.getD_cons_zero]
        refine ⟨?_, ?_, ?_, ?_, ?_, ?_, ?_, ?_, ?_, ?_, ?_, ?_, ?_, ?_, ?_, ?_, trivial⟩
        · rintro vs W K hc hvl hw hK
          obtain ⟨x0, x1, x2, x3, x4, x5, x6, x7, x8, x9, x10, x11, x12, x13, x14, x15, rfl⟩ := len16 hvl
          have HK := Lib.hid hK
          have HC := Lib.hid hc
          have HW := Lib.hid hw
          clear hK hc hw hvl
          simp only [putAll, Act.put, List.setIfInBounds_toArray, List.set_cons_succ, List.set_cons_zero, List.set_nil]
          clear HW
          go_wp2_with fail
          have fin := HK.out (.slice (some ⟨g, 0, none⟩) 3 3) W (Below.refl _ _) rfl
          simp only [putAll, Act.put, List.setIfInBounds_toArray, List.set_cons_succ, List.set_cons_zero, List.set_nil] at fin
          exact fin
        · rintro vs W K hc hvl hw hK
          obtain ⟨x0, x1, x2, x3, x4, x5, x6, x7, x8, x9, x10, x11, x12, x13, x14, x15, rfl⟩ := len16 hvl
          have HK := Lib.hid hK
          have HC := Lib.hid hc
          have HW := Lib.hid hw
          clear hK hc hw hvl
          simp only [putAll, Act.put, List.setIfInBounds_toArray, List.set_cons_succ, List.set_cons_zero, List.set_nil]
          clear HW
          go_wp2_with fail
          have fin := HK.out (.int .i64 0) W (Below.refl _ _) rfl
          simp only [putAll, Act.put, List.setIfInBounds_toArray, List.set_cons_succ, List.set_cons_zero, List.set_nil] at fin
          exact fin
        · rintro vs W K hc hvl hw hK
          obtain ⟨x0, x1, x2, x3, x4, x5, x6, x7, x8, x9, x10, x11, x12, x13, x14, x15, rfl⟩ := len16 hvl
          have HK := Lib.hid hK
          have HC := Lib.hid hc
          have HW := Lib.hid hw
          clear hK hc hw hvl
          obtain rfl : x1 = .int .i64 0 := box_get (HW.out ⟨1, .data⟩ (by simp) rfl) rfl
          simp only [putAll, Act.put, List.setIfInBounds_toArray, List.set_cons_succ, List.set_cons_zero, List.set_nil]
          clear HW
          go_wp2_with fail
          have fin := HK.out (.int .i64 1) W (Below.refl _ _) rfl
          simp only [putAll, Act.put, List.setIfInBounds_toArray, List.set_cons_succ, List.set_cons_zero, List.set_nil] at fin
          exact fin
        · rintro vs W K hc hvl hw hK
          obtain ⟨x0, x1, x2, x3, x4, x5, x6, x7, x8, x9, x10, x11, x12, x13, x14, x15, rfl⟩ := len16 hvl
          have HK := Lib.hid hK
          have HC := Lib.hid hc
          have HW := Lib.hid hw
          clear hK hc hw hvl
          obtain rfl : x2 = .int .i64 1 := box_get (HW.out ⟨2, .data⟩ (by simp) rfl) rfl
          simp only [putAll, Act.put, List.setIfInBounds_toArray, List.set_cons_succ, List.set_cons_zero, List.set_nil]
          clear HW
          go_wp2_with fail
          have fin := HK.out (.int .i64 1) W (Below.refl _ _) rfl
          simp only [putAll, Act.put, List.setIfInBounds_toArray, List.set_cons_succ, List.set_cons_zero, List.set_nil] at fin
          exact fin
        · rintro vs W K hc hvl hw hK
          obtain ⟨x0, x1, x2, x3, x4, x5, x6, x7, x8, x9, x10, x11, x12, x13, x14, x15, rfl⟩ := len16 hvl
          have HK := Lib.hid hK
          have HC := Lib.hid hc
          have HW := Lib.hid hw
          clear hK hc hw hvl
          obtain rfl : x0 = .slice (some ⟨g, 0, none⟩) 3 3 := box_get (HW.out ⟨0, .data⟩ (by simp) rfl) rfl
          obtain rfl : x3 = .int .i64 1 := box_get (HW.out ⟨3, .data⟩ (by simp) rfl) rfl
          simp only [putAll, Act.put, List.setIfInBounds_toArray, List.set_cons_succ, List.set_cons_zero, List.set_nil]
          clear HW
          go_wp2_with fail
          have fin := HK.out (.pointer (some ⟨g, 2, none⟩)) W (Below.refl _ _) rfl
          simp only [putAll, Act.put, List.setIfInBounds_toArray, List.set_cons_succ, List.set_cons_zero, List.set_nil] at fin
          exact fin
        · rintro vs W K hc hvl hw hK
          obtain ⟨x0, x1, x2, x3, x4, x5, x6, x7, x8, x9, x10, x11, x12, x13, x14, x15, rfl⟩ := len16 hvl
          have HK := Lib.hid hK
          have HC := Lib.hid hc
          have HW := Lib.hid hw
          clear hK hc hw hvl
          obtain rfl : x4 = .pointer (some ⟨g, 2, none⟩) := box_get (HW.out ⟨4, .data⟩ (by simp) rfl) rfl
          simp only [putAll, Act.put, List.setIfInBounds_toArray, List.set_cons_succ, List.set_cons_zero, List.set_nil]
          have rr := RG3.out.below HC.out RG3.out.lt
          have d2 := rr.cell 2
          have d3 := rr.cell 3
          simp only [List.getElem?_cons_zero, List.getElem?_cons_succ] at d2 d3
          clear rr
          clear HW
          go_wp2_with fail
          have fin := HK.out (.agg #[.int .i64 s1, .int .i64 t1]) W (Below.refl _ _) rfl
          simp only [putAll, Act.put, List.setIfInBounds_toArray, List.set_cons_succ, List.set_cons_zero, List.set_nil] at fin
          exact fin
        · rintro vs W K hc hvl hw hK
          obtain ⟨x0, x1, x2, x3, x4, x5, x6, x7, x8, x9, x10, x11, x12, x13, x14, x15, rfl⟩ := len16 hvl
          have HK := Lib.hid hK
          have HC := Lib.hid hc
          have HW := Lib.hid hw
          clear hK hc hw hvl
          simp only [putAll, Act.put, List.setIfInBounds_toArray, List.set_cons_succ, List.set_cons_zero, List.set_nil]
          clear HW
          go_wp2_with fail
          have fin := HK.out (.slice (some ⟨g, 0, none⟩) 3 3) W (Below.refl _ _) rfl
          simp only [putAll, Act.put, List.setIfInBounds_toArray, List.set_cons_succ, List.set_cons_zero, List.set_nil] at fin
          exact fin
        · rintro vs W K hc hvl hw hK
          obtain ⟨x0, x1, x2, x3, x4, x5, x6, x7, x8, x9, x10, x11, x12, x13, x14, x15, rfl⟩ := len16 hvl
          have HK := Lib.hid hK
          have HC := Lib.hid hc
          have HW := Lib.hid hw
          clear hK hc hw hvl
          simp only [putAll, Act.put, List.setIfInBounds_toArray, List.set_cons_succ, List.set_cons_zero, List.set_nil]
          clear HW
          go_wp2_with fail
          have fin := HK.out (.int .i64 0) W (Below.refl _ _) rfl
          simp only [putAll, Act.put, List.setIfInBounds_toArray, List.set_cons_succ, List.set_cons_zero, List.set_nil] at fin
          exact fin
        · rintro vs W K hc hvl hw hK
          obtain ⟨x0, x1, x2, x3, x4, x5, x6, x7, x8, x9, x10, x11, x12, x13, x14, x15, rfl⟩ := len16 hvl
          have HK := Lib.hid hK
          have HC := Lib.hid hc
          have HW := Lib.hid hw
          clear hK hc hw hvl
          obtain rfl : x7 = .int .i64 0 := box_get (HW.out ⟨7, .data⟩ (by simp) rfl) rfl
          simp only [putAll, Act.put, List.setIfInBounds_toArray, List.set_cons_succ, List.set_cons_zero, List.set_nil]
          clear HW
          go_wp2_with fail
          have fin := HK.out (.int .i64 2) W (Below.refl _ _) rfl
          simp only [putAll, Act.put, List.setIfInBounds_toArray, List.set_cons_succ, List.set_cons_zero, List.set_nil] at fin
          exact fin
        · rintro vs W K hc hvl hw hK
          obtain ⟨x0, x1, x2, x3, x4, x5, x6, x7, x8, x9, x10, x11, x12, x13, x14, x15, rfl⟩ := len16 hvl
          have HK := Lib.hid hK
          have HC := Lib.hid hc
          have HW := Lib.hid hw
          clear hK hc hw hvl
          obtain rfl : x8 = .int .i64 2 := box_get (HW.out ⟨8, .data⟩ (by simp) rfl) rfl
          simp only [putAll, Act.put, List.setIfInBounds_toArray, List.set_cons_succ, List.set_cons_zero, List.set_nil]
          clear HW
          go_wp2_with fail
          have fin := HK.out (.int .i64 2) W (Below.refl _ _) rfl
          simp only [putAll, Act.put, List.setIfInBounds_toArray, List.set_cons_succ, List.set_cons_zero, List.set_nil] at fin
          exact fin
        · rintro vs W K hc hvl hw hK
          obtain ⟨x0, x1, x2, x3, x4, x5, x6, x7, x8, x9, x10, x11, x12, x13, x14, x15, rfl⟩ := len16 hvl
          have HK := Lib.hid hK
          have HC := Lib.hid hc
          have HW := Lib.hid hw
          clear hK hc hw hvl
          obtain rfl : x6 = .slice (some ⟨g, 0, none⟩) 3 3 := box_get (HW.out ⟨6, .data⟩ (by simp) rfl) rfl
          obtain rfl : x9 = .int .i64 2 := box_get (HW.out ⟨9, .data⟩ (by simp) rfl) rfl
          simp only [putAll, Act.put, List.setIfInBounds_toArray, List.set_cons_succ, List.set_cons_zero, List.set_nil]
          clear HW
          go_wp2_with fail
          have fin := HK.out (.pointer (some ⟨g, 4, none⟩)) W (Below.refl _ _) rfl
          simp only [putAll, Act.put, List.setIfInBounds_toArray, List.set_cons_succ, List.set_cons_zero, List.set_nil] at fin
          exact fin
        · rintro vs W K hc hvl hw hK
          obtain ⟨x0, x1, x2, x3, x4, x5, x6, x7, x8, x9, x10, x11, x12, x13, x14, x15, rfl⟩ := len16 hvl
          have HK := Lib.hid hK
          have HC := Lib.hid hc
          have HW := Lib.hid hw
          clear hK hc hw hvl
          obtain rfl : x10 = .pointer (some ⟨g, 4, none⟩) := box_get (HW.out ⟨10, .data⟩ (by simp) rfl) rfl
          simp only [putAll, Act.put, List.setIfInBounds_toArray, List.set_cons_succ, List.set_cons_zero, List.set_nil]
          have rr := RG3.out.below HC.out RG3.out.lt
          have d4 := rr.cell 4
          have d5 := rr.cell 5
          simp only [List.getElem?_cons_zero, List.getElem?_cons_succ] at d4 d5
          clear rr
          clear HW
          go_wp2_with fail
          have fin := HK.out (.agg #[.int .i64 s2, .int .i64 t2]) W (Below.refl _ _) rfl
          simp only [putAll, Act.put, List.setIfInBounds_toArray, List.set_cons_succ, List.set_cons_zero, List.set_nil] at fin
          exact fin
        · rintro vs W K hc hvl hw hK
          obtain ⟨x0, x1, x2, x3, x4, x5, x6, x7, x8, x9, x10, x11, x12, x13, x14, x15, rfl⟩ := len16 hvl
          have HK := Lib.hid hK
          have HC := Lib.hid hc
          have HW := Lib.hid hw
          clear hK hc hw hvl
          simp only [putAll, Act.put, List.setIfInBounds_toArray, List.set_cons_succ, List.set_cons_zero, List.set_nil]
          clear HW
          go_wp2_with fail
          have fin := HK.out
          simp only [putAll, Act.put, List.setIfInBounds_toArray, List.set_cons_succ, List.set_cons_zero, List.set_nil] at fin
          exact fin
        · rintro vs W K hc hvl hw hK
          obtain ⟨x0, x1, x2, x3, x4, x5, x6, x7, x8, x9, x10, x11, x12, x13, x14, x15, rfl⟩ := len16 hvl
          have HK := Lib.hid hK
          have HC := Lib.hid hc
          have HW := Lib.hid hw
          clear hK hc hw hvl
          simp only [putAll, Act.put, List.setIfInBounds_toArray, List.set_cons_succ, List.set_cons_zero, List.set_nil]
          clear HW
          go_wp2_with fail
          have fin := HK.out
          simp only [putAll, Act.put, List.setIfInBounds_toArray, List.set_cons_succ, List.set_cons_zero, List.set_nil] at fin
          exact fin
        · rintro vs W K hc hvl hw b E z f hia hva hb0 hr hK
          cases hia
          obtain ⟨x0, x1, x2, x3, x4, x5, x6, x7, x8, x9, x10, x11, x12, x13, x14, x15, rfl⟩ := len16 hvl
          have HK := Lib.hid hK
          have HC := Lib.hid hc
          have HW := Lib.hid hw
          clear hK hc hw hvl
          obtain rfl : x5 = .agg #[.int .i64 s1, .int .i64 t1] := box_get (HW.out ⟨5, .data⟩ (by simp) rfl) rfl
          obtain rfl : x12 = .pointer (some ⟨b, 0, none⟩) := Option.some.inj hva
          simp only [putAll, Act.put, List.setIfInBounds_toArray, List.set_cons_succ, List.set_cons_zero, List.set_nil]
          have kf0 := frozen_of_row W b 0 _ _ hr
          have kc0 : W.cell? ⟨b, 0, none⟩ = some (.int .i64 0) := hr.cell 0
          have kf1 := frozen_of_row W b 1 _ _ hr
          have kc1 : W.cell? ⟨b, 1, none⟩ = some (.int .i64 0) := hr.cell 1
          have HRW := Lib.hid hr
          clear HW hr hva
          go_wp2_with fail
          have fin := HK.out _ (show Row _ b 28 [.int .i64 s1, .int .i64 t1] from by simpa using (show Row _ b 28 _ from ((HRW.out.set 0 (.int .i64 s1)).set 1 (.int .i64 t1)))) (grown_put (grown_put (grown_self W _)))
          simp only [putAll, Act.put, List.setIfInBounds_toArray, List.set_cons_succ, List.set_cons_zero, List.set_nil] at fin
          exact fin
        · rintro vs W K hc hvl hw b E z f hia hva hb0 hr hK
          cases hia
          obtain ⟨x0, x1, x2, x3, x4, x5, x6, x7, x8, x9, x10, x11, x12, x13, x14, x15, rfl⟩ := len16 hvl
          have HK := Lib.hid hK
          have HC := Lib.hid hc
          have HW := Lib.hid hw
          clear hK hc hw hvl
          obtain rfl : x11 = .agg #[.int .i64 s2, .int .i64 t2] := box_get (HW.out ⟨11, .data⟩ (by simp) rfl) rfl
          obtain rfl : x13 = .pointer (some ⟨b, 0, none⟩) := Option.some.inj hva
          simp only [putAll, Act.put, List.setIfInBounds_toArray, List.set_cons_succ, List.set_cons_zero, List.set_nil]
          have kf0 := frozen_of_row W b 0 _ _ hr
          have kc0 : W.cell? ⟨b, 0, none⟩ = some (.int .i64 0) := hr.cell 0
          have kf1 := frozen_of_row W b 1 _ _ hr
          have kc1 : W.cell? ⟨b, 1, none⟩ = some (.int .i64 0) := hr.cell 1
          have HRW := Lib.hid hr
          clear HW hr hva
          go_wp2_with fail
          have fin := HK.out _ (show Row _ b 28 [.int .i64 s2, .int .i64 t2] from by simpa using (show Row _ b 28 _ from ((HRW.out.set 0 (.int .i64 s2)).set 1 (.int .i64 t2)))) (grown_put (grown_put (grown_self W _)))
          simp only [putAll, Act.put, List.setIfInBounds_toArray, List.set_cons_succ, List.set_cons_zero, List.set_nil] at fin
          exact fin
      case fin =>
        rintro vs W hJ
        obtain ⟨x0, x1, x2, x3, x4, x5, x6, x7, x8, x9, x10, x11, x12, x13, x14, x15, rfl⟩ := len16 hJ.ln
        obtain rfl : x0 = .slice (some ⟨g, 0, none⟩) 3 3 := box_get (hJ.val 0 rfl) rfl
        obtain rfl : x1 = .int .i64 0 := box_get (hJ.val 1 rfl) rfl
        obtain rfl : x2 = .int .i64 1 := box_get (hJ.val 2 rfl) rfl
        obtain rfl : x3 = .int .i64 1 := box_get (hJ.val 3 rfl) rfl
        obtain rfl : x4 = .pointer (some ⟨g, 2, none⟩) := box_get (hJ.val 4 rfl) rfl
        obtain rfl : x5 = .agg #[.int .i64 s1, .int .i64 t1] := box_get (hJ.val 5 rfl) rfl
        obtain rfl : x6 = .slice (some ⟨g, 0, none⟩) 3 3 := box_get (hJ.val 6 rfl) rfl
        obtain rfl : x7 = .int .i64 0 := box_get (hJ.val 7 rfl) rfl
        obtain rfl : x8 = .int .i64 2 := box_get (hJ.val 8 rfl) rfl
        obtain rfl : x9 = .int .i64 2 := box_get (hJ.val 9 rfl) rfl
        obtain rfl : x10 = .pointer (some ⟨g, 4, none⟩) := box_get (hJ.val 10 rfl) rfl
        obtain rfl : x11 = .agg #[.int .i64 s2, .int .i64 t2] := box_get (hJ.val 11 rfl) rfl
        obtain ⟨b12, e12, hb12, hr12⟩ := hJ.box 12 _ _ _ rfl rfl
        obtain rfl : x12 = .pointer (some ⟨b12, 0, none⟩) := Option.some.inj e12
        replace hr12 : Row W b12 28 [.int .i64 s1, .int .i64 t1] := hr12
        have HR12 := Lib.hid hr12
        clear e12 hr12
        obtain ⟨b13, e13, hb13, hr13⟩ := hJ.box 13 _ _ _ rfl rfl
        obtain rfl : x13 = .pointer (some ⟨b13, 0, none⟩) := Option.some.inj e13
        replace hr13 : Row W b13 28 [.int .i64 s2, .int .i64 t2] := hr13
        have HR13 := Lib.hid hr13
        clear e13 hr13
        have HC := Lib.hid hJ.bl
        clear hJ
        simp only [putAll, Act.put, List.setIfInBounds_toArray, List.set_cons_succ, List.set_cons_zero, List.set_nil]
        have HC4 := HC
        clear HC
        have RC4 := Lib.hid (RC3.out.below HC4.out RC3.out.lt)
        have RB4 := Lib.hid (RB.out.below HC4.out RB.out.lt)
        clear RC3 RG3 RC2 RG2
        go_wp2_with fail
        obtain ⟨E, hE⟩ : ∃ E, decide (D0 ≤ 0) = E := ⟨_, rfl⟩
        have HE := Lib.hid hE
        clear hE
        cases hm : (m0 != 0) with
        | true =>
          refine wp_region_box (by kernel_rfl) (by kernel_rfl) [28, 29, 30, 31, 32, 33, 34, 35, 36, 37, 38, 39, 40, 41] [(fun v => v = .agg #[.int .i64 c1, .int .i64 c2, .int .i64 c3, .int .i64 c4]), (fun v => v = .agg #[.int .i64 s0, .int .i64 t0]), (fun v => v = .int .i64 m0), (fun v => v = .bool true), (fun v => v = .bool true), (fun v => v = undef), (fun v => v = undef), (fun v => v = undef), (fun v => v = undef), (fun v => v = undef), (fun v => v = undef), (fun v => v = undef), (fun v => v = undef), (fun v => v = .bool true)] [none, none, none, none, none, none, none, none, none, none, none, none, none, none] [none, none, none, none, none, none, none, none, none, none, none, none, none, none] 14 rfl (by kernel_rfl) ?tr ⟨[u28, u29, u30, u31, u32, u33, u34, u35, u36, u37, u38, u39, u40, u41], by simp only [putAll, Act.put, List.setIfInBounds_toArray, List.set_cons_succ, List.set_cons_zero], rfl⟩ ?steps ?fin
          case tr =>
            rintro i v h
            rcases i with _ | _ | _ | _ | _ | _ | _ | _ | _ | _ | _ | _ | _ | _ | i
            all_goals first | trivial | (exfalso; rcases h with h | h <;> simp at h)
          case steps =>
            simp only [boxSteps, Nat.reduceAdd, Nat.zero_add, List.getD_cons_succ, List.getD_cons_zero]
            refine ⟨?_, ?_, ?_, ?_, ?_, ?_, ?_, ?_, ?_, ?_, ?_, ?_, ?_, ?_, trivial⟩
            · rintro vs W K hc hvl hw hK
              obtain ⟨x0, x1, x2, x3, x4, x5, x6, x7, x8, x9, x10, x11, x12, x13, rfl⟩ := len14 hvl
              have HK := Lib.hid hK
              have HC := Lib.hid hc
              have HW := Lib.hid hw
              clear hK hc hw hvl
              simp only [putAll, Act.put, List.setIfInBounds_toArray, List.set_cons_succ, List.set_cons_zero]
              have rr := RC4.out.below HC.out RC4.out.lt
              have d0 := rr.cell 0
              have d1 := rr.cell 1
              have d2 := rr.cell 2
              have d3 := rr.cell 3
              simp only [List.getElem?_cons_zero, List.getElem?_cons_succ] at d0 d1 d2 d3
              clear rr
              clear HW
              go_wp2_with fail
              have fin := HK.out (.agg #[.int .i64 c1, .int .i64 c2, .int .i64 c3, .int .i64 c4]) W (Below.refl _ _) rfl
              simp only [putAll, Act.put, List.setIfInBounds_toArray, List.set_cons_succ, List.set_cons_zero] at fin
              exact fin
            · rintro vs W K hc hvl hw hK
              obtain ⟨x0, x1, x2, x3, x4, x5, x6, x7, x8, x9, x10, x11, x12, x13, rfl⟩ := len14 hvl
              have HK := Lib.hid hK
              have HC := Lib.hid hc
              have HW := Lib.hid hw
              clear hK hc hw hvl
              simp only [putAll, Act.put, List.setIfInBounds_toArray, List.set_cons_succ, List.set_cons_zero]
              have rr := RB4.out.below HC.out RB4.out.lt
              have d0 := rr.cell 0
              have d1 := rr.cell 1
              simp only [List.getElem?_cons_zero, List.getElem?_cons_succ] at d0 d1
              clear rr
              clear HW
              go_wp2_with fail
              have fin := HK.out (.agg #[.int .i64 s0, .int .i64 t0]) W (Below.refl _ _) rfl
              simp only [putAll, Act.put, List.setIfInBounds_toArray, List.set_cons_succ, List.set_cons_zero] at fin
              exact fin
            · rintro vs W K hc hvl hw hK
              obtain ⟨x0, x1, x2, x3, x4, x5, x6, x7, x8, x9, x10, x11, x12, x13, rfl⟩ := len14 hvl
              have HK := Lib.hid hK
              have HC := Lib.hid hc
              have HW := Lib.hid hw
              clear hK hc hw hvl
              obtain rfl : x0 = .agg #[.int .i64 c1, .int .i64 c2, .int .i64 c3, .int .i64 c4] := box_get (HW.out ⟨0, .data⟩ (by simp) rfl) rfl
              obtain rfl : x1 = .agg #[.int .i64 s0, .int .i64 t0] := box_get (HW.out ⟨1, .data⟩ (by simp) rfl) rfl
              simp only [putAll, Act.put, List.setIfInBounds_toArray, List.set_cons_succ, List.set_cons_zero]
              clear HW
              go_wp2_with fail
              refine (W0.out W).mono ?_
              rintro e W' ⟨rfl, hb'⟩
              have HB' := Lib.hid hb'
              clear hb'
              go_wp2_with fail
              have fin := HK.out (.int .i64 m0) W' HB'.out rfl
              simp only [putAll, Act.put, List.setIfInBounds_toArray, List.set_cons_succ, List.set_cons_zero] at fin
              exact fin
            · rintro vs W K hc hvl hw hK
              obtain ⟨x0, x1, x2, x3, x4, x5, x6, x7, x8, x9, x10, x11, x12, x13, rfl⟩ := len14 hvl
              have HK := Lib.hid hK
              have HC := Lib.hid hc
              have HW := Lib.hid hw
              clear hK hc hw hvl
              obtain rfl : x2 = .int .i64 m0 := box_get (HW.out ⟨2, .data⟩ (by simp) rfl) rfl
              simp only [putAll, Act.put, List.setIfInBounds_toArray, List.set_cons_succ, List.set_cons_zero]
              clear HW
              go_wp2_with fail
              have fin := HK.out (.bool true) W (Below.refl _ _) rfl
              simp only [putAll, Act.put, List.setIfInBounds_toArray, List.set_cons_succ, List.set_cons_zero] at fin
              exact fin
            · rintro vs W K hc hvl hw hK
              obtain ⟨x0, x1, x2, x3, x4, x5, x6, x7, x8, x9, x10, x11, x12, x13, rfl⟩ := len14 hvl
              have HK := Lib.hid hK
              have HC := Lib.hid hc
              have HW := Lib.hid hw
              clear hK hc hw hvl
              obtain rfl : x3 = .bool true := box_get (HW.out ⟨3, .data⟩ (by simp) rfl) rfl
              simp only [putAll, Act.put, List.setIfInBounds_toArray, List.set_cons_succ, List.set_cons_zero]
              clear HW
              go_wp2_with fail
              have fin := HK.out (.bool true) W (Below.refl _ _) rfl
              simp only [putAll, Act.put, List.setIfInBounds_toArray, List.set_cons_succ, List.set_cons_zero] at fin
              exact fin
            · rintro vs W K hc hvl hw hK
              obtain ⟨x0, x1, x2, x3, x4, x5, x6, x7, x8, x9, x10, x11, x12, x13, rfl⟩ := len14 hvl
              have HK := Lib.hid hK
              have HC := Lib.hid hc
              have HW := Lib.hid hw
              clear hK hc hw hvl
              obtain rfl : x4 = .bool true := box_get (HW.out ⟨4, .guard⟩ (by simp) rfl) rfl
              simp only [putAll, Act.put, List.setIfInBounds_toArray, List.set_cons_succ, List.set_cons_zero]
              clear HW
              go_wp2_with fail
              have fin := HK.out (undef) W (Below.refl _ _) rfl
              simp only [putAll, Act.put, List.setIfInBounds_toArray, List.set_cons_succ, List.set_cons_zero] at fin
              exact fin
            · rintro vs W K hc hvl hw hK
              obtain ⟨x0, x1, x2, x3, x4, x5, x6, x7, x8, x9, x10, x11, x12, x13, rfl⟩ := len14 hvl
              have HK := Lib.hid hK
              have HC := Lib.hid hc
              have HW := Lib.hid hw
              clear hK hc hw hvl
              obtain rfl : x4 = .bool true := box_get (HW.out ⟨4, .guard⟩ (by simp) rfl) rfl
              simp only [putAll, Act.put, List.setIfInBounds_toArray, List.set_cons_succ, List.set_cons_zero]
              clear HW
              go_wp2_with fail
              have fin := HK.out (undef) W (Below.refl _ _) rfl
              simp only [putAll, Act.put, List.setIfInBounds_toArray, List.set_cons_succ, List.set_cons_zero] at fin
              exact fin
            · rintro vs W K hc hvl hw hK
              obtain ⟨x0, x1, x2, x3, x4, x5, x6, x7, x8, x9, x10, x11, x12, x13, rfl⟩ := len14 hvl
              have HK := Lib.hid hK
              have HC := Lib.hid hc
              have HW := Lib.hid hw
              clear hK hc hw hvl
              obtain rfl : x5 = undef := box_get (HW.out ⟨5, .data⟩ (by simp) rfl) rfl
              obtain rfl : x6 = undef := box_get (HW.out ⟨6, .data⟩ (by simp) rfl) rfl
              obtain rfl : x4 = .bool true := box_get (HW.out ⟨4, .guard⟩ (by simp) rfl) rfl
              simp only [putAll, Act.put, List.setIfInBounds_toArray, List.set_cons_succ, List.set_cons_zero]
              clear HW
              go_wp2_with fail
              have fin := HK.out (undef) W (Below.refl _ _) rfl
              simp only [putAll, Act.put, List.setIfInBounds_toArray, List.set_cons_succ, List.set_cons_zero] at fin
              exact fin
            · rintro vs W K hc hvl hw hK
              obtain ⟨x0, x1, x2, x3, x4, x5, x6, x7, x8, x9, x10, x11, x12, x13, rfl⟩ := len14 hvl
              have HK := Lib.hid hK
              have HC := Lib.hid hc
              have HW := Lib.hid hw
              clear hK hc hw hvl
              obtain rfl : x4 = .bool true := box_get (HW.out ⟨4, .guard⟩ (by simp) rfl) rfl
              simp only [putAll, Act.put, List.setIfInBounds_toArray, List.set_cons_succ, List.set_cons_zero]
              clear HW
              go_wp2_with fail
              have fin := HK.out (undef) W (Below.refl _ _) rfl
              simp only [putAll, Act.put, List.setIfInBounds_toArray, List.set_cons_succ, List.set_cons_zero] at fin
              exact fin
            · rintro vs W K hc hvl hw hK
              obtain ⟨x0, x1, x2, x3, x4, x5, x6, x7, x8, x9, x10, x11, x12, x13, rfl⟩ := len14 hvl
              have HK := Lib.hid hK
              have HC := Lib.hid hc
              have HW := Lib.hid hw
              clear hK hc hw hvl
              obtain rfl : x4 = .bool true := box_get (HW.out ⟨4, .guard⟩ (by simp) rfl) rfl
              simp only [putAll, Act.put, List.setIfInBounds_toArray, List.set_cons_succ, List.set_cons_zero]
              clear HW
              go_wp2_with fail
              have fin := HK.out (undef) W (Below.refl _ _) rfl
              simp only [putAll, Act.put, List.setIfInBounds_toArray, List.set_cons_succ, List.set_cons_zero] at fin
              exact fin
            · rintro vs W K hc hvl hw hK
              obtain ⟨x0, x1, x2, x3, x4, x5, x6, x7, x8, x9, x10, x11, x12, x13, rfl⟩ := len14 hvl
              have HK := Lib.hid hK
              have HC := Lib.hid hc
              have HW := Lib.hid hw
              clear hK hc hw hvl
              obtain rfl : x8 = undef := box_get (HW.out ⟨8, .data⟩ (by simp) rfl) rfl
              obtain rfl : x9 = undef := box_get (HW.out ⟨9, .data⟩ (by simp) rfl) rfl
              obtain rfl : x4 = .bool true := box_get (HW.out ⟨4, .guard⟩ (by simp) rfl) rfl
              simp only [putAll, Act.put, List.setIfInBounds_toArray, List.set_cons_succ, List.set_cons_zero]
              clear HW
              go_wp2_with fail
              have fin := HK.out (undef) W (Below.refl _ _) rfl
              simp only [putAll, Act.put, List.setIfInBounds_toArray, List.set_cons_succ, List.set_cons_zero] at fin
              exact fin
            · rintro vs W K hc hvl hw hK
              obtain ⟨x0, x1, x2, x3, x4, x5, x6, x7, x8, x9, x10, x11, x12, x13, rfl⟩ := len14 hvl
              have HK := Lib.hid hK
              have HC := Lib.hid hc
              have HW := Lib.hid hw
              clear hK hc hw hvl
              obtain rfl : x7 = undef := box_get (HW.out ⟨7, .data⟩ (by simp) rfl) rfl
              obtain rfl : x10 = undef := box_get (HW.out ⟨10, .data⟩ (by simp) rfl) rfl
              obtain rfl : x4 = .bool true := box_get (HW.out ⟨4, .guard⟩ (by simp) rfl) rfl
              simp only [putAll, Act.put, List.setIfInBounds_toArray, List.set_cons_succ, List.set_cons_zero]
              clear HW
              go_wp2_with fail
              have fin := HK.out (undef) W (Below.refl _ _) rfl
              simp only [putAll, Act.put, List.setIfInBounds_toArray, List.set_cons_succ, List.set_cons_zero] at fin
              exact fin
            · rintro vs W K hc hvl hw hK
              obtain ⟨x0, x1, x2, x3, x4, x5, x6, x7, x8, x9, x10, x11, x12, x13, rfl⟩ := len14 hvl
              have HK := Lib.hid hK
              have HC := Lib.hid hc
              have HW := Lib.hid hw
              clear hK hc hw hvl
              obtain rfl : x11 = undef := box_get (HW.out ⟨11, .data⟩ (by simp) rfl) rfl
              obtain rfl : x4 = .bool true := box_get (HW.out ⟨4, .guard⟩ (by simp) rfl) rfl
              simp only [putAll, Act.put, List.setIfInBounds_toArray, List.set_cons_succ, List.set_cons_zero]
              clear HW
              go_wp2_with fail
              have fin := HK.out (undef) W (Below.refl _ _) rfl
              simp only [putAll, Act.put, List.setIfInBounds_toArray, List.set_cons_succ, List.set_cons_zero] at fin
              exact fin
            · rintro vs W K hc hvl hw hK
              obtain ⟨x0, x1, x2, x3, x4, x5, x6, x7, x8, x9, x10, x11, x12, x13, rfl⟩ := len14 hvl
              have HK := Lib.hid hK
              have HC := Lib.hid hc
              have HW := Lib.hid hw
              clear hK hc hw hvl
              obtain rfl : x4 = .bool true := box_get (HW.out ⟨4, .data⟩ (by simp) rfl) rfl
              obtain rfl : x12 = undef := box_get (HW.out ⟨12, .data⟩ (by simp) rfl) rfl
              simp only [putAll, Act.put, List.setIfInBounds_toArray, List.set_cons_succ, List.set_cons_zero]
              clear HW
              go_wp2_with fail
              have fin := HK.out (.bool true) W (Below.refl _ _) rfl
              simp only [putAll, Act.put, List.setIfInBounds_toArray, List.set_cons_succ, List.set_cons_zero] at fin
              exact fin
          case fin =>
            rintro vs W hJ
            obtain ⟨x0, x1, x2, x3, x4, x5, x6, x7, x8, x9, x10, x11, x12, x13, rfl⟩ := len14 hJ.ln
            obtain rfl : x13 = .bool true := box_get (hJ.val 13 rfl) rfl
            have HC := Lib.hid hJ.bl
            clear hJ
            simp only [putAll, Act.put, List.setIfInBounds_toArray, List.set_cons_succ, List.set_cons_zero]
            clear T0 M0 N0 W0
            go_wp2_with fail
            go_ret
            refine ⟨ret_bool ?_, Below.andThen (Below.andThen (Below.andThen (Below.andThen BA.out HB.out.2.2.2 (Nat.le_refl _)) BB.out (Nat.le_refl _)) HC4.out (Nat.le_refl _)) HC.out (Nat.le_refl _)⟩
            have h := HS0.out
            have h2 : ¬ m0 = 0 := by simpa using hm
            rw [decide_eq_false h2, Bool.false_and] at h
            rw [← h]; simp
        | false =>
          refine wp_region_box (by kernel_rfl) (by kernel_rfl) [28, 29, 30, 31, 32, 33, 34, 35, 36, 37, 38, 39, 40, 41] [(fun v => v = .agg #[.int .i64 c1, .int .i64 c2, .int .i64 c3, .int .i64 c4]), (fun v => v = .agg #[.int .i64 s0, .int .i64 t0]), (fun v => v = .int .i64 m0), (fun v => v = .bool false), (fun v => v = .bool false), (fun v => v = .agg #[.int .i64 s1, .int .i64 t1]), (fun v => v = .agg #[.int .i64 s0, .int .i64 t0]), (fun v => v = .agg #[.int .i64 (s1 - s0), .int .i64 (t1 - t0)]), (fun v => v = .agg #[.int .i64 s2, .int .i64 t2]), (fun v => v = .agg #[.int .i64 s0, .int .i64 t0]), (fun v => v = .agg #[.int .i64 (s2 - s0), .int .i64 (t2 - t0)]), (fun v => v = .int .i64 D0), (fun v => v = .bool E), (fun v => v = .bool E)] [none, none, none, none, none, none, none, none, none, none, none, none, none, none] [none, none, none, none, none, none, none, none, none, none, none, none, none, none] 14 rfl (by kernel_rfl) ?tr ⟨[u28, u29, u30, u31, u32, u33, u34, u35, u36, u37, u38, u39, u40, u41], by simp only [putAll, Act.put, List.setIfInBounds_toArray, List.set_cons_succ, List.set_cons_zero], rfl⟩ ?steps ?fin
          case tr =>
            rintro i v h
            rcases i with _ | _ | _ | _ | _ | _ | _ | _ | _ | _ | _ | _ | _ | _ | i
            all_goals first | trivial | (exfalso; rcases h with h | h <;> simp at h)
          case steps =>
            simp only [boxSteps, Nat.reduceAdd, Nat.zero_add, List.getD_cons_succ, List.getD_cons_zero]
            refine ⟨?_, ?_, ?_, ?_, ?_, ?_, ?_, ?_, ?_, ?_, ?_, ?_, ?_, ?_, trivial⟩
            · rintro vs W K hc hvl hw hK
              obtain ⟨x0, x1, x2, x3, x4, x5, x6, x7, x8, x9, x10, x11, x12, x13, rfl⟩ := len14 hvl
              have HK := Lib.hid hK
              have HC := Lib.hid hc
              have HW := Lib.hid hw
              clear hK hc hw hvl
              simp only [putAll, Act.put, List.setIfInBounds_toArray, List.set_cons_succ, List.set_cons_zero]
              have rr := RC4.out.below HC.out RC4.out.lt
              have d0 := rr.cell 0
              have d1 := rr.cell 1
              have d2 := rr.cell 2
              have d3 := rr.cell 3
              simp only [List.getElem?_cons_zero, List.getElem?_cons_succ] at d0 d1 d2 d3
              clear rr
              clear HW
              go_wp2_with fail
              have fin := HK.out (.agg #[.int .i64 c1, .int .i64 c2, .int .i64 c3, .int .i64 c4]) W (Below.refl _ _) rfl
              simp only [putAll, Act.put, List.setIfInBounds_toArray, List.set_cons_succ, List.set_cons_zero] at fin
              exact fin
            · rintro vs W K hc hvl hw hK
              obtain ⟨x0, x1, x2, x3, x4, x5, x6, x7, x8, x9, x10, x11, x12, x13, rfl⟩ := len14 hvl
              have HK := Lib.hid hK
              have HC := Lib.hid hc
              have HW := Lib.hid hw
              clear hK hc hw hvl
              simp only [putAll, Act.put, List.setIfInBounds_toArray, List.set_cons_succ, List.set_cons_zero]
              have rr := RB4.out.below HC.out RB4.out.lt
              have d0 := rr.cell 0
              have d1 := rr.cell 1
              simp only [List.getElem?_cons_zero, List.getElem?_cons_succ] at d0 d1
              clear rr
              clear HW
              go_wp2_with fail
              have fin := HK.out (.agg #[.int .i64 s0, .int .i64 t0]) W (Below.refl _ _) rfl
              simp only [putAll, Act.put, List.setIfInBounds_toArray, List.set_cons_succ, List.set_cons_zero] at fin
              exact fin
            · rintro vs W K hc hvl hw hK
              obtain ⟨x0, x1, x2, x3, x4, x5, x6, x7, x8, x9, x10, x11, x12, x13, rfl⟩ := len14 hvl
              have HK := Lib.hid hK
              have HC := Lib.hid hc
              have HW := Lib.hid hw
              clear hK hc hw hvl
              obtain rfl : x0 = .agg #[.int .i64 c1, .int .i64 c2, .int .i64 c3, .int .i64 c4] := box_get (HW.out ⟨0, .data⟩ (by simp) rfl) rfl
              obtain rfl : x1 = .agg #[.int .i64 s0, .int .i64 t0] := box_get (HW.out ⟨1, .data⟩ (by simp) rfl) rfl
              simp only [putAll, Act.put, List.setIfInBounds_toArray, List.set_cons_succ, List.set_cons_zero]
              clear HW
              go_wp2_with fail
              refine (W0.out W).mono ?_
              rintro e W' ⟨rfl, hb'⟩
              have HB' := Lib.hid hb'
              clear hb'
              go_wp2_with fail
              have fin := HK.out (.int .i64 m0) W' HB'.out rfl
              simp only [putAll, Act.put, List.setIfInBounds_toArray, List.set_cons_succ, List.set_cons_zero] at fin
              exact fin
            · rintro vs W K hc hvl hw hK
              obtain ⟨x0, x1, x2, x3, x4, x5, x6, x7, x8, x9, x10, x11, x12, x13, rfl⟩ := len14 hvl
              have HK := Lib.hid hK
              have HC := Lib.hid hc
              have HW := Lib.hid hw
              clear hK hc hw hvl
              obtain rfl : x2 = .int .i64 m0 := box_get (HW.out ⟨2, .data⟩ (by simp) rfl) rfl
              simp only [putAll, Act.put, List.setIfInBounds_toArray, List.set_cons_succ, List.set_cons_zero]
              clear HW
              go_wp2_with fail
              have fin := HK.out (.bool false) W (Below.refl _ _) rfl
              simp only [putAll, Act.put, List.setIfInBounds_toArray, List.set_cons_succ, List.set_cons_zero] at fin
              exact fin
            · rintro vs W K hc hvl hw hK
              obtain ⟨x0, x1, x2, x3, x4, x5, x6, x7, x8, x9, x10, x11, x12, x13, rfl⟩ := len14 hvl
              have HK := Lib.hid hK
              have HC := Lib.hid hc
              have HW := Lib.hid hw
              clear hK hc hw hvl
              obtain rfl : x3 = .bool false := box_get (HW.out ⟨3, .data⟩ (by simp) rfl) rfl
              simp only [putAll, Act.put, List.setIfInBounds_toArray, List.set_cons_succ, List.set_cons_zero]
              clear HW
              go_wp2_with fail
              have fin := HK.out (.bool false) W (Below.refl _ _) rfl
              simp only [putAll, Act.put, List.setIfInBounds_toArray, List.set_cons_succ, List.set_cons_zero] at fin
              exact fin
            · rintro vs W K hc hvl hw hK
              obtain ⟨x0, x1, x2, x3, x4, x5, x6, x7, x8, x9, x10, x11, x12, x13, rfl⟩ := len14 hvl
              have HK := Lib.hid hK
              have HC := Lib.hid hc
              have HW := Lib.hid hw
              clear hK hc hw hvl
              obtain rfl : x4 = .bool false := box_get (HW.out ⟨4, .guard⟩ (by simp) rfl) rfl
              simp only [putAll, Act.put, List.setIfInBounds_toArray, List.set_cons_succ, List.set_cons_zero]
              have rr := HR12.out.below HC.out HR12.out.lt
              have d0 := rr.cell 0
              have d1 := rr.cell 1
              simp only [List.getElem?_cons_zero, List.getElem?_cons_succ] at d0 d1
              clear rr
              clear HW
              go_wp2_with fail
              have fin := HK.out (.agg #[.int .i64 s1, .int .i64 t1]) W (Below.refl _ _) rfl
              simp only [putAll, Act.put, List.setIfInBounds_toArray, List.set_cons_succ, List.set_cons_zero] at fin
              exact fin
            · rintro vs W K hc hvl hw hK
              obtain ⟨x0, x1, x2, x3, x4, x5, x6, x7, x8, x9, x10, x11, x12, x13, rfl⟩ := len14 hvl
              have HK := Lib.hid hK
              have HC := Lib.hid hc
              have HW := Lib.hid hw
              clear hK hc hw hvl
              obtain rfl : x4 = .bool false := box_get (HW.out ⟨4, .guard⟩ (by simp) rfl) rfl
              simp only [putAll, Act.put, List.setIfInBounds_toArray, List.set_cons_succ, List.set_cons_zero]
              have rr := RB4.out.below HC.out RB4.out.lt
              have d0 := rr.cell 0
              have d1 := rr.cell 1
              simp only [List.getElem?_cons_zero, List.getElem?_cons_succ] at d0 d1
              clear rr
              clear HW
              go_wp2_with fail
              have fin := HK.out (.agg #[.int .i64 s0, .int .i64 t0]) W (Below.refl _ _) rfl
              simp only [putAll, Act.put, List.setIfInBounds_toArray, List.set_cons_succ, List.set_cons_zero] at fin
              exact fin
            · rintro vs W K hc hvl hw hK
              obtain ⟨x0, x1, x2, x3, x4, x5, x6, x7, x8, x9, x10, x11, x12, x13, rfl⟩ := len14 hvl
              have HK := Lib.hid hK
              have HC := Lib.hid hc
              have HW := Lib.hid hw
              clear hK hc hw hvl
              obtain rfl : x5 = .agg #[.int .i64 s1, .int .i64 t1] := box_get (HW.out ⟨5, .data⟩ (by simp) rfl) rfl
              obtain rfl : x6 = .agg #[.int .i64 s0, .int .i64 t0] := box_get (HW.out ⟨6, .data⟩ (by simp) rfl) rfl
              obtain rfl : x4 = .bool false := box_get (HW.out ⟨4, .guard⟩ (by simp) rfl) rfl
              simp only [putAll, Act.put, List.setIfInBounds_toArray, List.set_cons_succ, List.set_cons_zero]
              clear HW
              go_wp2_with fail
              refine (M0.out W).mono ?_
              rintro e W' ⟨rfl, hb'⟩
              have HB' := Lib.hid hb'
              clear hb'
              go_wp2_with fail
              have fin := HK.out (.agg #[.int .i64 (s1 - s0), .int .i64 (t1 - t0)]) W' HB'.out rfl
              simp only [putAll, Act.put, List.setIfInBounds_toArray, List.set_cons_succ, List.set_cons_zero] at fin
              exact fin
            · rintro vs W K hc hvl hw hK
              obtain ⟨x0, x1, x2, x3, x4, x5, x6, x7, x8, x9, x10, x11, x12, x13, rfl⟩ := len14 hvl
              have HK := Lib.hid hK
              have HC := Lib.hid hc
              have HW := Lib.hid hw
              clear hK hc hw hvl
              obtain rfl : x4 = .bool false := box_get (HW.out ⟨4, .guard⟩ (by simp) rfl) rfl
              simp only [putAll, Act.put, List.setIfInBounds_toArray, List.set_cons_succ, List.set_cons_zero]
              have rr := HR13.out.below HC.out HR13.out.lt
              have d0 := rr.cell 0
              have d1 := rr.cell 1
              simp only [List.getElem?_cons_zero, List.getElem?_cons_succ] at d0 d1
              clear rr
              clear HW
              go_wp2_with fail
              have fin := HK.out (.agg #[.int .i64 s2, .int .i64 t2]) W (Below.refl _ _) rfl
              simp only [putAll, Act.put, List.setIfInBounds_toArray, List.set_cons_succ, List.set_cons_zero] at fin
              exact fin
            · rintro vs W K hc hvl hw hK
              obtain ⟨x0, x1, x2, x3, x4, x5, x6, x7, x8, x9, x10, x11, x12, x13, rfl⟩ := len14 hvl
              have HK := Lib.hid hK
              have HC := Lib.hid hc
              have HW := Lib.hid hw
              clear hK hc hw hvl
              obtain rfl : x4 = .bool false := box_get (HW.out ⟨4, .guard⟩ (by simp) rfl) rfl
              simp only [putAll, Act.put, List.setIfInBounds_toArray, List.set_cons_succ, List.set_cons_zero]
              have rr := RB4.out.below HC.out RB4.out.lt
              have d0 := rr.cell 0
              have d1 := rr.cell 1
              simp only [List.getElem?_cons_zero, List.getElem?_cons_succ] at d0 d1
              clear rr
              clear HW
              go_wp2_with fail
              have fin := HK.out (.agg #[.int .i64 s0, .int .i64 t0]) W (Below.refl _ _) rfl
              simp only [putAll, Act.put, List.setIfInBounds_toArray, List.set_cons_succ, List.set_cons_zero] at fin
              exact fin
            · rintro vs W K hc hvl hw hK
              obtain ⟨x0, x1, x2, x3, x4, x5, x6, x7, x8, x9, x10, x11, x12, x13, rfl⟩ := len14 hvl
              have HK := Lib.hid hK
              have HC := Lib.hid hc
              have HW := Lib.hid hw
              clear hK hc hw hvl
              obtain rfl : x8 = .agg #[.int .i64 s2, .int .i64 t2] := box_get (HW.out ⟨8, .data⟩ (by simp) rfl) rfl
              obtain rfl : x9 = .agg #[.int .i64 s0, .int .i64 t0] := box_get (HW.out ⟨9, .data⟩ (by simp) rfl) rfl
              obtain rfl : x4 = .bool false := box_get (HW.out ⟨4, .guard⟩ (by simp) rfl) rfl
              simp only [putAll, Act.put, List.setIfInBounds_toArray, List.set_cons_succ, List.set_cons_zero]
              clear HW
              go_wp2_with fail
              refine (N0.out W).mono ?_
              rintro e W' ⟨rfl, hb'⟩
              have HB' := Lib.hid hb'
              clear hb'
              go_wp2_with fail
              have fin := HK.out (.agg #[.int .i64 (s2 - s0), .int .i64 (t2 - t0)]) W' HB'.out rfl
              simp only [putAll, Act.put, List.setIfInBounds_toArray, List.set_cons_succ, List.set_cons_zero] at fin
              exact fin
            · rintro vs W K hc hvl hw hK
              obtain ⟨x0, x1, x2, x3, x4, x5, x6, x7, x8, x9, x10, x11, x12, x13, rfl⟩ := len14 hvl
              have HK := Lib.hid hK
              have HC := Lib.hid hc
              have HW := Lib.hid hw
              clear hK hc hw hvl
              obtain rfl : x7 = .agg #[.int .i64 (s1 - s0), .int .i64 (t1 - t0)] := box_get (HW.out ⟨7, .data⟩ (by simp) rfl) rfl
              obtain rfl : x10 = .agg #[.int .i64 (s2 - s0), .int .i64 (t2 - t0)] := box_get (HW.out ⟨10, .data⟩ (by simp) rfl) rfl
              obtain rfl : x4 = .bool false := box_get (HW.out ⟨4, .guard⟩ (by simp) rfl) rfl
              simp only [putAll, Act.put, List.setIfInBounds_toArray, List.set_cons_succ, List.set_cons_zero]
              clear HW
              go_wp2_with fail
              refine (T0.out W).mono ?_
              rintro e W' ⟨rfl, hb'⟩
              have HB' := Lib.hid hb'
              clear hb'
              go_wp2_with fail
              have fin := HK.out (.int .i64 D0) W' HB'.out rfl
              simp only [putAll, Act.put, List.setIfInBounds_toArray, List.set_cons_succ, List.set_cons_zero] at fin
              exact fin
            · rintro vs W K hc hvl hw hK
              obtain ⟨x0, x1, x2, x3, x4, x5, x6, x7, x8, x9, x10, x11, x12, x13, rfl⟩ := len14 hvl
              have HK := Lib.hid hK
              have HC := Lib.hid hc
              have HW := Lib.hid hw
              clear hK hc hw hvl
              obtain rfl : x11 = .int .i64 D0 := box_get (HW.out ⟨11, .data⟩ (by simp) rfl) rfl
              obtain rfl : x4 = .bool false := box_get (HW.out ⟨4, .guard⟩ (by simp) rfl) rfl
              simp only [putAll, Act.put, List.setIfInBounds_toArray, List.set_cons_succ, List.set_cons_zero]
              have hE := HE.out
              clear HW
              go_wp2_with fail
              have fin := HK.out (.bool E) W (Below.refl _ _) rfl
              simp only [putAll, Act.put, List.setIfInBounds_toArray, List.set_cons_succ, List.set_cons_zero] at fin
              exact fin
            · rintro vs W K hc hvl hw hK
              obtain ⟨x0, x1, x2, x3, x4, x5, x6, x7, x8, x9, x10, x11, x12, x13, rfl⟩ := len14 hvl
              have HK := Lib.hid hK
              have HC := Lib.hid hc
              have HW := Lib.hid hw
              clear hK hc hw hvl
              obtain rfl : x4 = .bool false := box_get (HW.out ⟨4, .data⟩ (by simp) rfl) rfl
              obtain rfl : x12 = .bool E := box_get (HW.out ⟨12, .data⟩ (by simp) rfl) rfl
              simp only [putAll, Act.put, List.setIfInBounds_toArray, List.set_cons_succ, List.set_cons_zero]
              clear HW
              go_wp2_with fail
              have fin := HK.out (.bool E) W (Below.refl _ _) rfl
              simp only [putAll, Act.put, List.setIfInBounds_toArray, List.set_cons_succ, List.set_cons_zero] at fin
              exact fin
          case fin =>
            rintro vs W hJ
            obtain ⟨x0, x1, x2, x3, x4, x5, x6, x7, x8, x9, x10, x11, x12, x13, rfl⟩ := len14 hJ.ln
            obtain rfl : x13 = .bool E := box_get (hJ.val 13 rfl) rfl
            have HC := Lib.hid hJ.bl
            clear hJ
            simp only [putAll, Act.put, List.setIfInBounds_toArray, List.set_cons_succ, List.set_cons_zero]
            clear T0 M0 N0 W0
            cases E with
            | true =>
              go_wp2_with fail
              go_ret
              refine ⟨ret_bool ?_, Below.andThen (Below.andThen (Below.andThen (Below.andThen BA.out HB.out.2.2.2 (Nat.le_refl _)) BB.out (Nat.le_refl _)) HC4.out (Nat.le_refl _)) HC.out (Nat.le_refl _)⟩
              have h := HS0.out
              have h2 : ¬ 0 < D0 := by have := of_decide_eq_true HE.out; omega
              rw [decide_eq_false h2, Bool.and_false] at h
              rw [← h]; simp
            | false =>
              have HN := Lib.hid (show S0 = true by
                rw [← HS0.out]
                have h2 : m0 = 0 := by simpa using hm
                have h3 := of_decide_eq_false HE.out
                rw [decide_eq_true h2, Bool.true_and]
                exact decide_eq_true (by omega))
              go_wp2_with fail
              exact ⟨⟨1, by omega, rfl, Lib.hid ⟨fun _ => HN.out, by omega, by omega, Below.andThen (Below.andThen (Below.andThen HB.out.2.2.2 BB.out (Nat.le_refl _)) HC4.out (Nat.le_refl _)) HC.out (Nat.le_refl _)⟩⟩, by simp [intOf]⟩
    · go_wp2_with fail
      have rB := Row.new wr 28 [.int .i64 s1, .int .i64 t1]
      have bB := Below.al (Below.refl wr.heap.size wr) (Nat.le_refl _) (.cells #[.int .i64 s1, .int .i64 t1] 28)
      have RB := Lib.hid rB
      have BB := Lib.hid bB
      have RC3 := Lib.hid (RC2.out.below bB RC2.out.lt)
      have RG3 := Lib.hid (RG2.out.below bB RG2.out.lt)
      clear rB bB k0 k1 k2 k3 k4 k5
      obtain ⟨U, hU⟩ : ∃ V, V = wr.alloc (.cells #[.int .i64 s1, .int .i64 t1] 28) := ⟨_, rfl⟩
      rw [← hU] at RB BB RC3 RG3 ⊢
      clear hU
      refine wp_region_box (by kernel_rfl) (by kernel_rfl) [16, 17, 18, 19, 20, 21, 22, 23, 24, 25, 26, 27, 7, 8, 1000, 1001] [(fun v => v = .slice (some ⟨g, 0, none⟩) 3 3), (fun v => v = .int .i64 1), (fun v => v = .int .i64 2), (fun v => v = .int .i64 2), (fun v => v = .pointer (some ⟨g, 4, none⟩)), (fun v => v = .agg #[.int .i64 s2, .int .i64 t2]), (fun v => v = .slice (some ⟨g, 0, none⟩) 3 3), (fun v => v = .int .i64 1), (fun v => v = .int .i64 3), (fun v => v = .int .i64 0), (fun v => v = .pointer (some ⟨g, 0, none⟩)), (fun v => v = .agg #[.int .i64 s0, .int .i64 t0]), (fun _ => True), (fun _ => True), (fun _ => True), (fun _ => True)] [none, none, none, none, none, none, none, none, none, none, none, none, some (28, [.int .i64 0, .int .i64 0], [.int .i64 s2, .int .i64 t2]), some (28, [.int .i64 0, .int .i64 0], [.int .i64 s0, .int .i64 t0]), none, none] [none, none, none, none, none, none, none, none, none, none, none, none, none, none, some 12, some 13] 16 rfl (by kernel_rfl) ?tr ⟨[u16, u17, u18, u19, u20, u21, u22, u23, u24, u25, u26, u27, u7, u8, undef, undef], by simp only [putAll, Act.put, List.setIfInBounds_toArray, List.set_cons_succ, List.set_cons_zero, List.set_nil], rfl⟩ ?steps ?fin
      case tr =>
        rintro i v h
        rcases i with _ | _ | _ | _ | _ | _ | _ | _ | _ | _ | _ | _ | _ | _ | _ | _ | i
        all_goals first | trivial | (exfalso; rcases h with h | h <;> simp at h)
      case steps =>
        simp only [boxSteps, Nat.reduceAdd, Nat.zero_add, List.getD_cons_succ, List.getD_cons_zero]
        refine ⟨?_, ?_, ?_, ?_, ?_, ?_, ?_, ?_, ?_, ?_, ?_, ?_, ?_, ?_, ?_, ?_, trivial⟩
        · rintro vs W K hc hvl hw hK
          obtain ⟨x0, x1, x2, x3, x4, x5, x6, x7, x8, x9, x10, x11, x12, x13, x14, x15, rfl⟩ := len16 hvl
          have HK := Lib.hid hK
          have HC := Lib.hid hc
          have HW := Lib.hid hw
          clear hK hc hw hvl
          simp only [putAll, Act.put, List.setIfInBounds_toArray, List.set_cons_succ, List.set_cons_zero, List.set_nil]
          clear HW
          go_wp2_with fail
          have fin := HK.out (.slice (some ⟨g, 0, none⟩) 3 3) W (Below.refl _ _) rfl
          simp only [putAll, Act.put, List.setIfInBounds_toArray, List.set_cons_succ, List.set_cons_zero, List.set_nil] at fin
          exact fin
        · rintro vs W K hc hvl hw hK
          obtain ⟨x0, x1, x2, x3, x4, x5, x6, x7, x8, x9, x10, x11, x12, x13, x14, x15, rfl⟩ := len16 hvl
          have HK := Lib.hid hK
          have HC := Lib.hid hc
          have HW := Lib.hid hw
          clear hK hc hw hvl
          simp only [putAll, Act.put, List.setIfInBounds_toArray, List.set_cons_succ, List.set_cons_zero, List.set_nil]
          clear HW
          go_wp2_with fail
          have fin := HK.out (.int .i64 1) W (Below.refl _ _) rfl
          simp only [putAll, Act.put, List.setIfInBounds_toArray, List.set_cons_succ, List.set_cons_zero, List.set_nil] at fin
          exact fin
        · rintro vs W K hc hvl hw hK
          obtain ⟨x0, x1, x2, x3, x4, x5, x6, x7, x8, x9, x10, x11, x12, x13, x14, x15, rfl⟩ := len16 hvl
          have HK := Lib.hid hK
          have HC := Lib.hid hc
          have HW := Lib.hid hw
          clear hK hc hw hvl
          obtain rfl : x1 = .int .i64 1 := box_get (HW.out ⟨1, .data⟩ (by simp) rfl) rfl
          simp only [putAll, Act.put, List.setIfInBounds_toArray, List.set_cons_succ, List.set_cons_zero, List.set_nil]
          clear HW
          go_wp2_with fail
          have fin := HK.out (.int .i64 2) W (Below.refl _ _) rfl
          simp only [putAll, Act.put, List.setIfInBounds_toArray, List.set_cons_succ, List.set_cons_zero, List.set_nil] at fin
          exact fin
        · rintro vs W K hc hvl hw hK
          obtain ⟨x0, x1, x2, x3, x4, x5, x6, x7, x8, x9, x10, x11, x12, x13, x14, x15, rfl⟩ := len16 hvl
          have HK := Lib.hid hK
          have HC := Lib.hid hc
          have HW := Lib.hid hw
          clear hK hc hw hvl
          obtain rfl : x2 = .int .i64 2 := box_get (HW.out ⟨2, .data⟩ (by simp) rfl) rfl
          simp only [putAll, Act.put, List.setIfInBounds_toArray, List.set_cons_succ, List.set_cons_zero, List.set_nil]
          clear HW
          go_wp2_with fail
          have fin := HK.out (.int .i64 2) W (Below.refl _ _) rfl
          simp only [putAll, Act.put, List.setIfInBounds_toArray, List.set_cons_succ, List.set_cons_zero, List.set_nil] at fin
          exact fin
        · rintro vs W K hc hvl hw hK
          obtain ⟨x0, x1, x2, x3, x4, x5, x6, x7, x8, x9, x10, x11, x12, x13, x14, x15, rfl⟩ := len16 hvl
          have HK := Lib.hid hK
          have HC := Lib.hid hc
          have HW := Lib.hid hw
          clear hK hc hw hvl
          obtain rfl : x0 = .slice (some ⟨g, 0, none⟩) 3 3 := box_get (HW.out ⟨0, .data⟩ (by simp) rfl) rfl
          obtain rfl : x3 = .int .i64 2 := box_get (HW.out ⟨3, .data⟩ (by simp) rfl) rfl
          simp only [putAll, Act.put, List.setIfInBounds_toArray, List.set_cons_succ, List.set_cons_zero, List.set_nil]
          clear HW
          go_wp2_with fail
          have fin := HK.out (.pointer (some ⟨g, 4, none⟩)) W (Below.refl _ _) rfl
          simp only [putAll, Act.put, List.setIfInBounds_toArray, List.set_cons_succ, List.set_cons_zero, List.set_nil] at fin
          exact fin
        · rintro vs W K hc hvl hw hK
          obtain ⟨x0, x1, x2, x3, x4, x5, x6, x7, x8, x9, x10, x11, x12, x13, x14, x15, rfl⟩ := len16 hvl
          have HK := Lib.hid hK
          have HC := Lib.hid hc
          have HW := Lib.hid hw
          clear hK hc hw hvl
          obtain rfl : x4 = .pointer (some ⟨g, 4, none⟩) := box_get (HW.out ⟨4, .data⟩ (by simp) rfl) rfl
          simp only [putAll, Act.put, List.setIfInBounds_toArray, List.set_cons_succ, List.set_cons_zero, List.set_nil]
          have rr := RG3.out.below HC.out RG3.out.lt
          have d4 := rr.cell 4
          have d5 := rr.cell 5
          simp only [List.getElem?_cons_zero, List.getElem?_cons_succ] at d4 d5
          clear rr
          clear HW
          go_wp2_with fail
          have fin := HK.out (.agg #[.int .i64 s2, .int .i64 t2]) W (Below.refl _ _) rfl
          simp only [putAll, Act.put, List.setIfInBounds_toArray, List.set_cons_succ, List.set_cons_zero, List.set_nil] at fin
          exact fin
        · rintro vs W K hc hvl hw hK
          obtain ⟨x0, x1, x2, x3, x4, x5, x6, x7, x8, x9, x10, x11, x12, x13, x14, x15, rfl⟩ := len16 hvl
          have HK := Lib.hid hK
          have HC := Lib.hid hc
          have HW := Lib.hid hw
          clear hK hc hw hvl
          simp only [putAll, Act.put, List.setIfInBounds_toArray, List.set_cons_succ, List.set_cons_zero, List.set_nil]
          clear HW
          go_wp2_with fail
          have fin := HK.out (.slice (some ⟨g, 0, none⟩) 3 3) W (Below.refl _ _) rfl
          simp only [putAll, Act.put, List.setIfInBounds_toArray, List.set_cons_succ, List.set_cons_zero, List.set_nil] at fin
          exact fin
        · rintro vs W K hc hvl hw hK
          obtain ⟨x0, x1, x2, x3, x4, x5, x6, x7, x8, x9, x10, x11, x12, x13, x14, x15, rfl⟩ := len16 hvl
          have HK := Lib.hid hK
          have HC := Lib.hid hc
          have HW := Lib.hid hw
          clear hK hc hw hvl
          simp only [putAll, Act.put, List.setIfInBounds_toArray, List.set_cons_succ, List.set_cons_zero, List.set_nil]
          clear HW
          go_wp2_with fail
          have fin := HK.out (.int .i64 1) W (Below.refl _ _) rfl
          simp only [putAll, Act.put, List.setIfInBounds_toArray, List.set_cons_succ, List.set_cons_zero, List.set_nil] at fin
          exact fin
        · rintro vs W K hc hvl hw hK
          obtain ⟨x0, x1, x2, x3, x4, x5, x6, x7, x8, x9, x10, x11, x12, x13, x14, x15, rfl⟩ := len16 hvl
          have HK := Lib.hid hK
          have HC := Lib.hid hc
          have HW := Lib.hid hw
          clear hK hc hw hvl
          obtain rfl : x7 = .int .i64 1 := box_get (HW.out ⟨7, .data⟩ (by simp) rfl) rfl
          simp only [putAll, Act.put, List.setIfInBounds_toArray, List.set_cons_succ, List.set_cons_zero, List.set_nil]
          clear HW
          go_wp2_with fail
          have fin := HK.out (.int .i64 3) W (Below.refl _ _) rfl
          simp only [putAll, Act.put, List.setIfInBounds_toArray, List.set_cons_succ, List.set_cons_zero, List.set_nil] at fin
          exact fin
        · rintro vs W K hc hvl hw hK
          obtain ⟨x0, x1, x2, x3, x4, x5, x6, x7, x8, x9, x10, x11, x12, x13, x14, x15, rfl⟩ := len16 hvl
          have HK := Lib.hid hK
          have HC := Lib.hid hc
          have HW := Lib.hid hw
          clear hK hc hw hvl
          obtain rfl : x8 = .int .i64 3 := box_get (HW.out ⟨8, .data⟩ (by simp) rfl) rfl
          simp only [putAll, Act.put, List.setIfInBounds_toArray, List.set_cons_succ, List.set_cons_zero, List.set_nil]
          clear HW
          go_wp2_with fail
          have fin := HK.out (.int .i64 0) W (Below.refl _ _) rfl
          simp only [putAll, Act.put, List.setIfInBounds_toArray, List.set_cons_succ, List.set_cons_zero, List.set_nil] at fin
          exact fin
        · rintro vs W K hc hvl hw hK
          obtain ⟨x0, x1, x2, x3, x4, x5, x6, x7, x8, x9, x10, x11, x12, x13, x14, x15, rfl⟩ := len16 hvl
          have HK := Lib.hid hK
          have HC := Lib.hid hc
          have HW := Lib.hid hw
          clear hK hc hw hvl
          obtain rfl : x6 = .slice (some ⟨g, 0, none⟩) 3 3 := box_get (HW.out ⟨6, .data⟩ (by simp) rfl) rfl
          obtain rfl : x9 = .int .i64 0 := box_get (HW.out ⟨9, .data⟩ (by simp) rfl) rfl
          simp only [putAll, Act.put, List.setIfInBounds_toArray, List.set_cons_succ, List.set_cons_zero, List.set_nil]
          clear HW
          go_wp2_with fail
          have fin := HK.out (.pointer (some ⟨g, 0, none⟩)) W (Below.refl _ _) rfl
          simp only [putAll, Act.put, List.setIfInBounds_toArray, List.set_cons_succ, List.set_cons_zero, List.set_nil] at fin
          exact fin
        · rintro vs W K hc hvl hw hK
          obtain ⟨x0, x1, x2, x3, x4, x5, x6, x7, x8, x9, x10, x11, x12, x13, x14, x15, rfl⟩ := len16 hvl
          have HK := Lib.hid hK
          have HC := Lib.hid hc
          have HW := Lib.hid hw
          clear hK hc hw hvl
          obtain rfl : x10 = .pointer (some ⟨g, 0, none⟩) := box_get (HW.out ⟨10, .data⟩ (by simp) rfl) rfl
          simp only [putAll, Act.put, List.setIfInBounds_toArray, List.set_cons_succ, List.set_cons_zero, List.set_nil]
          have rr := RG3.out.below HC.out RG3.out.lt
          have d0 := rr.cell 0
          have d1 := rr.cell 1
          simp only [List.getElem?_cons_zero, List.getElem?_cons_succ] at d0 d1
          clear rr
          clear HW
          go_wp2_with fail
          have fin := HK.out (.agg #[.int .i64 s0, .int .i64 t0]) W (Below.refl _ _) rfl
          simp only [putAll, Act.put, List.setIfInBounds_toArray, List.set_cons_succ, List.set_cons_zero, List.set_nil] at fin
          exact fin
        · rintro vs W K hc hvl hw hK
          obtain ⟨x0, x1, x2, x3, x4, x5, x6, x7, x8, x9, x10, x11, x12, x13, x14, x15, rfl⟩ := len16 hvl
          have HK := Lib.hid hK
          have HC := Lib.hid hc
          have HW := Lib.hid hw
          clear hK hc hw hvl
          simp only [putAll, Act.put, List.setIfInBounds_toArray, List.set_cons_succ, List.set_cons_zero, List.set_nil]
          clear HW
          go_wp2_with fail
          have fin := HK.out
          simp only [putAll, Act.put, List.setIfInBounds_toArray, List.set_cons_succ, List.set_cons_zero, List.set_nil] at fin
          exact fin
        · rintro vs W K hc hvl hw hK
          obtain ⟨x0, x1, x2, x3, x4, x5, x6, x7, x8, x9, x10, x11, x12, x13, x14, x15, rfl⟩ := len16 hvl
          have HK := Lib.hid hK
          have HC := Lib.hid hc
          have HW := Lib.hid hw
          clear hK hc hw hvl
          simp only [putAll, Act.put, List.setIfInBounds_toArray, List.set_cons_succ, List.set_cons_zero, List.set_nil]
          clear HW
          go_wp2_with fail
          have fin := HK.out
          simp only [putAll, Act.put, List.setIfInBounds_toArray, List.set_cons_succ, List.set_cons_zero, List.set_nil] at fin
          exact fin
        · rintro vs W K hc hvl hw b E z f hia hva hb0 hr hK
          cases hia
          obtain ⟨x0, x1, x2, x3, x4, x5, x6, x7, x8, x9, x10, x11, x12, x13, x14, x15, rfl⟩ := len16 hvl
          have HK := Lib.hid hK
          have HC := Lib.hid hc
          have HW := Lib.hid hw
          clear hK hc hw hvl
          obtain rfl : x5 = .agg #[.int .i64 s2, .int .i64 t2] := box_get (HW.out ⟨5, .data⟩ (by simp) rfl) rfl
          obtain rfl : x12 = .pointer (some ⟨b, 0, none⟩) := Option.some.inj hva
          simp only [putAll, Act.put, List.setIfInBounds_toArray, List.set_cons_succ, List.set_cons_zero, List.set_nil]
          have kf0 := frozen_of_row W b 0 _ _ hr
          have kc0 : W.cell? ⟨b, 0, none⟩ = some (.int .i64 0) := hr.cell 0
          have kf1 := frozen_of_row W b 1 _ _ hr
          have kc1 : W.cell? ⟨b, 1, none⟩ = some (.int .i64 0) := hr.cell 1
          have HRW := Lib.hid hr
          clear HW hr hva
          go_wp2_with fail
          have fin := HK.out _ (show Row _ b 28 [.int .i64 s2, .int .i64 t2] from by simpa using (show Row _ b 28 _ from ((HRW.out.set 0 (.int .i64 s2)).set 1 (.int .i64 t2)))) (grown_put (grown_put (grown_self W _)))
          simp only [putAll, Act.put, List.setIfInBounds_toArray, List.set_cons_succ, List.set_cons_zero, List.set_nil] at fin
          exact fin
        · rintro vs W K hc hvl hw b E z f hia hva hb0 hr hK
          cases hia
          obtain ⟨x0, x1, x2, x3, x4, x5, x6, x7, x8, x9, x10, x11, x12, x13, x14, x15, rfl⟩ := len16 hvl
          have HK := Lib.hid hK
          have HC := Lib.hid hc
          have HW := Lib.hid hw
          clear hK hc hw hvl
          obtain rfl : x11 = .agg #[.int .i64 s0, .int .i64 t0] := box_get (HW.out ⟨11, .data⟩ (by simp) rfl) rfl
          obtain rfl : x13 = .pointer (some ⟨b, 0, none⟩) := Option.some.inj hva
          simp only [putAll, Act.put, List.setIfInBounds_toArray, List.set_cons_succ, List.set_cons_zero, List.set_nil]
          have kf0 := frozen_of_row W b 0 _ _ hr
          have kc0 : W.cell? ⟨b, 0, none⟩ = some (.int .i64 0) := hr.cell 0
          have kf1 := frozen_of_row W b 1 _ _ hr
          have kc1 : W.cell? ⟨b, 1, none⟩ = some (.int .i64 0) := hr.cell 1
          have HRW := Lib.hid hr
          clear HW hr hva
          go_wp2_with fail
          have fin := HK.out _ (show Row _ b 28 [.int .i64 s0, .int .i64 t0] from by simpa using (show Row _ b 28 _ from ((HRW.out.set 0 (.int .i64 s0)).set 1 (.int .i64 t0)))) (grown_put (grown_put (grown_self W _)))
          simp only [putAll, Act.put, List.setIfInBounds_toArray, List.set_cons_succ, List.set_cons_zero, List.set_nil] at fin
          exact fin
      case fin =>
        rintro vs W hJ
        obtain ⟨x0, x1, x2, x3, x4, x5, x6, x7, x8, x9, x10, x11, x12, x13, x14, x15, rfl⟩ := len16 hJ.ln
        obtain rfl : x0 = .slice (some ⟨g, 0, none⟩) 3 3 := box_get (hJ.val 0 rfl) rfl
        obtain rfl : x1 = .int .i64 1 := box_get (hJ.val 1 rfl) rfl
        obtain rfl : x2 = .int .i64 2 := box_get (hJ.val 2 rfl) rfl
        obtain rfl : x3 = .int .i64 2 := box_get (hJ.val 3 rfl) rfl
        obtain rfl : x4 = .pointer (some ⟨g, 4, none⟩) := box_get (hJ.val 4 rfl) rfl
        obtain rfl : x5 = .agg #[.int .i64 s2, .int .i64 t2] := box_get (hJ.val 5 rfl) rfl
        obtain rfl : x6 = .slice (some ⟨g, 0, none⟩) 3 3 := box_get (hJ.val 6 rfl) rfl
        obtain rfl : x7 = .int .i64 1 := box_get (hJ.val 7 rfl) rfl
        obtain rfl : x8 = .int .i64 3 := box_get (hJ.val 8 rfl) rfl
        obtain rfl : x9 = .int .i64 0 := box_get (hJ.val 9 rfl) rfl
        obtain rfl : x10 = .pointer (some ⟨g, 0, none⟩) := box_get (hJ.val 10 rfl) rfl
        obtain rfl : x11 = .agg #[.int .i64 s0, .int .i64 t0] := box_get (hJ.val 11 rfl) rfl
        obtain ⟨b12, e12, hb12, hr12⟩ := hJ.box 12 _ _ _ rfl rfl
        obtain rfl : x12 = .pointer (some ⟨b12, 0, none⟩) := Option.some.inj e12
        replace hr12 : Row W b12 28 [.int .i64 s2, .int .i64 t2] := hr12
        have HR12 := Lib.hid hr12
        clear e12 hr12
        obtain ⟨b13, e13, hb13, hr13⟩ := hJ.box 13 _ _ _ rfl rfl
        obtain rfl : x13 = .pointer (some ⟨b13, 0, none⟩) := Option.some.inj e13
        replace hr13 : Row W b13 28 [.int .i64 s0, .int .i64 t0] := hr13
        have HR13 := Lib.hid hr13
        clear e13 hr13
        have HC := Lib.hid hJ.bl
        clear hJ
        simp only [putAll, Act.put, List.setIfInBounds_toArray, List.set_cons_succ, List.set_cons_zero, List.set_nil]
        have HC4 := HC
        clear HC
        have RC4 := Lib.hid (RC3.out.below HC4.out RC3.out.lt)
        have RB4 := Lib.hid (RB.out.below HC4.out RB.out.lt)
        clear RC3 RG3 RC2 RG2
        go_wp2_with fail
        obtain ⟨E, hE⟩ : ∃ E, decide (D1 ≤ 0) = E := ⟨_, rfl⟩
        have HE := Lib.hid hE
        clear hE
        cases hm : (m1 != 0) with
        | true =>
          refine wp_region_box (by kernel_rfl) (by kernel_rfl) [28, 29, 30, 31, 32, 33, 34, 35, 36, 37, 38, 39, 40, 41] [(fun v => v = .agg #[.int .i64 c1, .int .i64 c2, .int .i64 c3, .int .i64 c4]), (fun v => v = .agg #[.int .i64 s1, .int .i64 t1]), (fun v => v = .int .i64 m1), (fun v => v = .bool true), (fun v => v = .bool true), (fun v => v = undef), (fun v => v = undef), (fun v => v = undef), (fun v => v = undef), (fun v => v = undef), (fun v => v = undef), (fun v => v = undef), (fun v => v = undef), (fun v => v = .bool true)] [none, none, none, none, none, none, none, none, none, none, none, none, none, none] [none, none, none, none, none, none, none, none, none, none, none, none, none, none] 14 rfl (by kernel_rfl) ?tr ⟨[u28, u29, u30, u31, u32, u33, u34, u35, u36, u37, u38, u39, u40, u41], by simp only [putAll, Act.put, List.setIfInBounds_toArray, List.set_cons_succ, List.set_cons_zero], rfl⟩ ?steps ?fin
          case tr =>
            rintro i v h
            rcases i with _ | _ | _ | _ | _ | _ | _ | _ | _ | _ | _ | _ | _ | _ | i
            all_goals first | trivial | (exfalso; rcases h with h | h <;> simp at h)
          case steps =>
            simp only [boxSteps, Nat.reduceAdd, Nat.zero_add, List.getD_cons_succ, List.getD_cons_zero]
            refine ⟨?_, ?_, ?_, ?_, ?_, ?_, ?_, ?_, ?_, ?_, ?_, ?_, ?_, ?_, trivial⟩
            · rintro vs W K hc hvl hw hK
              obtain ⟨x0, x1, x2, x3, x4, x5, x6, x7, x8, x9, x10, x11, x12, x13, rfl⟩ := len14 hvl
              have HK := Lib.hid hK
              have HC := Lib.hid hc
              have HW := Lib.hid hw
              clear hK hc hw hvl
              simp only [putAll, Act.put, List.setIfInBounds_toArray, List.set_cons_succ, List.set_cons_zero]
              have rr := RC4.out.below HC.out RC4.out.lt
              have d0 := rr.cell 0
              have d1 := rr.cell 1
              have d2 := rr.cell 2
              have d3 := rr.cell 3
              simp only [List.getElem?_cons_zero, List.getElem?_cons_succ] at d0 d1 d2 d3
              clear rr
              clear HW
              go_wp2_with fail
              have fin := HK.out (.agg #[.int .i64 c1, .int .i64 c2, .int .i64 c3, .int .i64 c4]) W (Below.refl _ _) rfl
              simp only [putAll, Act.put, List.setIfInBounds_toArray, List.set_cons_succ, List.set_cons_zero] at fin
              exact fin
            · rintro vs W K hc hvl hw hK
              obtain ⟨x0, x1, x2, x3, x4, x5, x6, x7, x8, x9, x10, x11, x12, x13, rfl⟩ := len14 hvl
              have HK := Lib.hid hK
              have HC := Lib.hid hc
              have HW := Lib.hid hw
              clear hK hc hw hvl
              simp only [putAll, Act.put, List.setIfInBounds_toArray, List.set_cons_succ, List.set_cons_zero]
              have rr := RB4.out.below HC.out RB4.out.lt
              have d0 := rr.cell 0
              have d1 := rr.cell 1
              simp only [List.getElem?_cons_zero, List.getElem?_cons_succ] at d0 d1
              clear rr
              clear HW
              go_wp2_with fail
              have fin := HK.out (.agg #[.int .i64 s1, .int .i64 t1]) W (Below.refl _ _) rfl
              simp only [putAll, Act.put, List.setIfInBounds_toArray, List.set_cons_succ, List.set_cons_zero] at fin
              exact fin
            · rintro vs W K hc hvl hw hK
              obtain ⟨x0, x1, x2, x3, x4, x5, x6, x7, x8, x9, x10, x11, x12, x13, rfl⟩ := len14 hvl
              have HK := Lib.hid hK
              have HC := Lib.hid hc
              have HW := Lib.hid hw
              clear hK hc hw hvl
              obtain rfl : x0 = .agg #[.int .i64 c1, .int .i64 c2, .int .i64 c3, .int .i64 c4] := box_get (HW.out ⟨0, .data⟩ (by simp) rfl) rfl
              obtain rfl : x1 = .agg #[.int .i64 s1, .int .i64 t1] := box_get (HW.out ⟨1, .data⟩ (by simp) rfl) rfl
              simp only [putAll, Act.put, List.setIfInBounds_toArray, List.set_cons_succ, List.set_cons_zero]
              clear HW
              go_wp2_with fail
              refine (W1.out W).mono ?_
              rintro e W' ⟨rfl, hb'⟩
              have HB' := Lib.hid hb'
              clear hb'
              go_wp2_with fail
              have fin := HK.out (.int .i64 m1) W' HB'.out rfl
              simp only [putAll, Act.put, List.setIfInBounds_toArray, List.set_cons_succ, List.set_cons_zero] at fin
              exact fin
            · rintro vs W K hc hvl hw hK
              obtain ⟨x0, x1, x2, x3, x4, x5, x6, x7, x8, x9, x10, x11, x12, x13, rfl⟩ := len14 hvl
              have HK := Lib.hid hK
              have HC := Lib.hid hc
              have HW := Lib.hid hw
              clear hK hc hw hvl
              obtain rfl : x2 = .int .i64 m1 := box_get (HW.out ⟨2, .data⟩ (by simp) rfl) rfl
              simp only [putAll, Act.put, List.setIfInBounds_toArray, List.set_cons_succ, List.set_cons_zero]
              clear HW
              go_wp2_with fail
              have fin := HK.out (.bool true) W (Below.refl _ _) rfl
              simp only [putAll, Act.put, List.setIfInBounds_toArray, List.set_cons_succ, List.set_cons_zero] at fin
              exact fin
            · rintro vs W K hc hvl hw hK
              obtain ⟨x0, x1, x2, x3, x4, x5, x6, x7, x8, x9, x10, x11, x12, x13, rfl⟩ := len14 hvl
              have HK := Lib.hid hK
              have HC := Lib.hid hc
              have HW := Lib.hid hw
              clear hK hc hw hvl
              obtain rfl : x3 = .bool true := box_get (HW.out ⟨3, .data⟩ (by simp) rfl) rfl
              simp only [putAll, Act.put, List.setIfInBounds_toArray, List.set_cons_succ, List.set_cons_zero]
              clear HW
              go_wp2_with fail
              have fin := HK.out (.bool true) W (Below.refl _ _) rfl
              simp only [putAll, Act.put, List.setIfInBounds_toArray, List.set_cons_succ, List.set_cons_zero] at fin
              exact fin
            · rintro vs W K hc hvl hw hK
              obtain ⟨x0, x1, x2, x3, x4, x5, x6, x7, x8, x9, x10, x11, x12, x13, rfl⟩ := len14 hvl
              have HK := Lib.hid hK
              have HC := Lib.hid hc
              have HW := Lib.hid hw
              clear hK hc hw hvl
              obtain rfl : x4 = .bool true := box_get (HW.out ⟨4, .guard⟩ (by simp) rfl) rfl
              simp only [putAll, Act.put, List.setIfInBounds_toArray, List.set_cons_succ, List.set_cons_zero]
              clear HW
              go_wp2_with fail
              have fin := HK.out (undef) W (Below.refl _ _) rfl
              simp only [putAll, Act.put, List.setIfInBounds_toArray, List.set_cons_succ, List.set_cons_zero] at fin
              exact fin
            · rintro vs W K hc hvl hw hK
              obtain ⟨x0, x1, x2, x3, x4, x5, x6, x7, x8, x9, x10, x11, x12, x13, rfl⟩ := len14 hvl
              have HK := Lib.hid hK
              have HC := Lib.hid hc
              have HW := Lib.hid hw
              clear hK hc hw hvl
              obtain rfl : x4 = .bool true := box_get (HW.out ⟨4, .guard⟩ (by simp) rfl) rfl
              simp only [putAll, Act.put, List.setIfInBounds_toArray, List.set_cons_succ, List.set_cons_zero]
              clear HW
              go_wp2_with fail
              have fin := HK.out (undef) W (Below.refl _ _) rfl
              simp only [putAll, Act.put, List.setIfInBounds_toArray, List.set_cons_succ, List.set_cons_zero] at fin
              exact fin
            · rintro vs W K hc hvl hw hK
              obtain ⟨x0, x1, x2, x3, x4, x5, x6, x7, x8, x9, x10, x11, x12, x13, rfl⟩ := len14 hvl
              have HK := Lib.hid hK
              have HC := Lib.hid hc
              have HW := Lib.hid hw
              clear hK hc hw hvl
              obtain rfl : x5 = undef := box_get (HW.out ⟨5, .data⟩ (by simp) rfl) rfl
              obtain rfl : x6 = undef := box_get (HW.out ⟨6, .data⟩ (by simp) rfl) rfl
              obtain rfl : x4 = .bool true := box_get (HW.out ⟨4, .guard⟩ (by simp) rfl) rfl
              simp only [putAll, Act.put, List.setIfInBounds_toArray, List.set_cons_succ, List.set_cons_zero]
              clear HW
              go_wp2_with fail
              have fin := HK.out (undef) W (Below.refl _ _) rfl
              simp only [putAll, Act.put, List.setIfInBounds_toArray, List.set_cons_succ, List.set_cons_zero] at fin
              exact fin
            · rintro vs W K hc hvl hw hK
              obtain ⟨x0, x1, x2, x3, x4, x5, x6, x7, x8, x9, x10, x11, x12, x13, rfl⟩ := len14 hvl
              have HK := Lib.hid hK
              have HC := Lib.hid hc
              have HW := Lib.hid hw
              clear hK hc hw hvl
              obtain rfl : x4 = .bool true := box_get (HW.out ⟨4, .guard⟩ (by simp) rfl) rfl
              simp only [putAll, Act.put, List.setIfInBounds_toArray, List.set_cons_succ, List.set_cons_zero]
              clear HW
              go_wp2_with fail
              have fin := HK.out (undef) W (Below.refl _ _) rfl
              simp only [putAll, Act.put, List.setIfInBounds_toArray, List.set_cons_succ, List.set_cons_zero] at fin
              exact fin
            · rintro vs W K hc hvl hw hK
              obtain ⟨x0, x1, x2, x3, x4, x5, x6, x7, x8, x9, x10, x11, x12, x13, rfl⟩ := len14 hvl
              have HK := Lib.hid hK
              have HC := Lib.hid hc
              have HW := Lib.hid hw
              clear hK hc hw hvl
              obtain rfl : x4 = .bool true := box_get (HW.out ⟨4, .guard⟩ (by simp) rfl) rfl
              simp only [putAll, Act.put, List.setIfInBounds_toArray, List.set_cons_succ, List.set_cons_zero]
              clear HW
              go_wp2_with fail
              have fin := HK.out (undef) W (Below.refl _ _) rfl
              simp only [putAll, Act.put, List.setIfInBounds_toArray, List.set_cons_succ, List.set_cons_zero] at fin
              exact fin
            · rintro vs W K hc hvl hw hK
              obtain ⟨x0, x1, x2, x3, x4, x5, x6, x7, x8, x9, x10, x11, x12, x13, rfl⟩ := len14 hvl
              have HK := Lib.hid hK
              have HC := Lib.hid hc
              have HW := Lib.hid hw
              clear hK hc hw hvl
              obtain rfl : x8 = undef := box_get (HW.out ⟨8, .data⟩ (by simp) rfl) rfl
              obtain rfl : x9 = undef := box_get (HW.out ⟨9, .data⟩ (by simp) rfl) rfl
              obtain rfl : x4 = .bool true := box_get (HW.out ⟨4, .guard⟩ (by simp) rfl) rfl
              simp only [putAll, Act.put, List.setIfInBounds_toArray, List.set_cons_succ, List.set_cons_zero]
              clear HW
              go_wp2_with fail
              have fin := HK.out (undef) W (Below.refl _ _) rfl
              simp only [putAll, Act.put, List.setIfInBounds_toArray, List.set_cons_succ, List.set_cons_zero] at fin
              exact fin
            · rintro vs W K hc hvl hw hK
              obtain ⟨x0, x1, x2, x3, x4, x5, x6, x7, x8, x9, x10, x11, x12, x13, rfl⟩ := len14 hvl
              have HK := Lib.hid hK
              have HC := Lib.hid hc
              have HW := Lib.hid hw
              clear hK hc hw hvl
              obtain rfl : x7 = undef := box_get (HW.out ⟨7, .data⟩ (by simp) rfl) rfl
              obtain rfl : x10 = undef := box_get (HW.out ⟨10, .data⟩ (by simp) rfl) rfl
              obtain rfl : x4 = .bool true := box_get (HW.out ⟨4, .guard⟩ (by simp) rfl) rfl
              simp only [putAll, Act.put, List.setIfInBounds_toArray, List.set_cons_succ, List.set_cons_zero]
              clear HW
              go_wp2_with fail
              have fin := HK.out (undef) W (Below.refl _ _) rfl
              simp only [putAll, Act.put, List.setIfInBounds_toArray, List.set_cons_succ, List.set_cons_zero] at fin
              exact fin
            · rintro vs W K hc hvl hw hK
              obtain ⟨x0, x1, x2, x3, x4, x5, x6, x7, x8, x9, x10, x11, x12, x13, rfl⟩ := len14 hvl
              have HK := Lib.hid hK
              have HC := Lib.hid hc
              have HW := Lib.hid hw
              clear hK hc hw hvl
              obtain rfl : x11 = undef := box_get (HW.out ⟨11, .data⟩ (by simp) rfl) rfl
              obtain rfl : x4 = .bool true := box_get (HW.out ⟨4, .guard⟩ (by simp) rfl) rfl
              simp only [putAll, Act.put, List.setIfInBounds_toArray, List.set_cons_succ, List.set_cons_zero]
              clear HW
              go_wp2_with fail
              have fin := HK.out (undef) W (Below.refl _ _) rfl
              simp only [putAll, Act.put, List.setIfInBounds_toArray, List.set_cons_succ, List.set_cons_zero] at fin
              exact fin
            · rintro vs W K hc hvl hw hK
              obtain ⟨x0, x1, x2, x3, x4, x5, x6, x7, x8, x9, x10, x11, x12, x13, rfl⟩ := len14 hvl
              have HK := Lib.hid hK
              have HC := Lib.hid hc
              have HW := Lib.hid hw
              clear hK hc hw hvl
              obtain rfl : x4 = .bool true := box_get (HW.out ⟨4, .data⟩ (by simp) rfl) rfl
              obtain rfl : x12 = undef := box_get (HW.out ⟨12, .data⟩ (by simp) rfl) rfl
              simp only [putAll, Act.put, List.setIfInBounds_toArray, List.set_cons_succ, List.set_cons_zero]
              clear HW
              go_wp2_with fail
              have fin := HK.out (.bool true) W (Below.refl _ _) rfl
              simp only [putAll, Act.put, List.setIfInBounds_toArray, List.set_cons_succ, List.set_cons_zero] at fin
              exact fin
          case fin =>
            rintro vs W hJ
            obtain ⟨x0, x1, x2, x3, x4, x5, x6, x7, x8, x9, x10, x11, x12, x13, rfl⟩ := len14 hJ.ln
            obtain rfl : x13 = .bool true := box_get (hJ.val 13 rfl) rfl
            have HC := Lib.hid hJ.bl
            clear hJ
            simp only [putAll, Act.put, List.setIfInBounds_toArray, List.set_cons_succ, List.set_cons_zero]
            clear T1 M1 N1 W1
            go_wp2_with fail
            go_ret
            refine ⟨ret_bool ?_, Below.andThen (Below.andThen (Below.andThen (Below.andThen BA.out HB.out.2.2.2 (Nat.le_refl _)) BB.out (Nat.le_refl _)) HC4.out (Nat.le_refl _)) HC.out (Nat.le_refl _)⟩
            have h := HS1.out
            have h2 : ¬ m1 = 0 := by simpa using hm
            rw [decide_eq_false h2, Bool.false_and] at h
            rw [← h]; simp
        | false =>
          refine wp_region_box (by kernel_rfl) (by kernel_rfl) [28, 29, 30, 31, 32, 33, 34, 35, 36, 37, 38, 39, 40, 41] [(fun v => v = .agg #[.int .i64 c1, .int .i64 c2, .int .i64 c3, .int .i64 c4]), (fun v => v = .agg #[.int .i64 s1, .int .i64 t1]), (fun v => v = .int .i64 m1), (fun v => v = .bool false), (fun v => v = .bool false), (fun v => v = .agg #[.int .i64 s2, .int .i64 t2]), (fun v => v = .agg #[.int .i64 s1, .int .i64 t1]), (fun v => v = .agg #[.int .i64 (s2 - s1), .int .i64 (t2 - t1)]), (fun v => v = .agg #[.int .i64 s0, .int .i64 t0]), (fun v => v = .agg #[.int .i64 s1, .int .i64 t1]), (fun v => v = .agg #[.int .i64 (s0 - s1), .int .i64 (t0 - t1)]), (fun v => v = .int .i64 D1), (fun v => v = .bool E), (fun v => v = .bool E)] [none, none, none, none, none, none, none, none, none, none, none, none, none, none] [none, none, none, none, none, none, none, none, none, none, none, none, none, none] 14 rfl (by kernel_rfl) ?tr ⟨[u28, u29, u30, u31, u32, u33, u34, u35, u36, u37, u38, u39, u40, u41], by simp only [putAll, Act.put, List.setIfInBounds_toArray, List.set_cons_succ, List.set_cons_zero], rfl⟩ ?steps ?fin
          case tr =>
            rintro i v h
            rcases i with _ | _ | _ | _ | _ | _ | _ | _ | _ | _ | _ | _ | _ | _ | i
            all_goals first | trivial | (exfalso; rcases h with h | h <;> simp at h)
          case steps =>
            simp only [boxSteps, Nat.reduceAdd, Nat.zero_add, List.getD_cons_succ, List.getD_cons_zero]
            refine ⟨?_, ?_, ?_, ?_, ?_, ?_, ?_, ?_, ?_, ?_, ?_, ?_, ?_, ?_, trivial⟩
            · rintro vs W K hc hvl hw hK
              obtain ⟨x0, x1, x2, x3, x4, x5, x6, x7, x8, x9, x10, x11, x12, x13, rfl⟩ := len14 hvl
              have HK := Lib.hid hK
              have HC := Lib.hid hc
              have HW := Lib.hid hw
              clear hK hc hw hvl
              simp only [putAll, Act.put, List.setIfInBounds_toArray, List.set_cons_succ, List.set_cons_zero]
              have rr := RC4.out.below HC.out RC4.out.lt
              have d0 := rr.cell 0
              have d1 := rr.cell 1
              have d2 := rr.cell 2
              have d3 := rr.cell 3
              simp only [List.getElem?_cons_zero, List.getElem?_cons_succ] at d0 d1 d2 d3
              clear rr
              clear HW
              go_wp2_with fail
              have fin := HK.out (.agg #[.int .i64 c1, .int .i64 c2, .int .i64 c3, .int .i64 c4]) W (Below.refl _ _) rfl
              simp only [putAll, Act.put, List.setIfInBounds_toArray, List.set_cons_succ, List.set_cons_zero] at fin
              exact fin
            · rintro vs W K hc hvl hw hK
              obtain ⟨x0, x1, x2, x3, x4, x5, x6, x7, x8, x9, x10, x11, x12, x13, rfl⟩ := len14 hvl
              have HK := Lib.hid hK
              have HC := Lib.hid hc
              have HW := Lib.hid hw
              clear hK hc hw hvl
              simp only [putAll, Act.put, List.setIfInBounds_toArray, List.set_cons_succ, List.set_cons_zero]
              have rr := RB4.out.below HC.out RB4.out.lt
              have d0 := rr.cell 0
              have d1 := rr.cell 1
              simp only [List.getElem?_cons_zero, List.getElem?_cons_succ] at d0 d1
              clear rr
              clear HW
              go_wp2_with fail
              have fin := HK.out (.agg #[.int .i64 s1, .int .i64 t1]) W (Below.refl _ _) rfl
              simp only [putAll, Act.put, List.setIfInBounds_toArray, List.set_cons_succ, List.set_cons_zero] at fin
              exact fin
            · rintro vs W K hc hvl hw hK
              obtain ⟨x0, x1, x2, x3, x4, x5, x6, x7, x8, x9, x10, x11, x12, x13, rfl⟩ := len14 hvl
              have HK := Lib.hid hK
              have HC := Lib.hid hc
              have HW := Lib.hid hw
              clear hK hc hw hvl
              obtain rfl : x0 = .agg #[.int .i64 c1, .int .i64 c2, .int .i64 c3, .int .i64 c4] := box_get (HW.out ⟨0, .data⟩ (by simp) rfl) rfl
              obtain rfl : x1 = .agg #[.int .i64 s1, .int .i64 t1] := box_get (HW.out ⟨1, .data⟩ (by simp) rfl) rfl
              simp only [putAll, Act.put, List.setIfInBounds_toArray, List.set_cons_succ, List.set_cons_zero]
              clear HW
              go_wp2_with fail
              refine (W1.out W).mono ?_
              rintro e W' ⟨rfl, hb'⟩
              have HB' := Lib.hid hb'
              clear hb'
              go_wp2_with fail
              have fin := HK.out (.int .i64 m1) W' HB'.out rfl
              simp only [putAll, Act.put, List.setIfInBounds_toArray, List.set_cons_succ, List.set_cons_zero] at fin
              exact fin
            · rintro vs W K hc hvl hw hK
              obtain ⟨x0, x1, x2, x3, x4, x5, x6, x7, x8, x9, x10, x11, x12, x13, rfl⟩ := len14 hvl
              have HK := Lib.hid hK
              have HC := Lib.hid hc
              have HW := Lib.hid hw
              clear hK hc hw hvl
              obtain rfl : x2 = .int .i64 m1 := box_get (HW.out ⟨2, .data⟩ (by simp) rfl) rfl
              simp only [putAll, Act.put, List.setIfInBounds_toArray, List.set_cons_succ, List.set_cons_zero]
              clear HW
              go_wp2_with fail
              have fin := HK.out (.bool false) W (Below.refl _ _) rfl
              simp only [putAll, Act.put, List.setIfInBounds_toArray, List.set_cons_succ, List.set_cons_zero] at fin
              exact fin
            · rintro vs W K hc hvl hw hK
              obtain ⟨x0, x1, x2, x3, x4, x5, x6, x7, x8, x9, x10, x11, x12, x13, rfl⟩ := len14 hvl
              have HK := Lib.hid hK
              have HC := Lib.hid hc
              have HW := Lib.hid hw
              clear hK hc hw hvl
              obtain rfl : x3 = .bool false := box_get (HW.out ⟨3, .data⟩ (by simp) rfl) rfl
              simp only [putAll, Act.put, List.setIfInBounds_toArray, List.set_cons_succ, List.set_cons_zero]
              clear HW
              go_wp2_with fail
              have fin := HK.out (.bool false) W (Below.refl _ _) rfl
              simp only [putAll, Act.put, List.setIfInBounds_toArray, List.set_cons_succ, List.set_cons_zero] at fin
              exact fin
            · rintro vs W K hc hvl hw hK
              obtain ⟨x0, x1, x2, x3, x4, x5, x6, x7, x8, x9, x10, x11, x12, x13, rfl⟩ := len14 hvl
              have HK := Lib.hid hK
              have HC := Lib.hid hc
              have HW := Lib.hid hw
              clear hK hc hw hvl
              obtain rfl : x4 = .bool false := box_get (HW.out ⟨4, .guard⟩ (by simp) rfl) rfl
              simp only [putAll, Act.put, List.setIfInBounds_toArray, List.set_cons_succ, List.set_cons_zero]
              have rr := HR12.out.below HC.out HR12.out.lt
              have d0 := rr.cell 0
              have d1 := rr.cell 1
              simp only [List.getElem?_cons_zero, List.getElem?_cons_succ] at d0 d1
              clear rr
              clear HW
              go_wp2_with fail
              have fin := HK.out (.agg #[.int .i64 s2, .int .i64 t2]) W (Below.refl _ _) rfl
              simp only [putAll, Act.put, List.setIfInBounds_toArray, List.set_cons_succ, List.set_cons_zero] at fin
              exact fin
            · rintro vs W K hc hvl hw hK
              obtain ⟨x0, x1, x2, x3, x4, x5, x6, x7, x8, x9, x10, x11, x12, x13, rfl⟩ := len14 hvl
              have HK := Lib.hid hK
              have HC := Lib.hid hc
              have HW := Lib.hid hw
              clear hK hc hw hvl
              obtain rfl : x4 = .bool false := box_get (HW.out ⟨4, .guard⟩ (by simp) rfl) rfl
              simp only [putAll, Act.put, List.setIfInBounds_toArray, List.set_cons_succ, List.set_cons_zero]
              have rr := RB4.out.below HC.out RB4.out.lt
              have d0 := rr.cell 0
              have d1 := rr.cell 1
              simp only [List.getElem?_cons_zero, List.getElem?_cons_succ] at d0 d1
              clear rr
              clear HW
              go_wp2_with fail
              have fin := HK.out (.agg #[.int .i64 s1, .int .i64 t1]) W (Below.refl _ _) rfl
              simp only [putAll, Act.put, List.setIfInBounds_toArray, List.set_cons_succ, List.set_cons_zero] at fin
              exact fin
            · rintro vs W K hc hvl hw hK
              obtain ⟨x0, x1, x2, x3, x4, x5, x6, x7, x8, x9, x10, x11, x12, x13, rfl⟩ := len14 hvl
              have HK := Lib.hid hK
              have HC := Lib.hid hc
              have HW := Lib.hid hw
              clear hK hc hw hvl
              obtain rfl : x5 = .agg #[.int .i64 s2, .int .i64 t2] := box_get (HW.out ⟨5, .data⟩ (by simp) rfl) rfl
              obtain rfl : x6 = .agg #[.int .i64 s1, .int .i64 t1] := box_get (HW.out ⟨6, .data⟩ (by simp) rfl) rfl
              obtain rfl : x4 = .bool false := box_get (HW.out ⟨4, .guard⟩ (by simp) rfl) rfl
              simp only [putAll, Act.put, List.setIfInBounds_toArray, List.set_cons_succ, List.set_cons_zero]
              clear HW
              go_wp2_with fail
              refine (M1.out W).mono ?_
              rintro e W' ⟨rfl, hb'⟩
              have HB' := Lib.hid hb'
              clear hb'
              go_wp2_with fail
              have fin := HK.out (.agg #[.int .i64 (s2 - s1), .int .i64 (t2 - t1)]) W' HB'.out rfl
              simp only [putAll, Act.put, List.setIfInBounds_toArray, List.set_cons_succ, List.set_cons_zero] at fin
              exact fin
            · rintro vs W K hc hvl hw hK
              obtain ⟨x0, x1, x2, x3, x4, x5, x6, x7, x8, x9, x10, x11, x12, x13, rfl⟩ := len14 hvl
              have HK := Lib.hid hK
              have HC := Lib.hid hc
              have HW := Lib.hid hw
              clear hK hc hw hvl
              obtain rfl : x4 = .bool false := box_get (HW.out ⟨4, .guard⟩ (by simp) rfl) rfl
              simp only [putAll, Act.put, List.setIfInBounds_toArray, List.set_cons_succ, List.set_cons_zero]
              have rr := HR13.out.below HC.out HR13.out.lt
              have d0 := rr.cell 0
              have d1 := rr.cell 1
              simp only [List.getElem?_cons_zero, List.getElem?_cons_succ] at d0 d1
              clear rr
              clear HW
              go_wp2_with fail
              have fin := HK.out (.agg #[.int .i64 s0, .int .i64 t0]) W (Below.refl _ _) rfl
              simp only [putAll, Act.put, List.setIfInBounds_toArray, List.set_cons_succ, List.set_cons_zero] at fin
              exact fin
            · rintro vs W K hc hvl hw hK
              obtain ⟨x0, x1, x2, x3, x4, x5, x6, x7, x8, x9, x10, x11, x12, x13, rfl⟩ := len14 hvl
              have HK := Lib.hid hK
              have HC := Lib.hid hc
              have HW := Lib.hid hw
              clear hK hc hw hvl
              obtain rfl : x4 = .bool false := box_get (HW.out ⟨4, .guard⟩ (by simp) rfl) rfl
              simp only [putAll, Act.put, List.setIfInBounds_toArray, List.set_cons_succ, List.set_cons_zero]
              have rr := RB4.out.below HC.out RB4.out.lt
              have d0 := rr.cell 0
              have d1 := rr.cell 1
              simp only [List.getElem?_cons_zero, List.getElem?_cons_succ] at d0 d1
              clear rr
              clear HW
              go_wp2_with fail
              have fin := HK.out (.agg #[.int .i64 s1, .int .i64 t1]) W (Below.refl _ _) rfl
              simp only [putAll, Act.put, List.setIfInBounds_toArray, List.set_cons_succ, List.set_cons_zero] at fin
              exact fin
            · rintro vs W K hc hvl hw hK
              obtain ⟨x0, x1, x2, x3, x4, x5, x6, x7, x8, x9, x10, x11, x12, x13, rfl⟩ := len14 hvl
              have HK := Lib.hid hK
              have HC := Lib.hid hc
              have HW := Lib.hid hw
              clear hK hc hw hvl
              obtain rfl : x8 = .agg #[.int .i64 s0, .int .i64 t0] := box_get (HW.out ⟨8, .data⟩ (by simp) rfl) rfl
              obtain rfl : x9 = .agg #[.int .i64 s1, .int .i64 t1] := box_get (HW.out ⟨9, .data⟩ (by simp) rfl) rfl
              obtain rfl : x4 = .bool false := box_get (HW.out ⟨4, .guard⟩ (by simp) rfl) rfl
              simp only [putAll, Act.put, List.setIfInBounds_toArray, List.set_cons_succ, List.set_cons_zero]
              clear HW
              go_wp2_with fail
              refine (N1.out W).mono ?_
              rintro e W' ⟨rfl, hb'⟩
              have HB' := Lib.hid hb'
              clear hb'
              go_wp2_with fail
              have fin := HK.out (.agg #[.int .i64 (s0 - s1), .int .i64 (t0 - t1)]) W' HB'.out rfl
              simp only [putAll, Act.put, List.setIfInBounds_toArray, List.set_cons_succ, List.set_cons_zero] at fin
              exact fin
            · rintro vs W K hc hvl hw hK
              obtain ⟨x0, x1, x2, x3, x4, x5, x6, x7, x8, x9, x10, x11, x12, x13, rfl⟩ := len14 hvl
              have HK := Lib.hid hK
              have HC := Lib.hid hc
              have HW := Lib.hid hw
              clear hK hc hw hvl
              obtain rfl : x7 = .agg #[.int .i64 (s2 - s1), .int .i64 (t2 - t1)] := box_get (HW.out ⟨7, .data⟩ (by simp) rfl) rfl
              obtain rfl : x10 = .agg #[.int .i64 (s0 - s1), .int .i64 (t0 - t1)] := box_get (HW.out ⟨10, .data⟩ (by simp) rfl) rfl
              obtain rfl : x4 = .bool false := box_get (HW.out ⟨4, .guard⟩ (by simp) rfl) rfl
              simp only [putAll, Act.put, List.setIfInBounds_toArray, List.set_cons_succ, List.set_cons_zero]
              clear HW
              go_wp2_with fail
              refine (T1.out W).mono ?_
              rintro e W' ⟨rfl, hb'⟩
              have HB' := Lib.hid hb'
              clear hb'
              go_wp2_with fail
              have fin := HK.out (.int .i64 D1) W' HB'.out rfl
              simp only [putAll, Act.put, List.setIfInBounds_toArray, List.set_cons_succ, List.set_cons_zero] at fin
              exact fin
            · rintro vs W K hc hvl hw hK
              obtain ⟨x0, x1, x2, x3, x4, x5, x6, x7, x8, x9, x10, x11, x12, x13, rfl⟩ := len14 hvl
              have HK := Lib.hid hK
              have HC := Lib.hid hc
              have HW := Lib.hid hw
              clear hK hc hw hvl
              obtain rfl : x11 = .int .i64 D1 := box_get (HW.out ⟨11, .data⟩ (by simp) rfl) rfl
              obtain rfl : x4 = .bool false := box_get (HW.out ⟨4, .guard⟩ (by simp) rfl) rfl
              simp only [putAll, Act.put, List.setIfInBounds_toArray, List.set_cons_succ, List.set_cons_zero]
              have hE := HE.out
              clear HW
              go_wp2_with fail
              have fin := HK.out (.bool E) W (Below.refl _ _) rfl
              simp only [putAll, Act.put, List.setIfInBounds_toArray, List.set_cons_succ, List.set_cons_zero] at fin
              exact fin
            · rintro vs W K hc hvl hw hK
              obtain ⟨x0, x1, x2, x3, x4, x5, x6, x7, x8, x9, x10, x11, x12, x13, rfl⟩ := len14 hvl
              have HK := Lib.hid hK
              have HC := Lib.hid hc
              have HW := Lib.hid hw
              clear hK hc hw hvl
              obtain rfl : x4 = .bool false := box_get (HW.out ⟨4, .data⟩ (by simp) rfl) rfl
              obtain rfl : x12 = .bool E := box_get (HW.out ⟨12, .data⟩ (by simp) rfl) rfl
              simp only [putAll, Act.put, List.setIfInBounds_toArray, List.set_cons_succ, List.set_cons_zero]
              clear HW
              go_wp2_with fail
              have fin := HK.out (.bool E) W (Below.refl _ _) rfl
              simp only [putAll, Act.put, List.setIfInBounds_toArray, List.set_cons_succ, List.set_cons_zero] at fin
              exact fin
          case fin =>
            rintro vs W hJ
            obtain ⟨x0, x1, x2, x3, x4, x5, x6, x7, x8, x9, x10, x11, x12, x13, rfl⟩ := len14 hJ.ln
            obtain rfl : x13 = .bool E := box_get (hJ.val 13 rfl) rfl
            have HC := Lib.hid hJ.bl
            clear hJ
            simp only [putAll, Act.put, List.setIfInBounds_toArray, List.set_cons_succ, List.set_cons_zero]
            clear T1 M1 N1 W1
            cases E with
            | true =>
              go_wp2_with fail
              go_ret
              refine ⟨ret_bool ?_, Below.andThen (Below.andThen (Below.andThen (Below.andThen BA.out HB.out.2.2.2 (Nat.le_refl _)) BB.out (Nat.le_refl _)) HC4.out (Nat.le_refl _)) HC.out (Nat.le_refl _)⟩
              have h := HS1.out
              have h2 : ¬ 0 < D1 := by have := of_decide_eq_true HE.out; omega
              rw [decide_eq_false h2, Bool.and_false] at h
              rw [← h]; simp
            | false =>
              have HN := Lib.hid (show S1 = true by
                rw [← HS1.out]
                have h2 : m1 = 0 := by simpa using hm
                have h3 := of_decide_eq_false HE.out
                rw [decide_eq_true h2, Bool.true_and]
                exact decide_eq_true (by omega))
              go_wp2_with fail
              exact ⟨⟨2, by omega, rfl, Lib.hid ⟨fun _ => HB.out.1 (by omega), fun _ => HN.out, by omega, Below.andThen (Below.andThen (Below.andThen HB.out.2.2.2 BB.out (Nat.le_refl _)) HC4.out (Nat.le_refl _)) HC.out (Nat.le_refl _)⟩⟩, by simp [intOf]⟩
    · go_wp2_with fail
      have rB := Row.new wr 28 [.int .i64 s2, .int .i64 t2]
      have bB := Below.al (Below.refl wr.heap.size wr) (Nat.le_refl _) (.cells #[.int .i64 s2, .int .i64 t2] 28)
      have RB := Lib.hid rB
      have BB := Lib.hid bB
      have RC3 := Lib.hid (RC2.out.below bB RC2.out.lt)
      have RG3 := Lib.hid (RG2.out.below bB RG2.out.lt)
      clear rB bB k0 k1 k2 k3 k4 k5
      obtain ⟨U, hU⟩ : ∃ V, V = wr.alloc (.cells #[.int .i64 s2, .int .i64 t2] 28) := ⟨_, rfl⟩
      rw [← hU] at RB BB RC3 RG3 ⊢
      clear hU
      refine wp_region_box (by kernel_rfl) (by kernel_rfl) [16, 17, 18, 19, 20, 21, 22, 23, 24, 25, 26, 27, 7, 8, 1000, 1001] [(fun v => v = .slice (some ⟨g, 0, none⟩) 3 3), (fun v => v = .int .i64 2), (fun v => v = .int .i64 3), (fun v => v = .int .i64 0), (fun v => v = .pointer (some ⟨g, 0, none⟩)), (fun v => v = .agg #[.int .i64 s0, .int .i64 t0]), (fun v => v = .slice (some ⟨g, 0, none⟩) 3 3), (fun v => v = .int .i64 2), (fun v => v = .int .i64 4), (fun v => v = .int .i64 1), (fun v => v = .pointer (some ⟨g, 2, none⟩)), (fun v => v = .agg #[.int .i64 s1, .int .i64 t1]), (fun _ => True), (fun _ => True), (fun _ => True), (fun _ => True)] [none, none, none, none, none, none, none, none, none, none, none, none, some (28, [.int .i64 0, .int .i64 0], [.int .i64 s0, .int .i64 t0]), some (28, [.int .i64 0, .int .i64 0], [.int .i64 s1, .int .i64 t1]), none, none] [none, none, none, none, none, none, none, none, none, none, none, none, none, none, some 12, some 13] 16 rfl (by kernel_rfl) ?tr ⟨[u16, u17, u18, u19, u20, u21, u22, u23, u24, u25, u26, u27, u7, u8, undef, undef], by simp only [putAll, Act.put, List.setIfInBounds_toArray, List.set_cons_succ, List.set_cons_zero, List.set_nil], rfl⟩ ?steps ?fin
      case tr =>
        rintro i v h
        rcases i with _ | _ | _ | _ | _ | _ | _ | _ | _ | _ | _ | _ | _ | _ | _ | _ | i
        all_goals first | trivial | (exfalso; rcases h with h | h <;> simp at h)
      case steps =>
        simp only [boxSteps, Nat.reduceAdd, Nat.zero_add, List.getD_cons_succ, List.getD_cons_zero]
        refine ⟨?_, ?_, ?_, ?_, ?_, ?_, ?_, ?_, ?_, ?_, ?_, ?_, ?_, ?_, ?_, ?_, trivial⟩
        · rintro vs W K hc hvl hw hK
          obtain ⟨x0, x1, x2, x3, x4, x5, x6, x7, x8, x9, x10, x11, x12, x13, x14, x15, rfl⟩ := len16 hvl
          have HK := Lib.hid hK
          have HC := Lib.hid hc
          have HW := Lib.hid hw
          clear hK hc hw hvl
          simp only [putAll, Act.put, List.setIfInBounds_toArray, List.set_cons_succ, List.set_cons_zero, List.set_nil]
          clear HW
          go_wp2_with fail
          have fin := HK.out (.slice (some ⟨g, 0, none⟩) 3 3) W (Below.refl _ _) rfl
          simp only [putAll, Act.put, List.setIfInBounds_toArray, List.set_cons_succ, List.set_cons_zero, List.set_nil] at fin
          exact fin
        · rintro vs W K hc hvl hw hK
          obtain ⟨x0, x1, x2, x3, x4, x5, x6, x7, x8, x9, x10, x11, x12, x13, x14, x15, rfl⟩ := len16 hvl
          have HK := Lib.hid hK
          have HC := Lib.hid hc
          have HW := Lib.hid hw
          clear hK hc hw hvl
          simp only [putAll, Act.put, List.setIfInBounds_toArray, List.set_cons_succ, List.set_cons_zero, List.set_nil]
          clear HW
          go_wp2_with fail
          have fin := HK.out (.int .i64 2) W (Below.refl _ _) rfl
          simp only [putAll, Act.put, List.setIfInBounds_toArray, List.set_cons_succ, List.set_cons_zero, List.set_nil] at fin
          exact fin
        · rintro vs W K hc hvl hw hK
          obtain ⟨x0, x1, x2, x3, x4, x5, x6, x7, x8, x9, x10, x11, x12, x13, x14, x15, rfl⟩ := len16 hvl
          have HK := Lib.hid hK
          have HC := Lib.hid hc
          have HW := Lib.hid hw
          clear hK hc hw hvl
          obtain rfl : x1 = .int .i64 2 := box_get (HW.out ⟨1, .data⟩ (by simp) rfl) rfl
          simp only [putAll, Act.put, List.setIfInBounds_toArray, List.set_cons_succ, List.set_cons_zero, List.set_nil]
          clear HW
          go_wp2_with fail
          have fin := HK.out (.int .i64 3) W (Below.refl _ _) rfl
          simp only [putAll, Act.put, List.setIfInBounds_toArray, List.set_cons_succ, List.set_cons_zero, List.set_nil] at fin
          exact fin
        · rintro vs W K hc hvl hw hK
          obtain ⟨x0, x1, x2, x3, x4, x5, x6, x7, x8, x9, x10, x11, x12, x13, x14, x15, rfl⟩ := len16 hvl
          have HK := Lib.hid hK
          have HC := Lib.hid hc
          have HW := Lib.hid hw
          clear hK hc hw hvl
          obtain rfl : x2 = .int .i64 3 := box_get (HW.out ⟨2, .data⟩ (by simp) rfl) rfl
          simp only [putAll, Act.put, List.setIfInBounds_toArray, List.set_cons_succ, List.set_cons_zero, List.set_nil]
          clear HW
          go_wp2_with fail
          have fin := HK.out (.int .i64 0) W (Below.refl _ _) rfl
          simp only [putAll, Act.put, List.setIfInBounds_toArray, List.set_cons_succ, List.set_cons_zero, List.set_nil] at fin
          exact fin
        · rintro vs W K hc hvl hw hK
          obtain ⟨x0, x1, x2, x3, x4, x5, x6, x7, x8, x9, x10, x11, x12, x13, x14, x15, rfl⟩ := len16 hvl
          have HK := Lib.hid hK
          have HC := Lib.hid hc
          have HW := Lib.hid hw
          clear hK hc hw hvl
          obtain rfl : x0 = .slice (some ⟨g, 0, none⟩) 3 3 := box_get (HW.out ⟨0, .data⟩ (by simp) rfl) rfl
          obtain rfl : x3 = .int .i64 0 := box_get (HW.out ⟨3, .data⟩ (by simp) rfl) rfl
          simp only [putAll, Act.put, List.setIfInBounds_toArray, List.set_cons_succ, List.set_cons_zero, List.set_nil]
          clear HW
          go_wp2_with fail
          have fin := HK.out (.pointer (some ⟨g, 0, none⟩)) W (Below.refl _ _) rfl
          simp only [putAll, Act.put, List.setIfInBounds_toArray, List.set_cons_succ, List.set_cons_zero, List.set_nil] at fin
          exact fin
        · rintro vs W K hc hvl hw hK
          obtain ⟨x0, x1, x2, x3, x4, x5, x6, x7, x8, x9, x10, x11, x12, x13, x14, x15, rfl⟩ := len16 hvl
          have HK := Lib.hid hK
          have HC := Lib.hid hc
          have HW := Lib.hid hw
          clear hK hc hw hvl
          obtain rfl : x4 = .pointer (some ⟨g, 0, none⟩) := box_get (HW.out ⟨4, .data⟩ (by simp) rfl) rfl
          simp only [putAll, Act.put, List.setIfInBounds_toArray, List.set_cons_succ, List.set_cons_zero, List.set_nil]
          have rr := RG3.out.below HC.out RG3.out.lt
          have d0 := rr.cell 0
          have d1 := rr.cell 1
          simp only [List.getElem?_cons_zero, List.getElem?_cons_succ] at d0 d1
          clear rr
          clear HW
          go_wp2_with fail
          have fin := HK.out (.agg #[.int .i64 s0, .int .i64 t0]) W (Below.refl _ _) rfl
          simp only [putAll, Act.put, List.setIfInBounds_toArray, List.set_cons_succ, List.set_cons_zero, List.set_nil] at fin
          exact fin
        · rintro vs W K hc hvl hw hK
          obtain ⟨x0, x1, x2, x3, x4, x5, x6, x7, x8, x9, x10, x11, x12, x13, x14, x15, rfl⟩ := len16 hvl
          have HK := Lib.hid hK
          have HC := Lib.hid hc
          have HW := Lib.hid hw
          clear hK hc hw hvl
          simp only [putAll, Act.put, List.setIfInBounds_toArray, List.set_cons_succ, List.set_cons_zero, List.set_nil]
          clear HW
          go_wp2_with fail
          have fin := HK.out (.slice (some ⟨g, 0, none⟩) 3 3) W (Below.refl _ _) rfl
          simp only [putAll, Act.put, List.setIfInBounds_toArray, List.set_cons_succ, List.set_cons_zero, List.set_nil] at fin
          exact fin
        · rintro vs W K hc hvl hw hK
          obtain ⟨x0, x1, x2, x3, x4, x5, x6, x7, x8, x9, x10, x11, x12, x13, x14, x15, rfl⟩ := len16 hvl
          have HK := Lib.hid hK
          have HC := Lib.hid hc
          have HW := Lib.hid hw
          clear hK hc hw hvl
          simp only [putAll, Act.put, List.setIfInBounds_toArray, List.set_cons_succ, List.set_cons_zero, List.set_nil]
          clear HW
          go_wp2_with fail
          have fin := HK.out (.int .i64 2) W (Below.refl _ _) rfl
          simp only [putAll, Act.put, List.setIfInBounds_toArray, List.set_cons_succ, List.set_cons_zero, List.set_nil] at fin
          exact fin
        · rintro vs W K hc hvl hw hK
          obtain ⟨x0, x1, x2, x3, x4, x5, x6, x7, x8, x9, x10, x11, x12, x13, x14, x15, rfl⟩ := len16 hvl
          have HK := Lib.hid hK
          have HC := Lib.hid hc
          have HW := Lib.hid hw
          clear hK hc hw hvl
          obtain rfl : x7 = .int .i64 2 := box_get (HW.out ⟨7, .data⟩ (by simp) rfl) rfl
          simp only [putAll, Act.put, List.setIfInBounds_toArray, List.set_cons_succ, List.set_cons_zero, List.set_nil]
          clear HW
          go_wp2_with fail
          have fin := HK.out (.int .i64 4) W (Below.refl _ _) rfl
          simp only [putAll, Act.put, List.setIfInBounds_toArray, List.set_cons_succ, List.set_cons_zero, List.set_nil] at fin
          exact fin
        · rintro vs W K hc hvl hw hK
          obtain ⟨x0, x1, x2, x3, x4, x5, x6, x7, x8, x9, x10, x11, x12, x13, x14, x15, rfl⟩ := len16 hvl
          have HK := Lib.hid hK
          have HC := Lib.hid hc
          have HW := Lib.hid hw
          clear hK hc hw hvl
          obtain rfl : x8 = .int .i64 4 := box_get (HW.out ⟨8, .data⟩ (by simp) rfl) rfl
          simp only [putAll, Act.put, List.setIfInBounds_toArray, List.set_cons_succ, List.set_cons_zero, List.set_nil]
          clear HW
          go_wp2_with fail
          have fin := HK.out (.int .i64 1) W (Below.refl _ _) rfl
          simp only [putAll, Act.put, List.setIfInBounds_toArray, List.set_cons_succ, List.set_cons_zero, List.set_nil] at fin
          exact fin
        · rintro vs W K hc hvl hw hK
          obtain ⟨x0, x1, x2, x3, x4, x5, x6, x7, x8, x9, x10, x11, x12, x13, x14, x15, rfl⟩ := len16 hvl
          have HK := Lib.hid hK
          have HC := Lib.hid hc
          have HW := Lib.hid hw
          clear hK hc hw hvl
          obtain rfl : x6 = .slice (some ⟨g, 0, none⟩) 3 3 := box_get (HW.out ⟨6, .data⟩ (by simp) rfl) rfl
          obtain rfl : x9 = .int .i64 1 := box_get (HW.out ⟨9, .data⟩ (by simp) rfl) rfl
          simp only [putAll, Act.put, List.setIfInBounds_toArray, List.set_cons_succ, List.set_cons_zero, List.set_nil]
          clear HW
          go_wp2_with fail
          have fin := HK.out (.pointer (some ⟨g, 2, none⟩)) W (Below.refl _ _) rfl
          simp only [putAll, Act.put, List.setIfInBounds_toArray, List.set_cons_succ, List.set_cons_zero, List.set_nil] at fin
          exact fin
        · rintro vs W K hc hvl hw hK
          obtain ⟨x0, x1, x2, x3, x4, x5, x6, x7, x8, x9, x10, x11, x12, x13, x14, x15, rfl⟩ := len16 hvl
          have HK := Lib.hid hK
          have HC := Lib.hid hc
          have HW := Lib.hid hw
          clear hK hc hw hvl
          obtain rfl : x10 = .pointer (some ⟨g, 2, none⟩) := box_get (HW.out ⟨10, .data⟩ (by simp) rfl) rfl
          simp only [putAll, Act.put, List.setIfInBounds_toArray, List.set_cons_succ, List.set_cons_zero, List.set_nil]
          have rr := RG3.out.below HC.out RG3.out.lt
          have d2 := rr.cell 2
          have d3 := rr.cell 3
          simp only [List.getElem?_cons_zero, List.getElem?_cons_succ] at d2 d3
          clear rr
          clear HW
          go_wp2_with fail
          have fin := HK.out (.agg #[.int .i64 s1, .int .i64 t1]) W (Below.refl _ _) rfl
          simp only [putAll, Act.put, List.setIfInBounds_toArray, List.set_cons_succ, List.set_cons_zero, List.set_nil] at fin
          exact fin
        · rintro vs W K hc hvl hw hK
          obtain ⟨x0, x1, x2, x3, x4, x5, x6, x7, x8, x9, x10, x11, x12, x13, x14, x15, rfl⟩ := len16 hvl
          have HK := Lib.hid hK
          have HC := Lib.hid hc
          have HW := Lib.hid hw
          clear hK hc hw hvl
          simp only [putAll, Act.put, List.setIfInBounds_toArray, List.set_cons_succ, List.set_cons_zero, List.set_nil]
          clear HW
          go_wp2_with fail
          have fin := HK.out
          simp only [putAll, Act.put, List.setIfInBounds_toArray, List.set_cons_succ, List.set_cons_zero, List.set_nil] at fin
          exact fin
        · rintro vs W K hc hvl hw hK
          obtain ⟨x0, x1, x2, x3, x4, x5, x6, x7, x8, x9, x10, x11, x12, x13, x14, x15, rfl⟩ := len16 hvl
          have HK := Lib.hid hK
          have HC := Lib.hid hc
          have HW := Lib.hid hw
          clear hK hc hw hvl
          simp only [putAll, Act.put, List.setIfInBounds_toArray, List.set_cons_succ, List.set_cons_zero, List.set_nil]
          clear HW
          go_wp2_with fail
          have fin := HK.out
          simp only [putAll, Act.put, List.setIfInBounds_toArray, List.set_cons_succ, List.set_cons_zero, List.set_nil] at fin
          exact fin
        · rintro vs W K hc hvl hw b E z f hia hva hb0 hr hK
          cases hia
          obtain ⟨x0, x1, x2, x3, x4, x5, x6, x7, x8, x9, x10, x11, x12, x13, x14, x15, rfl⟩ := len16 hvl
          have HK := Lib.hid hK
          have HC := Lib.hid hc
          have HW := Lib.hid hw
          clear hK hc hw hvl
          obtain rfl : x5 = .agg #[.int .i64 s0, .int .i64 t0] := box_get (HW.out ⟨5, .data⟩ (by simp) rfl) rfl
          obtain rfl : x12 = .pointer (some ⟨b, 0, none⟩) := Option.some.inj hva
          simp only [putAll, Act.put, List.setIfInBounds_toArray, List.set_cons_succ, List.set_cons_zero, List.set_nil]
          have kf0 := frozen_of_row W b 0 _ _ hr
          have kc0 : W.cell? ⟨b, 0, none⟩ = some (.int .i64 0) := hr.cell 0
          have kf1 := frozen_of_row W b 1 _ _ hr
          have kc1 : W.cell? ⟨b, 1, none⟩ = some (.int .i64 0) := hr.cell 1
          have HRW := Lib.hid hr
          clear HW hr hva
          go_wp2_with fail
          have fin := HK.out _ (show Row _ b 28 [.int .i64 s0, .int .i64 t0] from by simpa using (show Row _ b 28 _ from ((HRW.out.set 0 (.int .i64 s0)).set 1 (.int .i64 t0)))) (grown_put (grown_put (grown_self W _)))
          simp only [putAll, Act.put, List.setIfInBounds_toArray, List.set_cons_succ, List.set_cons_zero, List.set_nil] at fin
          exact fin
        · rintro vs W K hc hvl hw b E z f hia hva hb0 hr hK
          cases hia
          obtain ⟨x0, x1, x2, x3, x4, x5, x6, x7, x8, x9, x10, x11, x12, x13, x14, x15, rfl⟩ := len16 hvl
          have HK := Lib.hid hK
          have HC := Lib.hid hc
          have HW := Lib.hid hw
          clear hK hc hw hvl
          obtain rfl : x11 = .agg #[.int .i64 s1, .int .i64 t1] := box_get (HW.out ⟨11, .data⟩ (by simp) rfl) rfl
          obtain rfl : x13 = .pointer (some ⟨b, 0, none⟩) := Option.some.inj hva
          simp only [putAll, Act.put, List.setIfInBounds_toArray, List.set_cons_succ, List.set_cons_zero, List.set_nil]
          have kf0 := frozen_of_row W b 0 _ _ hr
          have kc0 : W.cell? ⟨b, 0, none⟩ = some (.int .i64 0) := hr.cell 0
          have kf1 := frozen_of_row W b 1 _ _ hr
          have kc1 : W.cell? ⟨b, 1, none⟩ = some (.int .i64 0) := hr.cell 1
          have HRW := Lib.hid hr
          clear HW hr hva
          go_wp2_with fail
          have fin := HK.out _ (show Row _ b 28 [.int .i64 s1, .int .i64 t1] from by simpa using (show Row _ b 28 _ from ((HRW.out.set 0 (.int .i64 s1)).set 1 (.int .i64 t1)))) (grown_put (grown_put (grown_self W _)))
          simp only [putAll, Act.put, List.setIfInBounds_toArray, List.set_cons_succ, List.set_cons_zero, List.set_nil] at fin
          exact fin
      case fin =>
        rintro vs W hJ
        obtain ⟨x0, x1, x2, x3, x4, x5, x6, x7, x8, x9, x10, x11, x12, x13, x14, x15, rfl⟩ := len16 hJ.ln
        obtain rfl : x0 = .slice (some ⟨g, 0, none⟩) 3 3 := box_get (hJ.val 0 rfl) rfl
        obtain rfl : x1 = .int .i64 2 := box_get (hJ.val 1 rfl) rfl
        obtain rfl : x2 = .int .i64 3 := box_get (hJ.val 2 rfl) rfl
        obtain rfl : x3 = .int .i64 0 := box_get (hJ.val 3 rfl) rfl
        obtain rfl : x4 = .pointer (some ⟨g, 0, none⟩) := box_get (hJ.val 4 rfl) rfl
        obtain rfl : x5 = .agg #[.int .i64 s0, .int .i64 t0] := box_get (hJ.val 5 rfl) rfl
        obtain rfl : x6 = .slice (some ⟨g, 0, none⟩) 3 3 := box_get (hJ.val 6 rfl) rfl
        obtain rfl : x7 = .int .i64 2 := box_get (hJ.val 7 rfl) rfl
        obtain rfl : x8 = .int .i64 4 := box_get (hJ.val 8 rfl) rfl
        obtain rfl : x9 = .int .i64 1 := box_get (hJ.val 9 rfl) rfl
        obtain rfl : x10 = .pointer (some ⟨g, 2, none⟩) := box_get (hJ.val 10 rfl) rfl
        obtain rfl : x11 = .agg #[.int .i64 s1, .int .i64 t1] := box_get (hJ.val 11 rfl) rfl
        obtain ⟨b12, e12, hb12, hr12⟩ := hJ.box 12 _ _ _ rfl rfl
        obtain rfl : x12 = .pointer (some ⟨b12, 0, none⟩) := Option.some.inj e12
        replace hr12 : Row W b12 28 [.int .i64 s0, .int .i64 t0] := hr12
        have HR12 := Lib.hid hr12
        clear e12 hr12
        obtain ⟨b13, e13, hb13, hr13⟩ := hJ.box 13 _ _ _ rfl rfl
        obtain rfl : x13 = .pointer (some ⟨b13, 0, none⟩) := Option.some.inj e13
        replace hr13 : Row W b13 28 [.int .i64 s1, .int .i64 t1] := hr13
        have HR13 := Lib.hid hr13
        clear e13 hr13
        have HC := Lib.hid hJ.bl
        clear hJ
        simp only [putAll, Act.put, List.setIfInBounds_toArray, List.set_cons_succ, List.set_cons_zero, List.set_nil]
        have HC4 := HC
        clear HC
        have RC4 := Lib.hid (RC3.out.below HC4.out RC3.out.lt)
        have RB4 := Lib.hid (RB.out.below HC4.out RB.out.lt)
        clear RC3 RG3 RC2 RG2
        go_wp2_with fail
        obtain ⟨E, hE⟩ : ∃ E, decide (D2 ≤ 0) = E := ⟨_, rfl⟩
        have HE := Lib.hid hE
        clear hE
        cases hm : (m2 != 0) with
        | true =>
          refine wp_region_box (by kernel_rfl) (by kernel_rfl) [28, 29, 30, 31, 32, 33, 34, 35, 36, 37, 38, 39, 40, 41] [(fun v => v = .agg #[.int .i64 c1, .int .i64 c2, .int .i64 c3, .int .i64 c4]), (fun v => v = .agg #[.int .i64 s2, .int .i64 t2]), (fun v => v = .int .i64 m2), (fun v => v = .bool true), (fun v => v = .bool true), (fun v => v = undef), (fun v => v = undef), (fun v => v = undef), (fun v => v = undef), (fun v => v = undef), (fun v => v = undef), (fun v => v = undef), (fun v => v = undef), (fun v => v = .bool true)] [none, none, none, none, none, none, none, none, none, none, none, none, none, none] [none, none, none, none, none, none, none, none, none, none, none, none, none, none] 14 rfl (by kernel_rfl) ?tr ⟨[u28, u29, u30, u31, u32, u33, u34, u35, u36, u37, u38, u39, u40, u41], by simp only [putAll, Act.put, List.setIfInBounds_toArray, List.set_cons_succ, List.set_cons_zero], rfl⟩ ?steps ?fin
          case tr =>
            rintro i v h
            rcases i with _ | _ | _ | _ | _ | _ | _ | _ | _ | _ | _ | _ | _ | _ | i
            all_goals first | trivial | (exfalso; rcases h with h | h <;> simp at h)
          case steps =>
            simp only [boxSteps, Nat.reduceAdd, Nat.zero_add, List.getD_cons_succ, List.getD_cons_zero]
            refine ⟨?_, ?_, ?_, ?_, ?_, ?_, ?_, ?_, ?_, ?_, ?_, ?_, ?_, ?_, trivial⟩
            · rintro vs W K hc hvl hw hK
              obtain ⟨x0, x1, x2, x3, x4, x5, x6, x7, x8, x9, x10, x11, x12, x13, rfl⟩ := len14 hvl
              have HK := Lib.hid hK
              have HC := Lib.hid hc
              have HW := Lib.hid hw
              clear hK hc hw hvl
              simp only [putAll, Act.put, List.setIfInBounds_toArray, List.set_cons_succ, List.set_cons_zero]
              have rr := RC4.out.below HC.out RC4.out.lt
              have d0 := rr.cell 0
              have d1 := rr.cell 1
              have d2 := rr.cell 2
              have d3 := rr.cell 3
              simp only [List.getElem?_cons_zero, List.getElem?_cons_succ] at d0 d1 d2 d3
              clear rr
              clear HW
              go_wp2_with fail
              have fin := HK.out (.agg #[.int .i64 c1, .int .i64 c2, .int .i64 c3, .int .i64 c4]) W (Below.refl _ _) rfl
              simp only [putAll, Act.put, List.setIfInBounds_toArray, List.set_cons_succ, List.set_cons_zero] at fin
              exact fin
            · rintro vs W K hc hvl hw hK
              obtain ⟨x0, x1, x2, x3, x4, x5, x6, x7, x8, x9, x10, x11, x12, x13, rfl⟩ := len14 hvl
              have HK := Lib.hid hK
              have HC := Lib.hid hc
              have HW := Lib.hid hw
              clear hK hc hw hvl
              simp only [putAll, Act.put, List.setIfInBounds_toArray, List.set_cons_succ, List.set_cons_zero]
              have rr := RB4.out.below HC.out RB4.out.lt
              have d0 := rr.cell 0
              have d1 := rr.cell 1
              simp only [List.getElem?_cons_zero, List.getElem?_cons_succ] at d0 d1
              clear rr
              clear HW
              go_wp2_with fail
              have fin := HK.out (.agg #[.int .i64 s2, .int .i64 t2]) W (Below.refl _ _) rfl
              simp only [putAll, Act.put, List.setIfInBounds_toArray, List.set_cons_succ, List.set_cons_zero] at fin
              exact fin
            · rintro vs W K hc hvl hw hK
              obtain ⟨x0, x1, x2, x3, x4, x5, x6, x7, x8, x9, x10, x11, x12, x13, rfl⟩ := len14 hvl
              have HK := Lib.hid hK
              have HC := Lib.hid hc
              have HW := Lib.hid hw
              clear hK hc hw hvl
              obtain rfl : x0 = .agg #[.int .i64 c1, .int .i64 c2, .int .i64 c3, .int .i64 c4] := box_get (HW.out ⟨0, .data⟩ (by simp) rfl) rfl
              obtain rfl : x1 = .agg #[.int .i64 s2, .int .i64 t2] := box_get (HW.out ⟨1, .data⟩ (by simp) rfl) rfl
              simp only [putAll, Act.put, List.setIfInBounds_toArray, List.set_cons_succ, List.set_cons_zero]
              clear HW
              go_wp2_with fail
              refine (W2.out W).mono ?_
              rintro e W' ⟨rfl, hb'⟩
              have HB' := Lib.hid hb'
              clear hb'
              go_wp2_with fail
              have fin := HK.out (.int .i64 m2) W' HB'.out rfl
              simp only [putAll, Act.put, List.setIfInBounds_toArray, List.set_cons_succ, List.set_cons_zero] at fin
              exact fin
            · rintro vs W K hc hvl hw hK
              obtain ⟨x0, x1, x2, x3, x4, x5, x6, x7, x8, x9, x10, x11, x12, x13, rfl⟩ := len14 hvl
              have HK := Lib.hid hK
              have HC := Lib.hid hc
              have HW := Lib.hid hw
              clear hK hc hw hvl
              obtain rfl : x2 = .int .i64 m2 := box_get (HW.out ⟨2, .data⟩ (by simp) rfl) rfl
              simp only [putAll, Act.put, List.setIfInBounds_toArray, List.set_cons_succ, List.set_cons_zero]
              clear HW
              go_wp2_with fail
              have fin := HK.out (.bool true) W (Below.refl _ _) rfl
              simp only [putAll, Act.put, List.setIfInBounds_toArray, List.set_cons_succ, List.set_cons_zero] at fin
              exact fin
            · rintro vs W K hc hvl hw hK
              obtain ⟨x0, x1, x2, x3, x4, x5, x6, x7, x8, x9, x10, x11, x12, x13, rfl⟩ := len14 hvl
              have HK := Lib.hid hK
              have HC := Lib.hid hc
              have HW := Lib.hid hw
              clear hK hc hw hvl
              obtain rfl : x3 = .bool true := box_get (HW.out ⟨3, .data⟩ (by simp) rfl) rfl
              simp only [putAll, Act.put, List.setIfInBounds_toArray, List.set_cons_succ, List.set_cons_zero]
              clear HW
              go_wp2_with fail
              have fin := HK.out (.bool true) W (Below.refl _ _) rfl
              simp only [putAll, Act.put, List.setIfInBounds_toArray, List.set_cons_succ, List.set_cons_zero] at fin
              exact fin
            · rintro vs W K hc hvl hw hK
              obtain ⟨x0, x1, x2, x3, x4, x5, x6, x7, x8, x9, x10, x11, x12, x13, rfl⟩ := len14 hvl
              have HK := Lib.hid hK
              have HC := Lib.hid hc
              have HW := Lib.hid hw
              clear hK hc hw hvl
              obtain rfl : x4 = .bool true := box_get (HW.out ⟨4, .guard⟩ (by simp) rfl) rfl
              simp only [putAll, Act.put, List.setIfInBounds_toArray, List.set_cons_succ, List.set_cons_zero]
              clear HW
              go_wp2_with fail
              have fin := HK.out (undef) W (Below.refl _ _) rfl
              simp only [putAll, Act.put, List.setIfInBounds_toArray, List.set_cons_succ, List.set_cons_zero] at fin
              exact fin
            · rintro vs W K hc hvl hw hK
              obtain ⟨x0, x1, x2, x3, x4, x5, x6, x7, x8, x9, x10, x11, x12, x13, rfl⟩ := len14 hvl
              have HK := Lib.hid hK
              have HC := Lib.hid hc
              have HW := Lib.hid hw
              clear hK hc hw hvl
              obtain rfl : x4 = .bool true := box_get (HW.out ⟨4, .guard⟩ (by simp) rfl) rfl
              simp only [putAll, Act.put, List.setIfInBounds_toArray, List.set_cons_succ, List.set_cons_zero]
              clear HW
              go_wp2_with fail
              have fin := HK.out (undef) W (Below.refl _ _) rfl
              simp only [putAll, Act.put, List.setIfInBounds_toArray, List.set_cons_succ, List.set_cons_zero] at fin
              exact fin
            · rintro vs W K hc hvl hw hK
              obtain ⟨x0, x1, x2, x3, x4, x5, x6, x7, x8, x9, x10, x11, x12, x13, rfl⟩ := len14 hvl
              have HK := Lib.hid hK
              have HC := Lib.hid hc
              have HW := Lib.hid hw
              clear hK hc hw hvl
              obtain rfl : x5 = undef := box_get (HW.out ⟨5, .data⟩ (by simp) rfl) rfl
              obtain rfl : x6 = undef := box_get (HW.out ⟨6, .data⟩ (by simp) rfl) rfl
              obtain rfl : x4 = .bool true := box_get (HW.out ⟨4, .guard⟩ (by simp) rfl) rfl
              simp only [putAll, Act.put, List.setIfInBounds_toArray, List.set_cons_succ, List.set_cons_zero]
              clear HW
              go_wp2_with fail
              have fin := HK.out (undef) W (Below.refl _ _) rfl
              simp only [putAll, Act.put, List.setIfInBounds_toArray, List.set_cons_succ, List.set_cons_zero] at fin
              exact fin
            · rintro vs W K hc hvl hw hK
              obtain ⟨x0, x1, x2, x3, x4, x5, x6, x7, x8, x9, x10, x11, x12, x13, rfl⟩ := len14 hvl
              have HK := Lib.hid hK
              have HC := Lib.hid hc
              have HW := Lib.hid hw
              clear hK hc hw hvl
              obtain rfl : x4 = .bool true := box_get (HW.out ⟨4, .guard⟩ (by simp) rfl) rfl
              simp only [putAll, Act.put, List.setIfInBounds_toArray, List.set_cons_succ, List.set_cons_zero]
              clear HW
              go_wp2_with fail
              have fin := HK.out (undef) W (Below.refl _ _) rfl
              simp only [putAll, Act.put, List.setIfInBounds_toArray, List.set_cons_succ, List.set_cons_zero] at fin
              exact fin
            · rintro vs W K hc hvl hw hK
              obtain ⟨x0, x1, x2, x3, x4, x5, x6, x7, x8, x9, x10, x11, x12, x13, rfl⟩ := len14 hvl
              have HK := Lib.hid hK
              have HC := Lib.hid hc
              have HW := Lib.hid hw
              clear hK hc hw hvl
              obtain rfl : x4 = .bool true := box_get (HW.out ⟨4, .guard⟩ (by simp) rfl) rfl
              simp only [putAll, Act.put, List.setIfInBounds_toArray, List.set_cons_succ, List.set_cons_zero]
              clear HW
              go_wp2_with fail
              have fin := HK.out (undef) W (Below.refl _ _) rfl
              simp only [putAll, Act.put, List.setIfInBounds_toArray, List.set_cons_succ, List.set_cons_zero] at fin
              exact fin
            · rintro vs W K hc hvl hw hK
              obtain ⟨x0, x1, x2, x3, x4, x5, x6, x7, x8, x9, x10, x11, x12, x13, rfl⟩ := len14 hvl
              have HK := Lib.hid hK
              have HC := Lib.hid hc
              have HW := Lib.hid hw
              clear hK hc hw hvl
              obtain rfl : x8 = undef := box_get (HW.out ⟨8, .data⟩ (by simp) rfl) rfl
              obtain rfl : x9 = undef := box_get (HW.out ⟨9, .data⟩ (by simp) rfl) rfl
              obtain rfl : x4 = .bool true := box_get (HW.out ⟨4, .guard⟩ (by simp) rfl) rfl
              simp only [putAll, Act.put, List.setIfInBounds_toArray, List.set_cons_succ, List.set_cons_zero]
              clear HW
              go_wp2_with fail
              have fin := HK.out (undef) W (Below.refl _ _) rfl
              simp only [putAll, Act.put, List.setIfInBounds_toArray, List.set_cons_succ, List.set_cons_zero] at fin
              exact fin
            · rintro vs W K hc hvl hw hK
              obtain ⟨x0, x1, x2, x3, x4, x5, x6, x7, x8, x9, x10, x11, x12, x13, rfl⟩ := len14 hvl
              have HK := Lib.hid hK
              have HC := Lib.hid hc
              have HW := Lib.hid hw
              clear hK hc hw hvl
              obtain rfl : x7 = undef := box_get (HW.out ⟨7, .data⟩ (by simp) rfl) rfl
              obtain rfl : x10 = undef := box_get (HW.out ⟨10, .data⟩ (by simp) rfl) rfl
              obtain rfl : x4 = .bool true := box_get (HW.out ⟨4, .guard⟩ (by simp) rfl) rfl
              simp only [putAll, Act.put, List.setIfInBounds_toArray, List.set_cons_succ, List.set_cons_zero]
              clear HW
              go_wp2_with fail
              have fin := HK.out (undef) W (Below.refl _ _) rfl
              simp only [putAll, Act.put, List.setIfInBounds_toArray, List.set_cons_succ, List.set_cons_zero] at fin
              exact fin
            · rintro vs W K hc hvl hw hK
              obtain ⟨x0, x1, x2, x3, x4, x5, x6, x7, x8, x9, x10, x11, x12, x13, rfl⟩ := len14 hvl
              have HK := Lib.hid hK
              have HC := Lib.hid hc
              have HW := Lib.hid hw
              clear hK hc hw hvl
              obtain rfl : x11 = undef := box_get (HW.out ⟨11, .data⟩ (by simp) rfl) rfl
              obtain rfl : x4 = .bool true := box_get (HW.out ⟨4, .guard⟩ (by simp) rfl) rfl
              simp only [putAll, Act.put, List.setIfInBounds_toArray, List.set_cons_succ, List.set_cons_zero]
              clear HW
              go_wp2_with fail
              have fin := HK.out (undef) W (Below.refl _ _) rfl
              simp only [putAll, Act.put, List.setIfInBounds_toArray, List.set_cons_succ, List.set_cons_zero] at fin
              exact fin
            · rintro vs W K hc hvl hw hK
              obtain ⟨x0, x1, x2, x3, x4, x5, x6, x7, x8, x9, x10, x11, x12, x13, rfl⟩ := len14 hvl
              have HK := Lib.hid hK
              have HC := Lib.hid hc
              have HW := Lib.hid hw
              clear hK hc hw hvl
              obtain rfl : x4 = .bool true := box_get (HW.out ⟨4, .data⟩ (by simp) rfl) rfl
              obtain rfl : x12 = undef := box_get (HW.out ⟨12, .data⟩ (by simp) rfl) rfl
              simp only [putAll, Act.put, List.setIfInBounds_toArray, List.set_cons_succ, List.set_cons_zero]
              clear HW
              go_wp2_with fail
              have fin := HK.out (.bool true) W (Below.refl _ _) rfl
              simp only [putAll, Act.put, List.setIfInBounds_toArray, List.set_cons_succ, List.set_cons_zero] at fin
              exact fin
          case fin =>
            rintro vs W hJ
            obtain ⟨x0, x1, x2, x3, x4, x5, x6, x7, x8, x9, x10, x11, x12, x13, rfl⟩ := len14 hJ.ln
            obtain rfl : x13 = .bool true := box_get (hJ.val 13 rfl) rfl
            have HC := Lib.hid hJ.bl
            clear hJ
            simp only [putAll, Act.put, List.setIfInBounds_toArray, List.set_cons_succ, List.set_cons_zero]
            clear T2 M2 N2 W2
            go_wp2_with fail
            go_ret
            refine ⟨ret_bool ?_, Below.andThen (Below.andThen (Below.andThen (Below.andThen BA.out HB.out.2.2.2 (Nat.le_refl _)) BB.out (Nat.le_refl _)) HC4.out (Nat.le_refl _)) HC.out (Nat.le_refl _)⟩
            have h := HS2.out
            have h2 : ¬ m2 = 0 := by simpa using hm
            rw [decide_eq_false h2, Bool.false_and] at h
            rw [← h]; simp
        | false =>
          refine wp_region_box (by kernel_rfl) (by kernel_rfl) [28, 29, 30, 31, 32, 33, 34, 35, 36, 37, 38, 39, 40, 41] [(fun v => v = .agg #[.int .i64 c1, .int .i64 c2, .int .i64 c3, .int .i64 c4]), (fun v => v = .agg #[.int .i64 s2, .int .i64 t2]), (fun v => v = .int .i64 m2), (fun v => v = .bool false), (fun v => v = .bool false), (fun v => v = .agg #[.int .i64 s0, .int .i64 t0]), (fun v => v = .agg #[.int .i64 s2, .int .i64 t2]), (fun v => v = .agg #[.int .i64 (s0 - s2), .int .i64 (t0 - t2)]), (fun v => v = .agg #[.int .i64 s1, .int .i64 t1]), (fun v => v = .agg #[.int .i64 s2, .int .i64 t2]), (fun v => v = .agg #[.int .i64 (s1 - s2), .int .i64 (t1 - t2)]), (fun v => v = .int .i64 D2), (fun v => v = .bool E), (fun v => v = .bool E)] [none, none, none, none, none, none, none, none, none, none, none, none, none, none] [none, none, none, none, none, none, none, none, none, none, none, none, none, none] 14 rfl (by kernel_rfl) ?tr ⟨[u28, u29, u30, u31, u32, u33, u34, u35, u36, u37, u38, u39, u40, u41], by simp only [putAll, Act.put, List.setIfInBounds_toArray, List.set_cons_succ, List.set_cons_zero], rfl⟩ ?steps ?fin
          case tr =>
            rintro i v h
            rcases i with _ | _ | _ | _ | _ | _ | _ | _ | _ | _ | _ | _ | _ | _ | i
            all_goals first | trivial | (exfalso; rcases h with h | h <;> simp at h)
          case steps =>
            simp only [boxSteps, Nat.reduceAdd, Nat.zero_add, List.getD_cons_succ, List.getD_cons_zero]
            refine ⟨?_, ?_, ?_, ?_, ?_, ?_, ?_, ?_, ?_, ?_, ?_, ?_, ?_, ?_, trivial⟩
            · rintro vs W K hc hvl hw hK
              obtain ⟨x0, x1, x2, x3, x4, x5, x6, x7, x8, x9, x10, x11, x12, x13, rfl⟩ := len14 hvl
              have HK := Lib.hid hK
              have HC := Lib.hid hc
              have HW := Lib.hid hw
              clear hK hc hw hvl
              simp only [putAll, Act.put, List.setIfInBounds_toArray, List.set_cons_succ, List.set_cons_zero]
              have rr := RC4.out.below HC.out RC4.out.lt
              have d0 := rr.cell 0
              have d1 := rr.cell 1
              have d2 := rr.cell 2
              have d3 := rr.cell 3
              simp only [List.getElem?_cons_zero, List.getElem?_cons_succ] at d0 d1 d2 d3
              clear rr
              clear HW
              go_wp2_with fail
              have fin := HK.out (.agg #[.int .i64 c1, .int .i64 c2, .int .i64 c3, .int .i64 c4]) W (Below.refl _ _) rfl
              simp only [putAll, Act.put, List.setIfInBounds_toArray, List.set_cons_succ, List.set_cons_zero] at fin
              exact fin
            · rintro vs W K hc hvl hw hK
              obtain ⟨x0, x1, x2, x3, x4, x5, x6, x7, x8, x9, x10, x11, x12, x13, rfl⟩ := len14 hvl
              have HK := Lib.hid hK
              have HC := Lib.hid hc
              have HW := Lib.hid hw
              clear hK hc hw hvl
              simp only [putAll, Act.put, List.setIfInBounds_toArray, List.set_cons_succ, List.set_cons_zero]
              have rr := RB4.out.below HC.out RB4.out.lt
              have d0 := rr.cell 0
              have d1 := rr.cell 1
              simp only [List.getElem?_cons_zero, List.getElem?_cons_succ] at d0 d1
              clear rr
              clear HW
              go_wp2_with fail
              have fin := HK.out (.agg #[.int .i64 s2, .int .i64 t2]) W (Below.refl _ _) rfl
              simp only [putAll, Act.put, List.setIfInBounds_toArray, List.set_cons_succ, List.set_cons_zero] at fin
              exact fin
            · rintro vs W K hc hvl hw hK
              obtain ⟨x0, x1, x2, x3, x4, x5, x6, x7, x8, x9, x10, x11, x12, x13, rfl⟩ := len14 hvl
              have HK := Lib.hid hK
              have HC := Lib.hid hc
              have HW := Lib.hid hw
              clear hK hc hw hvl
              obtain rfl : x0 = .agg #[.int .i64 c1, .int .i64 c2, .int .i64 c3, .int .i64 c4] := box_get (HW.out ⟨0, .data⟩ (by simp) rfl) rfl
              obtain rfl : x1 = .agg #[.int .i64 s2, .int .i64 t2] := box_get (HW.out ⟨1, .data⟩ (by simp) rfl) rfl
              simp only [putAll, Act.put, List.setIfInBounds_toArray, List.set_cons_succ, List.set_cons_zero]
              clear HW
              go_wp2_with fail
              refine (W2.out W).mono ?_
              rintro e W' ⟨rfl, hb'⟩
              have HB' := Lib.hid hb'
              clear hb'
              go_wp2_with fail
              have fin := HK.out (.int .i64 m2) W' HB'.out rfl
              simp only [putAll, Act.put, List.setIfInBounds_toArray, List.set_cons_succ, List.set_cons_zero] at fin
              exact fin
            · rintro vs W K hc hvl hw hK
              obtain ⟨x0, x1, x2, x3, x4, x5, x6, x7, x8, x9, x10, x11, x12, x13, rfl⟩ := len14 hvl
              have HK := Lib.hid hK
              have HC := Lib.hid hc
              have HW := Lib.hid hw
              clear hK hc hw hvl
              obtain rfl : x2 = .int .i64 m2 := box_get (HW.out ⟨2, .data⟩ (by simp) rfl) rfl
              simp only [putAll, Act.put, List.setIfInBounds_toArray, List.set_cons_succ, List.set_cons_zero]
              clear HW
              go_wp2_with fail
              have fin := HK.out (.bool false) W (Below.refl _ _) rfl
              simp only [putAll, Act.put, List.setIfInBounds_toArray, List.set_cons_succ, List.set_cons_zero] at fin
              exact fin
            · rintro vs W K hc hvl hw hK
              obtain ⟨x0, x1, x2, x3, x4, x5, x6, x7, x8, x9, x10, x11, x12, x13, rfl⟩ := len14 hvl
              have HK := Lib.hid hK
              have HC := Lib.hid hc
              have HW := Lib.hid hw
              clear hK hc hw hvl
              obtain rfl : x3 = .bool false := box_get (HW.out ⟨3, .data⟩ (by simp) rfl) rfl
              simp only [putAll, Act.put, List.setIfInBounds_toArray, List.set_cons_succ, List.set_cons_zero]
              clear HW
              go_wp2_with fail
              have fin := HK.out (.bool false) W (Below.refl _ _) rfl
              simp only [putAll, Act.put, List.setIfInBounds_toArray, List.set_cons_succ, List.set_cons_zero] at fin
              exact fin
            · rintro vs W K hc hvl hw hK
              obtain ⟨x0, x1, x2, x3, x4, x5, x6, x7, x8, x9, x10, x11, x12, x13, rfl⟩ := len14 hvl
              have HK := Lib.hid hK
              have HC := Lib.hid hc
              have HW := Lib.hid hw
              clear hK hc hw hvl
              obtain rfl : x4 = .bool false := box_get (HW.out ⟨4, .guard⟩ (by simp) rfl) rfl
              simp only [putAll, Act.put, List.setIfInBounds_toArray, List.set_cons_succ, List.set_cons_zero]
              have rr := HR12.out.below HC.out HR12.out.lt
              have d0 := rr.cell 0
              have d1 := rr.cell 1
              simp only [List.getElem?_cons_zero, List.getElem?_cons_succ] at d0 d1
              clear rr
              clear HW
              go_wp2_with fail
              have fin := HK.out (.agg #[.int .i64 s0, .int .i64 t0]) W (Below.refl _ _) rfl
              simp only [putAll, Act.put, List.setIfInBounds_toArray, List.set_cons_succ, List.set_cons_zero] at fin
              exact fin
            · rintro vs W K hc hvl hw hK
              obtain ⟨x0, x1, x2, x3, x4, x5, x6, x7, x8, x9, x10, x11, x12, x13, rfl⟩ := len14 hvl
              have HK := Lib.hid hK
              have HC := Lib.hid hc
              have HW := Lib.hid hw
              clear hK hc hw hvl
              obtain rfl : x4 = .bool false := box_get (HW.out ⟨4, .guard⟩ (by simp) rfl) rfl
              simp only [putAll, Act.put, List.setIfInBounds_toArray, List.set_cons_succ, List.set_cons_zero]
              have rr := RB4.out.below HC.out RB4.out.lt
              have d0 := rr.cell 0
              have d1 := rr.cell 1
              simp only [List.getElem?_cons_zero, List.getElem?_cons_succ] at d0 d1
              clear rr
              clear HW
              go_wp2_with fail
              have fin := HK.out (.agg #[.int .i64 s2, .int .i64 t2]) W (Below.refl _ _) rfl
              simp only [putAll, Act.put, List.setIfInBounds_toArray, List.set_cons_succ, List.set_cons_zero] at fin
              exact fin
            · rintro vs W K hc hvl hw hK
              obtain ⟨x0, x1, x2, x3, x4, x5, x6, x7, x8, x9, x10, x11, x12, x13, rfl⟩ := len14 hvl
              have HK := Lib.hid hK
              have HC := Lib.hid hc
              have HW := Lib.hid hw
              clear hK hc hw hvl
              obtain rfl : x5 = .agg #[.int .i64 s0, .int .i64 t0] := box_get (HW.out ⟨5, .data⟩ (by simp) rfl) rfl
              obtain rfl : x6 = .agg #[.int .i64 s2, .int .i64 t2] := box_get (HW.out ⟨6, .data⟩ (by simp) rfl) rfl
              obtain rfl : x4 = .bool false := box_get (HW.out ⟨4, .guard⟩ (by simp) rfl) rfl
              simp only [putAll, Act.put, List.setIfInBounds_toArray, List.set_cons_succ, List.set_cons_zero]
              clear HW
              go_wp2_with fail
              refine (M2.out W).mono ?_
              rintro e W' ⟨rfl, hb'⟩
              have HB' := Lib.hid hb'
              clear hb'
              go_wp2_with fail
              have fin := HK.out (.agg #[.int .i64 (s0 - s2), .int .i64 (t0 - t2)]) W' HB'.out rfl
              simp only [putAll, Act.put, List.setIfInBounds_toArray, List.set_cons_succ, List.set_cons_zero] at fin
              exact fin
            · rintro vs W K hc hvl hw hK
              obtain ⟨x0, x1, x2, x3, x4, x5, x6, x7, x8, x9, x10, x11, x12, x13, rfl⟩ := len14 hvl
              have HK := Lib.hid hK
              have HC := Lib.hid hc
              have HW := Lib.hid hw
              clear hK hc hw hvl
              obtain rfl : x4 = .bool false := box_get (HW.out ⟨4, .guard⟩ (by simp) rfl) rfl
              simp only [putAll, Act.put, List.setIfInBounds_toArray, List.set_cons_succ, List.set_cons_zero]
              have rr := HR13.out.below HC.out HR13.out.lt
              have d0 := rr.cell 0
              have d1 := rr.cell 1
              simp only [List.getElem?_cons_zero, List.getElem?_cons_succ] at d0 d1
              clear rr
              clear HW
              go_wp2_with fail
              have fin := HK.out (.agg #[.int .i64 s1, .int .i64 t1]) W (Below.refl _ _) rfl
              simp only [putAll, Act.put, List.setIfInBounds_toArray, List.set_cons_succ, List.set_cons_zero] at fin
              exact fin
            · rintro vs W K hc hvl hw hK
              obtain ⟨x0, x1, x2, x3, x4, x5, x6, x7, x8, x9, x10, x11, x12, x13, rfl⟩ := len14 hvl
              have HK := Lib.hid hK
              have HC := Lib.hid hc
              have HW := Lib.hid hw
              clear hK hc hw hvl
              obtain rfl : x4 = .bool false := box_get (HW.out ⟨4, .guard⟩ (by simp) rfl) rfl
              simp only [putAll, Act.put, List.setIfInBounds_toArray, List.set_cons_succ, List.set_cons_zero]
              have rr := RB4.out.below HC.out RB4.out.lt
              have d0 := rr.cell 0
              have d1 := rr.cell 1
              simp only [List.getElem?_cons_zero, List.getElem?_cons_succ] at d0 d1
              clear rr
              clear HW
              go_wp2_with fail
              have fin := HK.out (.agg #[.int .i64 s2, .int .i64 t2]) W (Below.refl _ _) rfl
              simp only [putAll, Act.put, List.setIfInBounds_toArray, List.set_cons_succ, List.set_cons_zero] at fin
              exact fin
            · rintro vs W K hc hvl hw hK
              obtain ⟨x0, x1, x2, x3, x4, x5, x6, x7, x8, x9, x10, x11, x12, x13, rfl⟩ := len14 hvl
              have HK := Lib.hid hK
              have HC := Lib.hid hc
              have HW := Lib.hid hw
              clear hK hc hw hvl
              obtain rfl : x8 = .agg #[.int .i64 s1, .int .i64 t1] := box_get (HW.out ⟨8, .data⟩ (by simp) rfl) rfl
              obtain rfl : x9 = .agg #[.int .i64 s2, .int .i64 t2] := box_get (HW.out ⟨9, .data⟩ (by simp) rfl) rfl
              obtain rfl : x4 = .bool false := box_get (HW.out ⟨4, .guard⟩ (by simp) rfl) rfl
              simp only [putAll, Act.put, List.setIfInBounds_toArray, List.set_cons_succ, List.set_cons_zero]
              clear HW
              go_wp2_with fail
              refine (N2.out W).mono ?_
              rintro e W' ⟨rfl, hb'⟩
              have HB' := Lib.hid hb'
              clear hb'
              go_wp2_with fail
              have fin := HK.out (.agg #[.int .i64 (s1 - s2), .int .i64 (t1 - t2)]) W' HB'.out rfl
              simp only [putAll, Act.put, List.setIfInBounds_toArray, List.set_cons_succ, List.set_cons_zero] at fin
              exact fin
            · rintro vs W K hc hvl hw hK
              obtain ⟨x0, x1, x2, x3, x4, x5, x6, x7, x8, x9, x10, x11, x12, x13, rfl⟩ := len14 hvl
              have HK := Lib.hid hK
              have HC := Lib.hid hc
              have HW := Lib.hid hw
              clear hK hc hw hvl
              obtain rfl : x7 = .agg #[.int .i64 (s0 - s2), .int .i64 (t0 - t2)] := box_get (HW.out ⟨7, .data⟩ (by simp) rfl) rfl
              obtain rfl : x10 = .agg #[.int .i64 (s1 - s2), .int .i64 (t1 - t2)] := box_get (HW.out ⟨10, .data⟩ (by simp) rfl) rfl
              obtain rfl : x4 = .bool false := box_get (HW.out ⟨4, .guard⟩ (by simp) rfl) rfl
              simp only [putAll, Act.put, List.setIfInBounds_toArray, List.set_cons_succ, List.set_cons_zero]
              clear HW
              go_wp2_with fail
              refine (T2.out W).mono ?_
              rintro e W' ⟨rfl, hb'⟩
              have HB' := Lib.hid hb'
              clear hb'
              go_wp2_with fail
              have fin := HK.out (.int .i64 D2) W' HB'.out rfl
              simp only [putAll, Act.put, List.setIfInBounds_toArray, List.set_cons_succ, List.set_cons_zero] at fin
              exact fin
            · rintro vs W K hc hvl hw hK
              obtain ⟨x0, x1, x2, x3, x4, x5, x6, x7, x8, x9, x10, x11, x12, x13, rfl⟩ := len14 hvl
              have HK := Lib.hid hK
              have HC := Lib.hid hc
              have HW := Lib.hid hw
              clear hK hc hw hvl
              obtain rfl : x11 = .int .i64 D2 := box_get (HW.out ⟨11, .data⟩ (by simp) rfl) rfl
              obtain rfl : x4 = .bool false := box_get (HW.out ⟨4, .guard⟩ (by simp) rfl) rfl
              simp only [putAll, Act.put, List.setIfInBounds_toArray, List.set_cons_succ, List.set_cons_zero]
              have hE := HE.out
              clear HW
              go_wp2_with fail
              have fin := HK.out (.bool E) W (Below.refl _ _) rfl
              simp only [putAll, Act.put, List.setIfInBounds_toArray, List.set_cons_succ, List.set_cons_zero] at fin
              exact fin
            · rintro vs W K hc hvl hw hK
              obtain ⟨x0, x1, x2, x3, x4, x5, x6, x7, x8, x9, x10, x11, x12, x13, rfl⟩ := len14 hvl
              have HK := Lib.hid hK
              have HC := Lib.hid hc
              have HW := Lib.hid hw
              clear hK hc hw hvl
              obtain rfl : x4 = .bool false := box_get (HW.out ⟨4, .data⟩ (by simp) rfl) rfl
              obtain rfl : x12 = .bool E := box_get (HW.out ⟨12, .data⟩ (by simp) rfl) rfl
              simp only [putAll, Act.put, List.setIfInBounds_toArray, List.set_cons_succ, List.set_cons_zero]
              clear HW
              go_wp2_with fail
              have fin := HK.out (.bool E) W (Below.refl _ _) rfl
              simp only [putAll, Act.put, List.setIfInBounds_toArray, List.set_cons_succ, List.set_cons_zero] at fin
              exact fin
          case fin =>
            rintro vs W hJ
            obtain ⟨x0, x1, x2, x3, x4, x5, x6, x7, x8, x9, x10, x11, x12, x13, rfl⟩ := len14 hJ.ln
            obtain rfl : x13 = .bool E := box_get (hJ.val 13 rfl) rfl
            have HC := Lib.hid hJ.bl
            clear hJ
            simp only [putAll, Act.put, List.setIfInBounds_toArray, List.set_cons_succ, List.set_cons_zero]
            clear T2 M2 N2 W2
            cases E with
            | true =>
              go_wp2_with fail
              go_ret
              refine ⟨ret_bool ?_, Below.andThen (Below.andThen (Below.andThen (Below.andThen BA.out HB.out.2.2.2 (Nat.le_refl _)) BB.out (Nat.le_refl _)) HC4.out (Nat.le_refl _)) HC.out (Nat.le_refl _)⟩
              have h := HS2.out
              have h2 : ¬ 0 < D2 := by have := of_decide_eq_true HE.out; omega
              rw [decide_eq_false h2, Bool.and_false] at h
              rw [← h]; simp
            | false =>
              have HN := Lib.hid (show S2 = true by
                rw [← HS2.out]
                have h2 : m2 = 0 := by simpa using hm
                have h3 := of_decide_eq_false HE.out
                rw [decide_eq_true h2, Bool.true_and]
                exact decide_eq_true (by omega))
              go_wp2_with fail
              exact ⟨⟨3, by omega, rfl, Lib.hid ⟨fun _ => HB.out.1 (by omega), fun _ => HB.out.2.1 (by omega), fun _ => HN.out, Below.andThen (Below.andThen (Below.andThen HB.out.2.2.2 BB.out (Nat.le_refl _)) HC4.out (Nat.le_refl _)) HC.out (Nat.le_refl _)⟩⟩, by simp [intOf]⟩
    · go_wp2_with fail
      go_ret
      refine ⟨ret_bool ?_, Below.andThen BA.out HB.out.2.2.2 (Nat.le_refl _)⟩
      rw [HB.out.1 (by omega), HB.out.2.1 (by omega), HB.out.2.2.1 (by omega)]; rfl
end Go.Proofs.Ytlemipnplgbckaa
