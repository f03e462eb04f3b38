import Derived.Test.YtlemipnplgbckaaPA
import Derived.Laws.AppendOwn
import Derived.ChangeKeysEq
import Derived.Maps.RangeWalk
import Derived.Maps.OwnIn
import Derived.Maps.AppendAt
import Derived.RangeFuncNested
import Derived.RangeFuncBound
import Derived.RangeFuncCalls
import Derived.RangeFuncLeaves
import Derived.Shelf.Abstract
import Derived.Shelf.RegionOpen
import Derived.WalkKit
import Derived.WalkMore
import Derived.OwnWalkIn
import Derived.TacticsInMore
import Derived.LoopNIn
import Derived.LoopIn
import Derived.WalkSpells
import Derived.WalkLawsBesides
import Derived.BigQuiet
import Derived.Deep.QuietTactic
import Derived.Lib.Hide
import Derived.Deep.RegionHeld3
import Derived.StillTailTactics
import Derived.Deep.LoopGhost
import Derived.Maps.OwnSet
import Derived.Lib.IndexAny
import Derived.Sort.QuietThIn
import Derived.Sort.QuietTacIn
import Derived.Sort.BigQuietIn
import Derived.Laws.OwnMore
import Derived.DeepKeys4
import Derived.Maps.Views
import Derived.Maps.OwnOps
import Derived.Laws.OwnMore
import Derived.Deep.DeepCutAuto
import Derived.ChangeKeysEq
namespace Go.Proofs.Ytlemipnplgbckaa
open Go.RowKit Go.Shelf
attribute [local go_sem] Oper.semAt_some
/-- a circle's middle, and the square of its radius -/
def Cir.Z (c : Cir) : Zt := ((c.X : Rat) / c.D, (c.Y : Rat) / c.D)
def Cir.ρ (c : Cir) : Rat := (c.R : Rat) / (c.D * c.D)
theorem ratD {d : Int} (h : 1 ≤ d) : (0 : Rat) < (d : Rat) := by
  have := (Rat.intCast_lt_intCast (a := 0) (b := d)).2 (by omega)
  simpa using this
theorem ap_rat (c : Cir) (hd : 1 ≤ c.D) (p : Pt) : ((apF c.X c.Y c.D p : Int) : Rat) = (c.D : Rat) * c.D * d2 c.Z p := by
  have h := ratD hd
  unfold apF d2 Cir.Z
  simp only [Rat.intCast_add, Rat.intCast_mul, Rat.intCast_sub]
  generalize (c.D : Rat) = D at *
  generalize (c.X : Rat) = X at *
  generalize (c.Y : Rat) = Y at *
  obtain ⟨x, hx⟩ : ∃ x, x = X / D := ⟨_, rfl⟩
  obtain ⟨y, hy⟩ : ∃ y, y = Y / D := ⟨_, rfl⟩
  rw [← hx, ← hy]
  have h1 : x * D = X := by rw [hx]; grind
  have h2 : y * D = Y := by rw [hy]; grind
  rw [← h1, ← h2]
  grind
theorem rho_R (c : Cir) (hd : 1 ≤ c.D) : (c.R : Rat) = (c.D : Rat) * c.D * c.ρ := by
  have h := ratD hd
  unfold Cir.ρ
  have : (c.D : Rat) * c.D ≠ 0 := by have := Rat.mul_pos h h; grind
  grind
theorem cmpI_le {a b : Int} : cmpI a b ≤ 0 ↔ a ≤ b := by unfold cmpI; split <;> (try split) <;> omega
theorem cmpI_lt {a b : Int} : cmpI a b < 0 ↔ a < b := by unfold cmpI; split <;> (try split) <;> omega
theorem cmpI_eq {a b : Int} : cmpI a b = 0 ↔ a = b := by unfold cmpI; split <;> (try split) <;> omega
theorem cmpI_gt {a b : Int} : 0 < cmpI a b ↔ b < a := by unfold cmpI; split <;> (try split) <;> omega
theorem rat_le (a b : Int) : (a : Rat) ≤ b ↔ a ≤ b := Rat.intCast_le_intCast
theorem mul_le_iff {k x y : Rat} (hk : 0 < k) : k * x ≤ k * y ↔ x ≤ y := by
  refine ⟨fun h => ?_, fun h => Rat.mul_le_mul_of_nonneg_left h (by grind)⟩
  by_cases hc : x ≤ y
  · exact hc
  · have := Rat.mul_lt_mul_of_pos_left (show y < x by grind) hk
    grind
theorem wh_le (c : Cir) (hd : 1 ≤ c.D) (p : Pt) : whF c p ≤ 0 ↔ d2 c.Z p ≤ c.ρ := by
  unfold whF
  rw [cmpI_le, ← rat_le, ap_rat c hd, rho_R c hd]
  have h := ratD hd
  exact mul_le_iff (Rat.mul_pos h h)
theorem wh_eq (c : Cir) (hd : 1 ≤ c.D) (p : Pt) : whF c p = 0 ↔ d2 c.Z p = c.ρ := by
  unfold whF
  rw [cmpI_eq, ← Rat.intCast_inj, ap_rat c hd, rho_R c hd]
  have h := ratD hd
  have h2 := Rat.mul_pos h h
  refine ⟨fun h => ?_, fun h => by rw [h]⟩
  exact Rat.le_antisymm ((mul_le_iff h2).1 (by rw [h]; exact Rat.le_refl)) ((mul_le_iff h2).1 (by rw [h]; exact Rat.le_refl))
theorem cmpV_lt {a b : Cir} (ha : 1 ≤ a.D) (hb : 1 ≤ b.D) : cmpV a b < 0 ↔ a.ρ < b.ρ := by
  unfold cmpV cmpC
  rw [cmpI_lt, ← Rat.intCast_lt_intCast]
  simp only [Rat.intCast_mul]
  rw [rho_R a ha, rho_R b hb]
  have h1 := ratD ha
  have h2 := ratD hb
  have h3 : 0 < ((a.D : Rat) * a.D) * (b.D * b.D) := Rat.mul_pos (Rat.mul_pos h1 h1) (Rat.mul_pos h2 h2)
  constructor
  · intro h
    by_cases hc : a.ρ < b.ρ
    · exact hc
    · have := (mul_le_iff h3 (x := b.ρ) (y := a.ρ)).2 (by grind)
      grind
  · intro h
    have := Rat.mul_lt_mul_of_pos_left h h3
    grind
theorem cmpV_gt {a b : Cir} (ha : 1 ≤ a.D) (hb : 1 ≤ b.D) : 0 < cmpV a b ↔ b.ρ < a.ρ := by
  rw [← cmpV_lt hb ha]
  unfold cmpV cmpC
  rw [cmpI_lt, cmpI_gt]
theorem rnd_D {x y d : Int} {p : Pt} (hd : d ≠ 0) : 1 ≤ (rndC x y d p).D := rD_pos hd
theorem rnd_Z {x y d : Int} {p : Pt} (hd : d ≠ 0) : (rndC x y d p).Z = ((x : Rat) / d, (y : Rat) / d) := by
  obtain ⟨h1, h2, h3⟩ := r_mul x y d
  have hg := (gS_ne (x := x) (y := y) hd).1
  have hD := rD_pos (x := x) (y := y) hd
  unfold Cir.Z rndC
  dsimp only
  have e1 : (rX x y d : Rat) * gS x y d = x := by rw [← Rat.intCast_mul, h1]
  have e2 : (rY x y d : Rat) * gS x y d = y := by rw [← Rat.intCast_mul, h2]
  have e3 : (rD x y d : Rat) * gS x y d = d := by rw [← Rat.intCast_mul, h3]
  have g0 : (gS x y d : Rat) ≠ 0 := fun h => hg (by rw [← Rat.intCast_inj]; simpa using h)
  have d0 := ratD hD
  rw [← e1, ← e2, ← e3]
  generalize (gS x y d : Rat) = g at *
  generalize (rD x y d : Rat) = D at *
  have D0 : D ≠ 0 := by grind
  have Dg : D * g ≠ 0 := by intro h; rcases Rat.mul_eq_zero.1 h with h | h <;> contradiction
  ext <;> (dsimp only; grind)
theorem rnd_ρ {x y d : Int} {p : Pt} (hd : d ≠ 0) : (rndC x y d p).ρ = d2 (rndC x y d p).Z p := by
  have hD := rD_pos (x := x) (y := y) hd
  have h := ap_rat (rndC x y d p) hD p
  have h2 := rho_R (rndC x y d p) hD
  have e : (rndC x y d p).R = apF (rndC x y d p).X (rndC x y d p).Y (rndC x y d p).D p := rfl
  rw [e, h] at h2
  have h3 := ratD hD
  have h4 := Rat.mul_pos h3 h3
  exact Rat.le_antisymm ((mul_le_iff h4).1 (by rw [show ((rndC x y d p).D : Rat) = (rD x y d : Rat) from rfl] at h2; rw [h2]; exact Rat.le_refl)) ((mul_le_iff h4).1 (by rw [show ((rndC x y d p).D : Rat) = (rD x y d : Rat) from rfl] at h2; rw [h2]; exact Rat.le_refl))
theorem ovC_Z (a b : Pt) : (ovC a b).Z = midZ a b := by
  unfold ovC
  rw [rnd_Z (by omega)]
  unfold midZ
  simp only [Rat.intCast_add]
  rfl
theorem ovC_ρ (a b : Pt) : (ovC a b).ρ = d2 (midZ a b) a := by
  rw [← ovC_Z]
  unfold ovC
  exact rnd_ρ (by omega)
theorem thD_cr (a b c : Pt) : (thD a b c : Rat) = 2 * cr a b c := by
  unfold thD crs cr
  simp only [Rat.intCast_mul, Rat.intCast_sub]
  rfl
theorem thD_ne {a b c : Pt} : thD a b c ≠ 0 ↔ cr a b c ≠ 0 := by
  have h := thD_cr a b c
  constructor
  · intro k h2
    rw [h2] at h
    exact k (by rw [← Rat.intCast_inj]; rw [h]; simp)
  · intro k h2
    rw [h2] at h
    have : cr a b c = 0 := by simp at h; grind
    exact k this
/-- the middle is where the three distances are the same -/
theorem mid_eq {a b c : Pt} {z : Zt} (_hc : cr a b c ≠ 0) (h1 : d2 z a = d2 z b) (h2 : d2 z a = d2 z c) : (2 * cr a b c) * z.1 = (2 * cr a b c) * a.1 + (thX a b c : Rat) ∧ (2 * cr a b c) * z.2 = (2 * cr a b c) * a.2 + (thY a b c : Rat) := by
  unfold thX thY
  simp only [Rat.intCast_add, Rat.intCast_mul, Rat.intCast_sub]
  unfold d2 at h1 h2
  unfold cr
  constructor <;> grind
theorem thC_Z {a b c : Pt} (h : thD a b c ≠ 0) : (thC a b c).Z = ((a.1 : Rat) + (thX a b c : Rat) / (2 * cr a b c), (a.2 : Rat) + (thY a b c : Rat) / (2 * cr a b c)) := by
  have hc := thD_ne.1 h
  unfold thC
  rw [rnd_Z h]
  simp only [Rat.intCast_add, Rat.intCast_mul, thD_cr]
  have : 2 * cr a b c ≠ 0 := by grind
  ext <;> (dsimp only; grind)
theorem thC_on {a b c : Pt} (h : thD a b c ≠ 0) : d2 (thC a b c).Z a = d2 (thC a b c).Z b ∧ d2 (thC a b c).Z a = d2 (thC a b c).Z c := by
  rw [thC_Z h]
  have hc := thD_ne.1 h
  obtain ⟨x, hx⟩ : ∃ x, x = (thX a b c : Rat) / (2 * cr a b c) := ⟨_, rfl⟩
  obtain ⟨y, hy⟩ : ∃ x, x = (thY a b c : Rat) / (2 * cr a b c) := ⟨_, rfl⟩
  rw [← hx, ← hy]
  have e1 : x * (2 * cr a b c) = (thX a b c : Rat) := by grind
  have e2 : y * (2 * cr a b c) = (thY a b c : Rat) := by grind
  clear hx hy h
  unfold thX at e1
  unfold thY at e2
  simp only [Rat.intCast_add, Rat.intCast_mul, Rat.intCast_sub] at e1 e2
  unfold d2
  unfold cr at *
  dsimp only
  obtain ⟨u1, hu1⟩ : ∃ u : Rat, u = b.1 - a.1 := ⟨_, rfl⟩
  obtain ⟨u2, hu2⟩ : ∃ u : Rat, u = b.2 - a.2 := ⟨_, rfl⟩
  obtain ⟨v1, hv1⟩ : ∃ u : Rat, u = c.1 - a.1 := ⟨_, rfl⟩
  obtain ⟨v2, hv2⟩ : ∃ u : Rat, u = c.2 - a.2 := ⟨_, rfl⟩
  rw [← hu1, ← hu2, ← hv1, ← hv2] at e1 e2 hc
  obtain ⟨C, hC⟩ : ∃ C, C = u1 * v2 - u2 * v1 := ⟨_, rfl⟩
  rw [← hC] at e1 e2 hc
  have f1 : C * (2 * (x * u1 + y * u2)) = C * (u1 * u1 + u2 * u2) := by grind
  have f2 : C * (2 * (x * v1 + y * v2)) = C * (v1 * v1 + v2 * v2) := by grind
  have g1 : 2 * (x * u1 + y * u2) = u1 * u1 + u2 * u2 := by
    have : C * (2 * (x * u1 + y * u2) - (u1 * u1 + u2 * u2)) = 0 := by grind
    rcases Rat.mul_eq_zero.1 this with h | h
    · exact absurd h hc
    · grind
  have g2 : 2 * (x * v1 + y * v2) = v1 * v1 + v2 * v2 := by
    have : C * (2 * (x * v1 + y * v2) - (v1 * v1 + v2 * v2)) = 0 := by grind
    rcases Rat.mul_eq_zero.1 this with h | h
    · exact absurd h hc
    · grind
  constructor
  · rw [show (b.1 : Rat) = u1 + a.1 by grind, show (b.2 : Rat) = u2 + a.2 by grind]; grind
  · rw [show (c.1 : Rat) = v1 + a.1 by grind, show (c.2 : Rat) = v2 + a.2 by grind]; grind
theorem thC_ρ {a b c : Pt} (h : thD a b c ≠ 0) : (thC a b c).ρ = d2 (thC a b c).Z a := rnd_ρ h
theorem thC_mid {a b c : Pt} {z : Zt} (hc : thD a b c ≠ 0) (h1 : d2 z a = d2 z b) (h2 : d2 z a = d2 z c) : (thC a b c).Z = z := by
  rw [thC_Z hc]
  have h := mid_eq (thD_ne.1 hc) h1 h2
  have hc := thD_ne.1 hc
  ext <;> (dsimp only; grind)
theorem cr_swap {a b c : Pt} : cr a c b = - cr a b c ∧ cr b a c = - cr a b c ∧ cr b c a = cr a b c ∧ cr c a b = cr a b c ∧ cr c b a = - cr a b c := by
  unfold cr; refine ⟨?_, ?_, ?_, ?_, ?_⟩ <;> grind
end Go.Proofs.Ytlemipnplgbckaa
