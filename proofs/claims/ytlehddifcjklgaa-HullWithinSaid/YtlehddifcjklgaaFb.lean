import Derived.Test.YtlehddifcjklgaaFa
import Derived.Test.YtlehddifcjklgaaCu
import Derived.Maps.OwnIn
import Derived.Maps.OwnSet
import Derived.Maps.AppendAt
import Derived.RangeFuncNested
import Derived.RangeFuncBound
import Derived.RangeFuncCalls
import Derived.RangeFuncLeaves
import Derived.Shelf.Abstract
import Derived.Shelf.RegionOpen
import Derived.WalkKit
import Derived.OwnWalkIn
import Derived.TacticsInMore
import Derived.LoopNIn
import Derived.LoopIn
import Derived.WalkMore
import Derived.Sort.QuietThIn
import Derived.Sort.QuietTacIn
import Derived.Sort.BigQuietIn
import Derived.WalkSpells
import Derived.WalkLawsBesides
import Derived.BigQuiet
import Derived.Deep.QuietTactic
import Derived.Lib.Hide
import Derived.Deep.RegionHeld3
import Derived.StillTailTactics
import Derived.Deep.LoopGhost
import Derived.Lib.IndexAny
namespace Go.Proofs.Ytlehddifcjklgaa
open Go.RowKit Go.Shelf
attribute [local go_sem] Oper.semAt_some
/-! the theorem for hulls as the program has them -/
def scP (m : Int × Int × Int) (p : Pt) : Pt := (m.2.2 * p.1 - m.1, m.2.2 * p.2 - m.2.1)
def castQ (p : Pt) : Q2 := ((p.1 : Rat), (p.2 : Rat))
def VQ (ps : List Pt) (k : Nat) : Q2 := castQ (scP (mid ps) (ptAt ps (k % ps.length)))
theorem cq_cast (a b : Pt) : cq (castQ a) (castQ b) = ((crs a b : Int) : Rat) := by
  unfold cq castQ crs; push_cast; grind
theorem dq_cast (a b : Pt) : dq (castQ a) (castQ b) = ((dt a b : Int) : Rat) := by
  unfold dq castQ dt; push_cast; grind
theorem tq_cast (a b c : Pt) : tq (castQ a) (castQ b) (castQ c) = ((turn a b c : Int) : Rat) := by
  unfold tq cq castQ turn; push_cast; grind
theorem VQ_next (ps : List Pt) (k : Nat) : VQ ps (k + 1) = castQ (scP (mid ps) (nx ps (k % ps.length))) := by
  unfold VQ nx; rw [Nat.mod_add_mod]
theorem mod_ne {a b n : Nat} (h1 : a < b) (h2 : b < a + n) : b % n ≠ a % n := by
  intro e
  have h := Nat.sub_mod_eq_zero_of_mod_eq e
  rw [Nat.mod_eq_of_lt (by omega)] at h
  omega
theorem turn_sc (m : Int × Int × Int) (a b c : Pt) : turn (scP m a) (scP m b) (scP m c) = m.2.2 * m.2.2 * turn a b c := by
  unfold turn scP; grind
theorem crs_sc (ps : List Pt) (m : Int × Int × Int) (s : Nat) : crs (scP m (ptAt ps s)) (scP m (nx ps s)) = m.2.2 * heightH ps m s := by
  unfold heightH crs scP inw alongS mn; grind
theorem dt_sc (ps : List Pt) (m : Int × Int × Int) (s : Nat) : dt (scP m (ptAt ps s)) (scP m (nx ps s)) - dt (scP m (ptAt ps s)) (scP m (ptAt ps s)) = -(m.2.2 * footA ps m s) := by
  unfold footA dt scP inw alongS mn; grind
theorem dt_sc2 (ps : List Pt) (m : Int × Int × Int) (s : Nat) : dt (scP m (nx ps s)) (scP m (nx ps s)) - dt (scP m (ptAt ps s)) (scP m (nx ps s)) = m.2.2 * (footD ps m s - footA ps m s) := by
  unfold footA footD dt scP inw alongS mn; grind
theorem dif_sc (ps : List Pt) (m : Int × Int × Int) (s : Nat) : dif (castQ (scP m (ptAt ps s))) (castQ (scP m (nx ps s))) = castQ (m.2.2 * (alongS ps s).1, m.2.2 * (alongS ps s).2) := by
  unfold dif castQ scP alongS mn
  refine Prod.ext ?_ ?_ <;> (dsimp only; push_cast; grind)
theorem sumQ_congr {f g : Nat → Rat} {a : Nat} : ∀ m, (∀ k, k < m → f (a + k) = g (a + k)) → sumQ f a m = sumQ g a m
  | 0, _ => rfl
  | m + 1, h => by
    simp only [sumQ]
    rw [sumQ_congr m (fun k hk => h k (by omega)), h m (by omega)]
theorem sumQ_cast (f : Nat → Int) : ∀ m, sumQ (fun k => ((f k : Int) : Rat)) 0 m = ((((List.range m).map f).sum : Int) : Rat)
  | 0 => by simp [sumQ]
  | m + 1 => by
    simp only [sumQ, List.range_succ, List.map_append, List.sum_append, List.map_cons, List.map_nil, List.sum_cons, List.sum_nil]
    rw [sumQ_cast f m]; push_cast; grind
theorem sumQ_lin (c d : Rat) (f g : Nat → Rat) (a : Nat) : ∀ m, sumQ (fun k => c * f k - d * g k) a m = c * sumQ f a m - d * sumQ g a m
  | 0 => by simp [sumQ]; grind
  | m + 1 => by simp only [sumQ]; rw [sumQ_lin c d f g a m]; grind
theorem sums_0 {ps : List Pt} (hc : chk ps = true) :
    ((List.range ps.length).map (fun i => crs (scP (mid ps) (ptAt ps i)) (scP (mid ps) (nx ps i)) * ((scP (mid ps) (ptAt ps i)).1 + (scP (mid ps) (nx ps i)).1))).sum = 0 ∧
    ((List.range ps.length).map (fun i => crs (scP (mid ps) (ptAt ps i)) (scP (mid ps) (nx ps i)) * ((scP (mid ps) (ptAt ps i)).2 + (scP (mid ps) (nx ps i)).2))).sum = 0 := by
  have h3 := (areP_len (chk_areP hc)).1
  obtain ⟨g, hg, gx, gy, ga⟩ := mid_g (chk_area hc)
  generalize mid ps = m at *
  obtain ⟨m1, m2, D⟩ := m
  dsimp only at gx gy ga
  refine ⟨?_, ?_⟩
  · have e : ((List.range ps.length).map (fun i => crs (scP (m1, m2, D) (ptAt ps i)) (scP (m1, m2, D) (nx ps i)) * ((scP (m1, m2, D) (ptAt ps i)).1 + (scP (m1, m2, D) (nx ps i)).1))) =
        ((List.range ps.length).map (fun i => (D * D * D * xAt ps i + -(3 * D * D * m1) * crsAt ps i) + ((fun p : Pt => D * (D * m1 * p.1 * p.2 - D * m2 * p.1 * p.1 - 2 * m1 * crs (m1, m2) p)) (ptAt ps i) - (fun p : Pt => D * (D * m1 * p.1 * p.2 - D * m2 * p.1 * p.1 - 2 * m1 * crs (m1, m2) p)) (nx ps i)))) := by
      refine List.map_congr_left fun i _ => ?_
      unfold xAt crsAt crs scP; grind
    rw [e]
    refine (sum_tele ps (by omega) (fun i => D * D * D * xAt ps i + -(3 * D * D * m1) * crsAt ps i) (fun p : Pt => D * (D * m1 * p.1 * p.2 - D * m2 * p.1 * p.1 - 2 * m1 * crs (m1, m2) p))).trans ?_
    refine (sum_map_add (fun i => D * D * D * xAt ps i) (fun i => -(3 * D * D * m1) * crsAt ps i) _).trans ?_
    rw [sum_map_mul, sum_map_mul]
    show D * D * D * xSum ps + -(3 * D * D * m1) * area ps = 0
    grind
  · have e : ((List.range ps.length).map (fun i => crs (scP (m1, m2, D) (ptAt ps i)) (scP (m1, m2, D) (nx ps i)) * ((scP (m1, m2, D) (ptAt ps i)).2 + (scP (m1, m2, D) (nx ps i)).2))) =
        ((List.range ps.length).map (fun i => (D * D * D * yAt ps i + -(3 * D * D * m2) * crsAt ps i) + ((fun p : Pt => D * (-(D * m2 * p.1 * p.2) + D * m1 * p.2 * p.2 - 2 * m2 * crs (m1, m2) p)) (ptAt ps i) - (fun p : Pt => D * (-(D * m2 * p.1 * p.2) + D * m1 * p.2 * p.2 - 2 * m2 * crs (m1, m2) p)) (nx ps i)))) := by
      refine List.map_congr_left fun i _ => ?_
      unfold yAt crsAt crs scP; grind
    rw [e]
    refine (sum_tele ps (by omega) (fun i => D * D * D * yAt ps i + -(3 * D * D * m2) * crsAt ps i) (fun p : Pt => D * (-(D * m2 * p.1 * p.2) + D * m1 * p.2 * p.2 - 2 * m2 * crs (m1, m2) p))).trans ?_
    refine (sum_map_add (fun i => D * D * D * yAt ps i) (fun i => -(3 * D * D * m2) * crsAt ps i) _).trans ?_
    rw [sum_map_mul, sum_map_mul]
    show D * D * D * ySum ps + -(3 * D * D * m2) * area ps = 0
    grind
theorem ring_of {ps : List Pt} (hc : chk ps = true) : Ring ps.length (VQ ps) := by
  have h3 := (areP_len (chk_areP hc)).1
  have hD := mid_D hc
  refine ⟨h3, fun k => by unfold VQ; rw [Nat.add_mod_right], fun k => ?_, fun k j h1 h2 => ?_, fun p => ?_⟩
  · rw [VQ_next]
    unfold VQ
    rw [cq_cast, crs_sc]
    exact Rat.intCast_pos.2 (Int.mul_pos hD (height_pos hc (Nat.mod_lt _ (by omega))))
  · rw [VQ_next]
    unfold VQ
    rw [tq_cast, turn_sc]
    refine Rat.intCast_pos.2 (Int.mul_pos (Int.mul_pos hD hD) (chk_turn hc (Nat.mod_lt _ (by omega)) (Nat.mod_lt _ (by omega)) (mod_ne (by omega) h2) ?_))
    rw [Nat.mod_add_mod]
    exact mod_ne h1 (by omega)
  · obtain ⟨s1, s2⟩ := sums_0 hc
    have e : sumQ (fun k => mom p (VQ ps k) (VQ ps (k + 1))) 0 ps.length = sumQ (fun k => p.1 * ((crs (scP (mid ps) (ptAt ps k)) (scP (mid ps) (nx ps k)) * ((scP (mid ps) (ptAt ps k)).2 + (scP (mid ps) (nx ps k)).2) : Int) : Rat) - p.2 * ((crs (scP (mid ps) (ptAt ps k)) (scP (mid ps) (nx ps k)) * ((scP (mid ps) (ptAt ps k)).1 + (scP (mid ps) (nx ps k)).1) : Int) : Rat)) 0 ps.length := by
      refine sumQ_congr _ fun k hk => ?_
      rw [Nat.zero_add, VQ_next]
      unfold VQ
      rw [Nat.mod_eq_of_lt hk]
      unfold mom
      rw [cq_cast]
      generalize scP (mid ps) (ptAt ps k) = a
      generalize scP (mid ps) (nx ps k) = b
      unfold cq castQ
      push_cast
      grind
    rw [e, sumQ_lin, sumQ_cast, sumQ_cast, s1, s2]
    simp
    grind
end Go.Proofs.Ytlehddifcjklgaa
