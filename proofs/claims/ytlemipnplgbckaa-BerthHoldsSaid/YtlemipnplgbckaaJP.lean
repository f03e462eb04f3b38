import Derived.Test.YtlemipnplgbckaaJA
import Derived.Test.YtlemipnplgbckaaME
import Derived.Laws.AppendOwn
import Derived.ChangeKeysEq
import Derived.Maps.RangeWalk
import Derived.Maps.OwnIn
import Derived.Maps.AppendAt
import Derived.RangeFuncNested
import Derived.RangeFuncBound
import Derived.RangeFuncCalls
import Derived.RangeFuncLeaves
import Derived.Shelf.Abstract
import Derived.Shelf.RegionOpen
import Derived.WalkKit
import Derived.WalkMore
import Derived.OwnWalkIn
import Derived.TacticsInMore
import Derived.LoopNIn
import Derived.LoopIn
import Derived.WalkSpells
import Derived.WalkLawsBesides
import Derived.BigQuiet
import Derived.Deep.QuietTactic
import Derived.Lib.Hide
import Derived.Deep.RegionHeld3
import Derived.StillTailTactics
import Derived.Deep.LoopGhost
import Derived.Maps.OwnSet
import Derived.Lib.IndexAny
import Derived.Sort.QuietThIn
import Derived.Sort.QuietTacIn
import Derived.Sort.BigQuietIn
import Derived.Laws.OwnMore
import Derived.DeepKeys4
import Derived.Maps.Views
import Derived.Maps.OwnOps
import Derived.Deep.DeepCutAuto
import Derived.Shelf.Bits.Mul64
import Derived.Shelf.LaysM
namespace Go.Proofs.Ytlemipnplgbckaa
open Go.RowKit Go.Shelf
attribute [local go_sem] Oper.semAt_some
theorem own_sl2 {W : World} {n₀ k e s : Nat} {v : Value} {xs : List Value} (h : W.ownsRow n₀ e s v k xs) : ∃ a c, v = .slice a k c := by
  rcases h.2 with ⟨e, h0⟩ | ⟨g, cap, cur, e, _⟩
  · exact ⟨_, _, by rw [e, h0]⟩
  · exact ⟨_, _, e⟩
theorem sli_idx {W : World} {n₀ k : Nat} {L : List Nat} {v : Value} (h : W.ownsRow n₀ 3 1 v k (L.map (fun n : Nat => encI (n : Int)))) : SlI W v (L.map natI) :=
  sli_own (zs := L.map natI) (by rw [List.map_map]; exact h)
theorem own_set2 {W : World} {n₀ e s : Nat} {v : Value} {k : Nat} {xs : List Value} (h : W.ownsRow n₀ e s v k xs) {b : Nat} (hb : b < n₀) (i : Nat) (u : Value) : (W.setCell ⟨b, i, none⟩ u).ownsRow n₀ e s v k xs :=
  h.kept (grown_set W ⟨b, i, none⟩ u) (by
    rcases e1 : v.ownBlock with _ | a
    · exact .inl rfl
    · refine .inr ?_
      have := (World.ownsRow.lt h a e1).1
      intro h2
      have : a = b := by simpa using h2
      omega)
/-- are these the numbers of a force? -/
def riF (ps : List Pt) (zs : List Int) : Bool := idxOk ps.length zs && fB ps (smC ps) (zs.map Int.toNat)
theorem idx_spec {n : Nat} {zs : List Int} (h : idxOk n zs = true) : ∀ k, k < zs.length → 0 ≤ zs.getD k 0 ∧ zs.getD k 0 < n ∧ (k = 0 ∨ zs.getD (k - 1) 0 < zs.getD k 0) := by
  intro k hk
  have := List.all_eq_true.1 h k (List.mem_range.2 hk)
  unfold idT at this
  simpa using this
theorem sharp_turn {p q r : Pt} (h1 : 0 < dt (q.1 - p.1, q.2 - p.2) (r.1 - p.1, r.2 - p.2)) (h2 : 0 < dt (r.1 - q.1, r.2 - q.2) (p.1 - q.1, p.2 - q.2)) (h3 : 0 < dt (p.1 - r.1, p.2 - r.2) (q.1 - r.1, q.2 - r.2)) : crs (q.1 - p.1, q.2 - p.2) (r.1 - p.1, r.2 - p.2) ≠ 0 := by
  unfold dt at h1 h2 h3
  unfold crs
  dsimp only at *
  obtain ⟨u1, hu1⟩ : ∃ t, q.1 - p.1 = t := ⟨_, rfl⟩
  obtain ⟨u2, hu2⟩ : ∃ t, q.2 - p.2 = t := ⟨_, rfl⟩
  obtain ⟨v1, hv1⟩ : ∃ t, r.1 - p.1 = t := ⟨_, rfl⟩
  obtain ⟨v2, hv2⟩ : ∃ t, r.2 - p.2 = t := ⟨_, rfl⟩
  rw [hu1, hu2, hv1, hv2] at h1 ⊢
  have k2 : 0 < (v1 - u1) * (-u1) + (v2 - u2) * (-u2) := by
    have : (r.1 - q.1) * (p.1 - q.1) + (r.2 - q.2) * (p.2 - q.2) = (v1 - u1) * (-u1) + (v2 - u2) * (-u2) := by
      rw [← hu1, ← hu2, ← hv1, ← hv2]; grind
    rwa [this] at h2
  have k3 : 0 < (-v1) * (u1 - v1) + (-v2) * (u2 - v2) := by
    have : (p.1 - r.1) * (q.1 - r.1) + (p.2 - r.2) * (q.2 - r.2) = (-v1) * (u1 - v1) + (-v2) * (u2 - v2) := by
      rw [← hu1, ← hu2, ← hv1, ← hv2]; grind
    rwa [this] at h3
  intro h0
  -- with N = u.u, M = v.v, D = u.v > 0: D < N, D < M; D D = N M since the cross product is 0
  have e : (u1 * v1 + u2 * v2) * (u1 * v1 + u2 * v2) = (u1 * u1 + u2 * u2) * (v1 * v1 + v2 * v2) - (u1 * v2 - u2 * v1) * (u1 * v2 - u2 * v1) := by grind
  rw [h0] at e
  have n1 : u1 * v1 + u2 * v2 < u1 * u1 + u2 * u2 := by
    have : (v1 - u1) * (-u1) + (v2 - u2) * (-u2) = (u1 * u1 + u2 * u2) - (u1 * v1 + u2 * v2) := by grind
    omega
  have n2 : u1 * v1 + u2 * v2 < v1 * v1 + v2 * v2 := by
    have : (-v1) * (u1 - v1) + (-v2) * (u2 - v2) = (v1 * v1 + v2 * v2) - (u1 * v1 + u2 * v2) := by grind
    omega
  generalize u1 * v1 + u2 * v2 = D at *
  generalize u1 * u1 + u2 * u2 = N at *
  generalize v1 * v1 + v2 * v2 = M at *
  have h5 : D * D < N * M := Int.lt_of_lt_of_le (Int.mul_lt_mul_of_pos_left n1 h1 |> fun h => h) (by
    rw [Int.mul_comm D N]
    exact Int.mul_le_mul_of_nonneg_left (by omega) (by omega))
  omega
theorem idx_nat {n : Nat} {zs : List Int} (h : idxOk n zs = true) : zs = (zs.map Int.toNat).map natI ∧ ∀ i ∈ zs.map Int.toNat, i < n := by
  have hk := idx_spec h
  have hz : ∀ z ∈ zs, 0 ≤ z ∧ z < n := by
    intro z hz
    obtain ⟨k, hlt, rfl⟩ := List.getElem_of_mem hz
    have := hk k hlt
    rw [getD_lt hlt] at this
    exact ⟨this.1, this.2.1⟩
  refine ⟨?_, fun i hi => ?_⟩
  · rw [List.map_map]
    conv => lhs; rw [← List.map_id zs]
    refine List.map_congr_left fun z hm => ?_
    have := hz z hm
    simp [natI]; omega
  · obtain ⟨z, hm, rfl⟩ := List.mem_map.1 hi
    have := hz z hm
    omega
theorem nat_back (L : List Nat) : (L.map natI).map Int.toNat = L := by
  rw [List.map_map]
  have : (Int.toNat ∘ natI) = id := by funext n; simp [natI]
  rw [this, List.map_id]
theorem force_ri {ps : List Pt} {i j k : Nat} (h1 : i ≤ j) (h2 : j ≤ k) (h3 : k < ps.length) (h : fB ps (smC ps) (cmp3 i j k) = true) : riF ps ((cmp3 i j k).map natI) = true := by
  unfold riF
  rw [nat_back, h, Bool.and_true]
  have hr : ∀ (L : List Nat), L = [i] ∨ (L = [i, j] ∧ i < j) ∨ (L = [i, k] ∧ i < k) ∨ (L = [i, j, k] ∧ i < j ∧ j < k) → idxOk ps.length (L.map natI) = true := by
    rintro L (rfl | ⟨rfl, h4⟩ | ⟨rfl, h4⟩ | ⟨rfl, h4, h5⟩)
    all_goals
      unfold idxOk idK
      rw [List.all_eq_true]
      intro t ht
      have ht := List.mem_range.1 ht
      simp only [List.map_cons, List.map_nil, List.length_cons, List.length_nil] at ht
      unfold idT natI
      simp only [Bool.and_eq_true, Bool.or_eq_true, decide_eq_true_eq]
    · obtain rfl : t = 0 := by omega
      simp; omega
    · rcases t with _ | _ | t
      · simp; omega
      · simp; omega
      · omega
    · rcases t with _ | _ | t
      · simp; omega
      · simp; omega
      · omega
    · rcases t with _ | _ | _ | t
      · simp; omega
      · simp; omega
      · simp; omega
      · omega
  refine hr _ ?_
  unfold cmp3
  split
  · split
    · exact .inl rfl
    · exact .inr (.inr (.inl ⟨rfl, by omega⟩))
  · split
    · exact .inr (.inl ⟨rfl, by omega⟩)
    · exact .inr (.inr (.inr ⟨rfl, by omega, by omega⟩))
end Go.Proofs.Ytlemipnplgbckaa
