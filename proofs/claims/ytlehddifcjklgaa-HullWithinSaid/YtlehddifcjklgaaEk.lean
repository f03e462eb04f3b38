import Derived.Test.YtlehddifcjklgaaEi
import Derived.Maps.OwnIn
import Derived.Maps.OwnSet
import Derived.Maps.AppendAt
import Derived.RangeFuncNested
import Derived.RangeFuncBound
import Derived.RangeFuncCalls
import Derived.RangeFuncLeaves
import Derived.Shelf.Abstract
import Derived.Shelf.RegionOpen
import Derived.WalkKit
import Derived.OwnWalkIn
import Derived.TacticsInMore
import Derived.LoopNIn
import Derived.LoopIn
import Derived.WalkMore
import Derived.Sort.QuietThIn
import Derived.Sort.QuietTacIn
import Derived.Sort.BigQuietIn
import Derived.WalkSpells
import Derived.WalkLawsBesides
import Derived.BigQuiet
import Derived.Deep.QuietTactic
import Derived.Lib.Hide
import Derived.Deep.RegionHeld3
import Derived.StillTailTactics
import Derived.Deep.LoopGhost
import Derived.Lib.IndexAny
namespace Go.Proofs.Ytlehddifcjklgaa
open Go.RowKit Go.Shelf
attribute [local go_sem] Oper.semAt_some
/-! going round from one point goes one way -/
theorem best_uniq {S : List Pt} {a n m : Pt} (ha : Ext S a) (h1 : Best S a n) (h2 : Best S a m) : n = m := by
  obtain ⟨d, hd⟩ := ha
  obtain ⟨n1, n2, n3⟩ := h1
  obtain ⟨m1, m2, m3⟩ := h2
  obtain ⟨g1, g2⟩ := n3 m m1 m2
  obtain ⟨k1, k2⟩ := m3 n n1 n2
  have hz : crs (mn n a) (mn m a) = 0 := by
    have e := crs_anti (mn n a) (mn m a); omega
  have hz2 : crs (mn m a) (mn n a) = 0 := by rw [crs_anti, hz]; rfl
  have hr := half_ray (hd n n1 n2) (hd m m1 m2) hz
  have hl := lagr (mn n a) (mn m a)
  rw [hz, Int.zero_mul, Int.add_zero] at hl
  have q1 := g2 hz
  have q2 := k2 hz2
  rcases Classical.em (n = m) with e | e
  · exact e
  · exfalso
    have hs := seg_lt hz hr q1 (fun x => e (by
      have := congrArg (fun q : Pt => (q.1 + a.1, q.2 + a.2)) x
      unfold mn at this
      simp only [Prod.mk.injEq] at this
      exact Prod.ext (by omega) (by omega)))
    generalize dt (mn n a) (mn m a) = y at *
    have hxz : dt (mn m a) (mn m a) = dt (mn n a) (mn n a) := by omega
    rw [hxz] at hl
    generalize dt (mn n a) (mn n a) = x at *
    have b1 := Int.mul_lt_mul_of_pos_right hs hr
    have b2 := Int.mul_lt_mul_of_pos_left hs (show 0 < x by omega)
    omega
theorem cyc_at {S os os' : List Pt} (h : Cyc S os) (h' : Cyc S os') (h0 : ptAt os 0 = ptAt os' 0) : ∀ i, i < os.length → i < os'.length → ptAt os i = ptAt os' i
  | 0, _, _ => h0
  | i + 1, hi, hi' => by
    have ih := cyc_at h h' h0 i (by omega) (by omega)
    have b := h.next i (by omega)
    have b' := h'.next i (by omega)
    unfold nx at b b'
    rw [Nat.mod_eq_of_lt hi] at b
    rw [Nat.mod_eq_of_lt hi', ← ih] at b'
    exact best_uniq (h.mem _ (ptAt_mem (by omega))).2 b b'
theorem cyc_len {S os os' : List Pt} (h : Cyc S os) (h' : Cyc S os') (h0 : ptAt os 0 = ptAt os' 0) (hp : 0 < os.length) : os'.length ≤ os.length := by
  rcases Nat.lt_or_ge os.length os'.length with hl | hl
  · exfalso
    have e := cyc_at h h' h0 (os.length - 1) (by omega) (by omega)
    have b := h.next (os.length - 1) (by omega)
    have b' := h'.next (os.length - 1) (by omega)
    unfold nx at b b'
    rw [show os.length - 1 + 1 = os.length by omega] at b b'
    rw [Nat.mod_self] at b
    rw [Nat.mod_eq_of_lt hl, ← e] at b'
    have := best_uniq (h.mem _ (ptAt_mem (by omega))).2 b b'
    rw [h0] at this
    have := nodup_idx h'.nodup (by omega) hl this
    omega
  · exact hl
theorem cyc_uniq {S os os' : List Pt} (h : Cyc S os) (h' : Cyc S os') (h0 : ptAt os 0 = ptAt os' 0) (hp : 0 < os.length) (hp' : 0 < os'.length) : os = os' := by
  have l1 := cyc_len h h' h0 hp
  have l2 := cyc_len h' h h0.symm hp'
  refine List.ext_getElem (by omega) fun i h1 h2 => ?_
  have := cyc_at h h' h0 i h1 h2
  rw [ptAt_lt h1, ptAt_lt h2] at this
  exact this
/-- the program's list and the reference's -/
theorem arnd_ref {ps L os : List Pt} (hp : L.Perm ps) (hs : SrtU L L.length) (h1 : 1 ≤ os.length) (hc : 2 ≤ os.length → Cyc ps os) (hone : os.length = 1 → ∀ p ∈ ps, p = ptAt os 0) (hm : ptAt os 0 ∈ ps) (hle : ∀ p ∈ ps, befB p (ptAt os 0) = false) (hne : dd L ≠ []) :
    (3 ≤ os.length → arnd (dd L) = os) ∧ (os.length < 3 → (arnd (dd L)).length < 3) ∧ (arnd (dd L)).length ≤ 12 ∨ 12 < ps.length := by
  rcases Nat.lt_or_ge 12 ps.length with hbig | hbig
  · exact .inr hbig
  left
  by_cases h2 : 2 ≤ (dd L).length
  · obtain ⟨c, f, e1, e2, e3⟩ := arnd_any hp hs h2
    have hpos : 0 < (arnd (dd L)).length := by
      rcases List.head?_eq_some_iff.1 e1 with ⟨r, hr⟩; rw [hr]; simp
    have hf : ptAt (arnd (dd L)) 0 = f := by
      rcases List.head?_eq_some_iff.1 e1 with ⟨r, hr⟩; rw [hr]; rfl
    have hfo : f = ptAt os 0 := bef_eq (hle f e2) (e3 _ hm)
    have hlen : 2 ≤ os.length := by
      rcases Nat.lt_or_ge os.length 2 with h | h
      · exfalso
        have hall := hone (by omega)
        obtain ⟨b1, b2, _⟩ := c.next 0 hpos
        exact b2 ((hall _ b1).trans (hall _ (c.mem _ (ptAt_mem hpos)).1).symm)
      · exact h
    have he := cyc_uniq c (hc hlen) (by rw [hf, hfo]) hpos (by omega)
    rw [he]
    refine ⟨fun _ => rfl, id, ?_⟩
    have := nodup_le (hc hlen).nodup (fun x hx => ((hc hlen).mem x hx).1)
    omega
  · have : ∃ p, dd L = [p] := by
      match hD : dd L with
      | [] => exact absurd hD hne
      | [p] => exact ⟨p, rfl⟩
      | a :: b :: r => rw [hD] at h2; simp at h2
    obtain ⟨p, hD⟩ := this
    have hl : arnd (dd L) = [] := by rw [hD]; rfl
    rw [hl]
    refine ⟨fun h3 => ?_, fun _ => by simp, by simp⟩
    exfalso
    obtain ⟨b1, b2, _⟩ := (hc (by omega)).next 0 (by omega)
    obtain ⟨_, hmem⟩ := dd_sorted hs
    have hall : ∀ q ∈ ps, q = p := fun q hq => by
      have := (hmem q).2 (hp.mem_iff.2 hq)
      rw [hD] at this; exact List.mem_singleton.1 this
    exact b2 ((hall _ b1).trans (hall _ hm).symm)
end Go.Proofs.Ytlehddifcjklgaa
