import Derived.Test.YtlemipnplgbckaaJC
import Derived.Laws.AppendOwn
import Derived.ChangeKeysEq
import Derived.Maps.RangeWalk
import Derived.Maps.OwnIn
import Derived.Maps.AppendAt
import Derived.RangeFuncNested
import Derived.RangeFuncBound
import Derived.RangeFuncCalls
import Derived.RangeFuncLeaves
import Derived.Shelf.Abstract
import Derived.Shelf.RegionOpen
import Derived.WalkKit
import Derived.WalkMore
import Derived.OwnWalkIn
import Derived.TacticsInMore
import Derived.LoopNIn
import Derived.LoopIn
import Derived.WalkSpells
import Derived.WalkLawsBesides
import Derived.BigQuiet
import Derived.Deep.QuietTactic
import Derived.Lib.Hide
import Derived.Deep.RegionHeld3
import Derived.StillTailTactics
import Derived.Deep.LoopGhost
import Derived.Maps.OwnSet
import Derived.Lib.IndexAny
import Derived.Sort.QuietThIn
import Derived.Sort.QuietTacIn
import Derived.Sort.BigQuietIn
import Derived.Laws.OwnMore
import Derived.DeepKeys4
import Derived.Maps.Views
import Derived.Maps.OwnOps
import Derived.Deep.DeepCutAuto
import Derived.Shelf.Bits.Mul64
import Derived.Shelf.LaysM
namespace Go.Proofs.Ytlemipnplgbckaa
open Go.RowKit Go.Shelf
attribute [local go_sem] Oper.semAt_some
theorem va_sm {ps : List Pt} (he : chkP ps = true) : vaF (smC ps) = true := by
  obtain ⟨⟨h1, _⟩, hpb, _⟩ := chkP_iff.1 he
  have hne : ps ≠ [] := by intro e; rw [e] at h1; simp at h1
  obtain ⟨m1, m2, _⟩ := sm_spec hne
  obtain ⟨b1, b2, b3, b4, b5⟩ := circL_bd hpb _ m1
  exact vaF_iff.2 ⟨⟨b1.1, b1.2, b2.1, b2.2, b3.1, b3.2⟩, b4, b5, m2.2⟩
theorem mem_onF {ps : List Pt} {C : Cir} {t : Nat} : t ∈ onF ps C ↔ t < ps.length ∧ whF C (ptAt ps t) = 0 := by
  unfold onF; rw [mem_whL, decide_eq_true_iff]
def onP (ps : List Pt) (C : Cir) : List Pt := (onF ps C).map (ptAt ps)
theorem pt_mem {ps : List Pt} {t : Nat} (h : t < ps.length) : ptAt ps t ∈ ps := by rw [ptAt_lt h]; exact List.getElem_mem h
theorem mem_onP {ps : List Pt} {p : Pt} : p ∈ onP ps (smC ps) ↔ p ∈ ps ∧ whF (smC ps) p = 0 := by
  unfold onP
  rw [List.mem_map]
  constructor
  · rintro ⟨t, ht, rfl⟩
    obtain ⟨h1, h2⟩ := mem_onF.1 ht
    exact ⟨pt_mem h1, h2⟩
  · rintro ⟨hp, h0⟩
    obtain ⟨t, ht, rfl⟩ := at_of_mem hp
    exact ⟨t, mem_onF.2 ⟨ht, h0⟩, rfl⟩
theorem on_best {ps : List Pt} (hne : ps ≠ []) : Best (onP ps (smC ps)) (smC ps).Z (smC ps).ρ := by
  obtain ⟨_, m2, m3⟩ := sm_spec hne
  exact best_filter hne m3 (fun p => by rw [mem_onP, wh_eq _ m2.1])
theorem pt_inj {ps : List Pt} (hnd : ps.Nodup) {i j : Nat} (hi : i < ps.length) (hj : j < ps.length) (h : ptAt ps i = ptAt ps j) : i = j := by
  rw [ptAt_lt hi, ptAt_lt hj] at h
  exact (List.getElem_inj hnd).1 h
theorem map_nodup {ps : List Pt} (hnd : ps.Nodup) : ∀ L : List Nat, L.Nodup → (∀ t ∈ L, t < ps.length) → (L.map (ptAt ps)).Nodup
  | [], _, _ => by simp
  | t :: L, h, hb => by
    rw [List.nodup_cons] at h
    rw [List.map_cons, List.nodup_cons]
    refine ⟨fun hm => ?_, map_nodup hnd L h.2 (fun u hu => hb u (List.mem_cons_of_mem _ hu))⟩
    obtain ⟨u, hu, e⟩ := List.mem_map.1 hm
    have := pt_inj hnd (hb u (List.mem_cons_of_mem _ hu)) (hb t (by simp)) e
    exact h.1 (this ▸ hu)
theorem onF_nodup (ps : List Pt) (C : Cir) : (onF ps C).Nodup := by
  unfold onF whL whK
  exact List.Nodup.sublist List.filter_sublist List.nodup_range
theorem onF_len (ps : List Pt) (C : Cir) : (onF ps C).length ≤ ps.length := by unfold onF whL; exact whK_len _ _ _
theorem onP_ok {ps : List Pt} (he : chkP ps = true) : chkP (onP ps (smC ps)) = true := by
  obtain ⟨⟨h1, h12⟩, hpb, hnd⟩ := chkP_iff.1 he
  have hne : ps ≠ [] := by intro e; rw [e] at h1; simp at h1
  obtain ⟨_, m2, m3⟩ := sm_spec hne
  obtain ⟨p, hp, hd⟩ := best_on hne m3
  have hpo : p ∈ onP ps (smC ps) := mem_onP.2 ⟨hp, (wh_eq _ m2.1 p).2 hd⟩
  refine chkP_iff.2 ⟨⟨?_, ?_⟩, fun q hq => hpb q (mem_onP.1 hq).1, ?_⟩
  · have := List.length_pos_of_mem hpo; omega
  · unfold onP; rw [List.length_map]; exact Nat.le_trans (onF_len ps _) h12
  · exact map_nodup hnd _ (onF_nodup ps _) (fun t ht => (mem_onF.1 ht).1)
theorem on_small {ps : List Pt} (he : chkP ps = true) : smC (onP ps (smC ps)) = smC ps := by
  obtain ⟨⟨h1, _⟩, _⟩ := chkP_iff.1 he
  have hne : ps ≠ [] := by intro e; rw [e] at h1; simp at h1
  obtain ⟨⟨k1, _⟩, _⟩ := chkP_iff.1 (onP_ok he)
  have hne2 : onP ps (smC ps) ≠ [] := by intro e; rw [e] at k1; simp at k1
  exact (sm_unique hne2 (sm_spec hne).2.1 (on_best hne)).symm
theorem on_two {ps : List Pt} (he : chkP ps = true) : min 2 ps.length ≤ (onF ps (smC ps)).length := by
  obtain ⟨⟨h1, h12⟩, hpb, hnd⟩ := chkP_iff.1 he
  have hne : ps ≠ [] := by intro e; rw [e] at h1; simp at h1
  obtain ⟨⟨k1, _⟩, _⟩ := chkP_iff.1 (onP_ok he)
  have hlen : (onP ps (smC ps)).length = (onF ps (smC ps)).length := by unfold onP; rw [List.length_map]
  by_cases h2 : 2 ≤ (onF ps (smC ps)).length
  · omega
  · have hb := on_best hne
    obtain ⟨p, hp⟩ : ∃ p, onP ps (smC ps) = [p] := List.length_eq_one_iff.1 (by omega)
    rw [hp] at hb
    have h0 : (smC ps).ρ ≤ 0 := hb.2 (ptZ p) 0 (fun q hq => by
      rw [List.mem_singleton] at hq; subst hq
      unfold d2 ptZ; dsimp only; grind)
    have hall : ∀ q ∈ ps, (smC ps).Z = ptZ q := fun q hq => d2_zero (Rat.le_trans ((sm_spec hne).2.2.1 q hq) h0)
    by_cases h3 : 2 ≤ ps.length
    · exfalso
      have e1 := hall _ (pt_mem (show 0 < ps.length by omega))
      have e2 := hall _ (pt_mem (show 1 < ps.length by omega))
      have := pt_inj hnd (by omega) (by omega) (ptZ_inj (e1.symm.trans e2))
      omega
    · omega
theorem wh_sm {ps : List Pt} (he : chkP ps = true) {t : Nat} (ht : t < ps.length) : whF (smC ps) (ptAt ps t) ≤ 0 := by
  obtain ⟨⟨h1, _⟩, _⟩ := chkP_iff.1 he
  have hne : ps ≠ [] := by intro e; rw [e] at h1; simp at h1
  obtain ⟨_, m2, m3⟩ := sm_spec hne
  exact (wh_le _ m2.1 _).2 (m3.1 _ (pt_mem ht))
/-- on which side of the line through the middle is a point? -/
def sdF (C : Cir) (d p : Pt) : Int := d.1 * (p.1 * C.D - C.X) + d.2 * (p.2 * C.D - C.Y)
theorem sd_rat {C : Cir} (hd : 1 ≤ C.D) (d p : Pt) : (sdF C d p : Rat) = (C.D : Rat) * ((d.1 : Rat) * ((p.1 : Rat) - C.Z.1) + (d.2 : Rat) * ((p.2 : Rat) - C.Z.2)) := by
  have h := ratD hd
  have e1 : (C.D : Rat) * C.Z.1 = C.X := by
    unfold Cir.Z; dsimp only
    rw [Rat.mul_comm]; exact Rat.div_mul_cancel (by grind)
  have e2 : (C.D : Rat) * C.Z.2 = C.Y := by
    unfold Cir.Z; dsimp only
    rw [Rat.mul_comm]; exact Rat.div_mul_cancel (by grind)
  unfold sdF
  push_cast
  grind
theorem sides {ps : List Pt} (he : chkP ps = true) (d : Pt) : (∃ t ∈ onF ps (smC ps), 0 ≤ sdF (smC ps) d (ptAt ps t)) ∧ ∃ t ∈ onF ps (smC ps), sdF (smC ps) d (ptAt ps t) ≤ 0 := by
  obtain ⟨⟨h1, _⟩, _⟩ := chkP_iff.1 he
  have hne : ps ≠ [] := by intro e; rw [e] at h1; simp at h1
  obtain ⟨_, m2, m3⟩ := sm_spec hne
  have hD := ratD m2.1
  have key : ∀ s : Rat, (s = 1 ∨ s = -1) → ∃ t ∈ onF ps (smC ps), s * (sdF (smC ps) d (ptAt ps t) : Rat) ≤ 0 := by
    intro s hs
    refine Classical.byContradiction fun hno => ?_
    refine best_sides m3 (s * d.1, s * d.2) (fun q hq hd2 => ?_) hne
    obtain ⟨t, ht, rfl⟩ := at_of_mem hq
    have hmem : t ∈ onF ps (smC ps) := mem_onF.2 ⟨ht, (wh_eq _ m2.1 _).2 hd2⟩
    have hgt : 0 < s * (sdF (smC ps) d (ptAt ps t) : Rat) := by
      refine Rat.not_le.1 fun hle => hno ⟨t, hmem, hle⟩
    rw [sd_rat m2.1] at hgt
    dsimp only
    have e : s * (d.1 : Rat) * (((ptAt ps t).1 : Rat) - (smC ps).Z.1) + s * (d.2 : Rat) * (((ptAt ps t).2 : Rat) - (smC ps).Z.2) = s * ((d.1 : Rat) * (((ptAt ps t).1 : Rat) - (smC ps).Z.1) + (d.2 : Rat) * (((ptAt ps t).2 : Rat) - (smC ps).Z.2)) := by grind
    rw [e]
    generalize (d.1 : Rat) * (((ptAt ps t).1 : Rat) - (smC ps).Z.1) + (d.2 : Rat) * (((ptAt ps t).2 : Rat) - (smC ps).Z.2) = u at hgt ⊢
    refine Rat.not_le.1 fun hle => ?_
    have : ((smC ps).D : Rat) * (s * u) ≤ ((smC ps).D : Rat) * 0 := (mul_le_iff hD).2 hle
    rw [Rat.mul_zero] at this
    have h5 : s * (((smC ps).D : Rat) * u) = ((smC ps).D : Rat) * (s * u) := by grind
    rw [h5] at hgt
    exact absurd hgt (Rat.not_lt.2 this)
  refine ⟨?_, ?_⟩
  · obtain ⟨t, ht, h⟩ := key (-1) (.inr rfl)
    refine ⟨t, ht, ?_⟩
    have : ((0 : Int) : Rat) ≤ (sdF (smC ps) d (ptAt ps t) : Rat) := by
      have h0 : ((0 : Int) : Rat) = 0 := rfl
      rw [h0]; grind
    exact (rat_le _ _).1 this
  · obtain ⟨t, ht, h⟩ := key 1 (.inl rfl)
    refine ⟨t, ht, ?_⟩
    have : (sdF (smC ps) d (ptAt ps t) : Rat) ≤ ((0 : Int) : Rat) := by
      have h0 : ((0 : Int) : Rat) = 0 := rfl
      rw [h0]; grind
    exact (rat_le _ _).1 this
def foP (ps : List Pt) (i j k : Nat) : List Pt := (cmp3 i j k).map (ptAt ps)
theorem cmp3_one (i j k : Nat) : 0 < (cmp3 i j k).length := by
  unfold cmp3; split <;> split <;> simp
theorem cmp3_nodup {i j k : Nat} (h1 : i ≤ j) (h2 : j ≤ k) : (cmp3 i j k).Nodup := by
  unfold cmp3
  split
  · split
    · simp
    · simp; omega
  · split
    · simp; omega
    · simp; omega
theorem fo_small {ps : List Pt} (he : chkP ps = true) {i j k : Nat} (h1 : i ≤ j) (h2 : j ≤ k) (h3 : k < ps.length) (hf : fB ps (smC ps) (cmp3 i j k) = true) : chkP (foP ps i j k) = true ∧ smC (foP ps i j k) = smC ps := by
  obtain ⟨⟨g1, g12⟩, hpb, hnd⟩ := chkP_iff.1 he
  have hne : ps ≠ [] := by intro e; rw [e] at g1; simp at g1
  obtain ⟨_, m2, m3⟩ := sm_spec hne
  have hmem := cmp3_mem h1 h2 h3
  have hok : chkP (foP ps i j k) = true := by
    refine chkP_iff.2 ⟨⟨?_, ?_⟩, fun q hq => ?_, map_nodup hnd _ (cmp3_nodup h1 h2) hmem⟩
    · unfold foP; rw [List.length_map]; have := cmp3_one i j k; omega
    · unfold foP; rw [List.length_map]; have := cmp3_len i j k; omega
    · obtain ⟨t, ht, rfl⟩ := List.mem_map.1 hq
      exact hpb _ (pt_mem (hmem t ht))
  have hne2 : foP ps i j k ≠ [] := by
    intro e
    obtain ⟨⟨k1, _⟩, _⟩ := chkP_iff.1 hok
    rw [e] at k1; simp at k1
  refine ⟨hok, (sm_unique hne2 m2 ?_).symm⟩
  have hB : ∀ L : List Nat, fB ps (smC ps) L = true → (∀ t ∈ L, t < ps.length) → Best (L.map (ptAt ps)) (smC ps).Z (smC ps).ρ := by
    intro L hL hb
    match L with
    | [] => cases hL
    | [a] =>
      have hn : ps.length = 1 := of_decide_eq_true hL
      have ha := hb a (by simp)
      obtain rfl : a = 0 := by omega
      have : [ptAt ps 0] = ps := by
        rw [ptAt_lt ha]
        exact (List.ext_getElem (by simp [hn]) (fun t h5 h6 => by
          have : t = 0 := by omega
          subst this; rfl))
      rw [List.map_cons, List.map_nil, this]
      exact m3
    | [a, b] =>
      have hn : ovC (ptAt ps a) (ptAt ps b) = smC ps := of_decide_eq_true hL
      rw [← hn, ovC_Z, ovC_ρ]
      exact best_two _ _
    | [a, b, c] =>
      have hn : shB (smC ps) (ptAt ps a) (ptAt ps b) (ptAt ps c) = true := hL
      obtain ⟨⟨e1, e2, e3⟩, p1, p2, p3⟩ := (shB_iff m2.1).1 hn
      rw [← e1]
      refine best_three (e1.trans e2.symm) (e1.trans e3.symm) p1 ?_ p3
      rw [dp_comm]; exact p2
    | a :: b :: c :: d :: L => cases hL
  exact hB _ hf hmem
end Go.Proofs.Ytlemipnplgbckaa
