import Derived.Test.YtlemipnplgbckaaEA
import Derived.Test.YtlemipnplgbckaaMG
import Derived.Laws.AppendOwn
import Derived.ChangeKeysEq
import Derived.Maps.RangeWalk
import Derived.Maps.OwnIn
import Derived.Maps.AppendAt
import Derived.RangeFuncNested
import Derived.RangeFuncBound
import Derived.RangeFuncCalls
import Derived.RangeFuncLeaves
import Derived.Shelf.Abstract
import Derived.Shelf.RegionOpen
import Derived.WalkKit
import Derived.WalkMore
import Derived.OwnWalkIn
import Derived.TacticsInMore
import Derived.LoopNIn
import Derived.LoopIn
import Derived.WalkSpells
import Derived.WalkLawsBesides
import Derived.BigQuiet
import Derived.Deep.QuietTactic
import Derived.Lib.Hide
import Derived.Deep.RegionHeld3
import Derived.StillTailTactics
import Derived.Deep.LoopGhost
import Derived.Maps.OwnSet
import Derived.Lib.IndexAny
import Derived.Sort.QuietThIn
import Derived.Sort.QuietTacIn
import Derived.Sort.BigQuietIn
import Derived.Laws.OwnMore
import Derived.DeepKeys4
import Derived.Maps.Views
import Derived.Maps.OwnOps
import Derived.Deep.DeepCutAuto
import Derived.Shelf.Bits.Mul64
import Derived.Shelf.LaysM
namespace Go.Proofs.Ytlemipnplgbckaa
open Go.RowKit Go.Shelf
attribute [local go_sem] Oper.semAt_some
/-- the reference's search for the smallest circle: the best one so far -/
def stepS (ps : List Pt) (s : Bool × Cir) (c : Cir) : Bool × Cir := if holdB ps c && (!s.1 || decide (cmpV c s.2 < 0)) then (true, c) else s
def selF (ps : List Pt) (cs : List Cir) : Bool × Cir := cs.foldl (stepS ps) (false, ⟨0, 0, 0, 0⟩)
theorem selF_snoc (ps : List Pt) (cs : List Cir) (c : Cir) : selF ps (cs ++ [c]) = stepS ps (selF ps cs) c := by
  unfold selF; rw [List.foldl_append]; rfl
def thO (ps : List Pt) (i k j : Nat) : List Cir := if thD (ptAt ps i) (ptAt ps k) (ptAt ps j) = 0 then [] else [thC (ptAt ps i) (ptAt ps k) (ptAt ps j)]
def rcJ (ps : List Pt) (i k j : Nat) : List Cir := (List.range j).flatMap (fun t : Nat => thO ps i k t)
def rcK (ps : List Pt) (i k : Nat) : List Cir := (List.range k).flatMap (fun t : Nat => ovC (ptAt ps i) (ptAt ps t) :: rcJ ps i t t)
def rcL (ps : List Pt) (i : Nat) : List Cir := (List.range i).flatMap (fun a : Nat => rcK ps a a)
theorem rcJ_zero (ps : List Pt) (i k : Nat) : rcJ ps i k 0 = [] := by simp [rcJ]
theorem rcK_zero (ps : List Pt) (i : Nat) : rcK ps i 0 = [] := by simp [rcK]
theorem rcL_zero (ps : List Pt) : rcL ps 0 = [] := by simp [rcL]
theorem rcJ_next (ps : List Pt) (i k j : Nat) : rcJ ps i k (j + 1) = rcJ ps i k j ++ thO ps i k j := by
  unfold rcJ; rw [List.range_succ, List.flatMap_append]; simp
theorem rcK_next (ps : List Pt) (i k : Nat) : rcK ps i (k + 1) = rcK ps i k ++ (ovC (ptAt ps i) (ptAt ps k) :: rcJ ps i k k) := by
  unfold rcK; rw [List.range_succ, List.flatMap_append]; simp
theorem rcL_next (ps : List Pt) (i : Nat) : rcL ps (i + 1) = rcL ps i ++ rcK ps i i := by
  unfold rcL; rw [List.range_succ, List.flatMap_append]; simp
theorem mem_rc {ps : List Pt} {n : Nat} {c : Cir} : c ∈ rcL ps n ↔ ∃ i, i < n ∧ ∃ k, k < i ∧ (c = ovC (ptAt ps i) (ptAt ps k) ∨ ∃ j, j < k ∧ thD (ptAt ps i) (ptAt ps k) (ptAt ps j) ≠ 0 ∧ c = thC (ptAt ps i) (ptAt ps k) (ptAt ps j)) := by
  unfold rcL rcK rcJ thO
  simp only [List.mem_flatMap, List.mem_range, List.mem_cons]
  constructor
  · rintro ⟨i, hi, k, hk, h | ⟨j, hj, h⟩⟩
    · exact ⟨i, hi, k, hk, .inl h⟩
    · split at h
      · cases h
      · rename_i hd
        exact ⟨i, hi, k, hk, .inr ⟨j, hj, hd, by simpa using h⟩⟩
  · rintro ⟨i, hi, k, hk, h | ⟨j, hj, hd, h⟩⟩
    · exact ⟨i, hi, k, hk, .inl h⟩
    · exact ⟨i, hi, k, hk, .inr ⟨j, hj, by rw [if_neg hd]; simpa using h⟩⟩
theorem rc_bd {ps : List Pt} (h : ∀ p ∈ ps, Bd 20 p.1 ∧ Bd 20 p.2) {c : Cir} (hc : c ∈ rcL ps ps.length) : CirB c := by
  obtain ⟨i, hi, k, hk, h1 | ⟨j, hj, hd, h1⟩⟩ := mem_rc.1 hc
  · rw [h1]
    exact ovC_bd (pt_bd h rfl hi) (pt_bd h rfl (by omega))
  · rw [h1]
    exact thC_bd (pt_bd h rfl hi) (pt_bd h rfl (by omega)) (pt_bd h rfl (by omega)) hd
theorem rc_low {ps : List Pt} {n : Nat} {c : Cir} (hc : c ∈ rcL ps n) : Low c := by
  obtain ⟨i, hi, k, hk, h1 | ⟨j, hj, hd, h1⟩⟩ := mem_rc.1 hc
  · rw [h1]; exact low_rnd (by omega)
  · rw [h1]; exact low_rnd hd
/-- what the search has found -/
structure SelI (ps : List Pt) (cs : List Cir) (s : Bool × Cir) : Prop where
  no : s.1 = false → ∀ c ∈ cs, holdB ps c = false
  yes : s.1 = true → s.2 ∈ cs ∧ holdB ps s.2 = true ∧ ∀ c ∈ cs, holdB ps c = true → s.2.ρ ≤ c.ρ
theorem SelI.nil (ps : List Pt) : SelI ps [] (false, ⟨0, 0, 0, 0⟩) := ⟨fun _ c h => (by cases h), fun h => (by cases h)⟩
theorem SelI.step {ps : List Pt} {cs : List Cir} {s : Bool × Cir} {c : Cir} (h : SelI ps cs s) (hd : ∀ c ∈ cs, 1 ≤ c.D) (hc : 1 ≤ c.D) : SelI ps (cs ++ [c]) (stepS ps s c) := by
  obtain ⟨f, b⟩ := s
  unfold stepS
  cases hh : holdB ps c with
  | false =>
    rw [if_neg (by simp)]
    refine ⟨fun hf d hdm => ?_, fun hf => ?_⟩
    · rcases List.mem_append.1 hdm with h1 | h1
      · exact h.no hf d h1
      · rw [List.mem_singleton] at h1; rw [h1]; exact hh
    · obtain ⟨y1, y2, y3⟩ := h.yes hf
      refine ⟨List.mem_append_left _ y1, y2, fun d hdm hdh => ?_⟩
      rcases List.mem_append.1 hdm with h1 | h1
      · exact y3 d h1 hdh
      · rw [List.mem_singleton] at h1; rw [h1, hh] at hdh; cases hdh
  | true =>
    cases f with
    | false =>
      rw [if_pos (by simp)]
      refine ⟨fun hf => (by cases hf), fun _ => ⟨by simp, hh, fun d hdm hdh => ?_⟩⟩
      rcases List.mem_append.1 hdm with h1 | h1
      · have := h.no rfl d h1; rw [hdh] at this; cases this
      · rw [List.mem_singleton] at h1; rw [h1]; exact Rat.le_refl
    | true =>
      obtain ⟨y1, y2, y3⟩ := h.yes rfl
      by_cases hl : cmpV c b < 0
      · rw [if_pos (by simp [hl])]
        have hlt := (cmpV_lt hc (hd b y1)).1 hl
        refine ⟨fun hf => (by cases hf), fun _ => ⟨by simp, hh, fun d hdm hdh => ?_⟩⟩
        rcases List.mem_append.1 hdm with h1 | h1
        · exact Rat.le_trans (Rat.le_of_lt hlt) (y3 d h1 hdh)
        · rw [List.mem_singleton] at h1; rw [h1]; exact Rat.le_refl
      · rw [if_neg (by simp [hl])]
        have hge : b.ρ ≤ c.ρ := by
          have := fun h => hl ((cmpV_lt hc (hd b y1)).2 h)
          exact Rat.not_lt.1 this
        refine ⟨fun hf => (by cases hf), fun _ => ⟨List.mem_append_left _ y1, y2, fun d hdm hdh => ?_⟩⟩
        rcases List.mem_append.1 hdm with h1 | h1
        · exact y3 d h1 hdh
        · rw [List.mem_singleton] at h1; rw [h1]; exact hge
theorem SelI.all {ps : List Pt} : ∀ (rs cs : List Cir) (s : Bool × Cir), SelI ps cs s → (∀ c ∈ cs ++ rs, 1 ≤ c.D) → SelI ps (cs ++ rs) (rs.foldl (stepS ps) s)
  | [], cs, s, h, _ => by rw [List.append_nil]; exact h
  | c :: rs, cs, s, h, hd => by
    have h1 := h.step (c := c) (fun d hd' => hd d (List.mem_append_left _ hd')) (hd c (by simp))
    have h2 := SelI.all rs (cs ++ [c]) _ h1 (by rw [List.append_assoc]; exact hd)
    rw [List.append_assoc] at h2
    exact h2
theorem selF_spec {ps : List Pt} {cs : List Cir} (hd : ∀ c ∈ cs, 1 ≤ c.D) : SelI ps cs (selF ps cs) := by
  have := SelI.all cs [] _ (SelI.nil ps) (by simpa using hd)
  rw [List.nil_append] at this
  exact this
theorem holdB_same {ps : List Pt} {c d : Cir} (hc : 1 ≤ c.D) (hd : 1 ≤ d.D) (hz : c.Z = d.Z) (hr : c.ρ = d.ρ) (h : holdB ps c = true) : holdB ps d = true := by
  rw [holdB_iff hd, ← hz, ← hr]; exact (holdB_iff hc).1 h
theorem mid_swap (p q : Pt) : midZ p q = midZ q p := by
  unfold midZ; rw [Rat.add_comm (p.1 : Rat), Rat.add_comm (p.2 : Rat)]
/-- each circle of the program has one of the reference with the same middle and radius, or is over one point -/
theorem rc_of_circ {ps : List Pt} {c : Cir} (h : c ∈ circL ps) : (∃ c' ∈ rcL ps ps.length, c'.Z = c.Z ∧ c'.ρ = c.ρ) ∨ ∃ i, i < ps.length ∧ c = ovC (ptAt ps i) (ptAt ps i) := by
  rcases circL_cases h with ⟨i, j, hij, hj, rfl⟩ | ⟨i, j, k, hij, hjk, hk, hd, rfl⟩
  · by_cases e : i = j
    · subst e; exact .inr ⟨i, hj, rfl⟩
    · left
      refine ⟨ovC (ptAt ps j) (ptAt ps i), mem_rc.2 ⟨j, hj, i, by omega, .inl rfl⟩, ?_, ?_⟩
      · rw [ovC_Z, ovC_Z, mid_swap]
      · rw [ovC_ρ, ovC_ρ, mid_swap]
        generalize ptAt ps i = p
        generalize ptAt ps j = q
        unfold d2 midZ
        dsimp only
        grind
  · left
    obtain ⟨o1, o2⟩ := thC_on hd
    have hd2 : thD (ptAt ps k) (ptAt ps j) (ptAt ps i) ≠ 0 := by
      rw [thD_ne] at hd ⊢
      rw [(cr_swap (a := ptAt ps i) (b := ptAt ps j) (c := ptAt ps k)).2.2.2.2]
      grind
    have hz := thC_mid (z := (thC (ptAt ps i) (ptAt ps j) (ptAt ps k)).Z) hd2 (o2.symm.trans o1) o2.symm
    refine ⟨thC (ptAt ps k) (ptAt ps j) (ptAt ps i), mem_rc.2 ⟨k, hk, j, hjk, .inr ⟨i, hij, hd2, rfl⟩⟩, hz, ?_⟩
    rw [thC_ρ hd2, thC_ρ hd, hz]
    exact o2.symm
theorem ov_self (p : Pt) : (ovC p p).ρ = 0 := by
  rw [ovC_ρ]; unfold d2 midZ; dsimp only; grind
theorem sel_small {ps : List Pt} (h2 : 2 ≤ ps.length) (hnd : ps.Nodup) : (selF ps (rcL ps ps.length)).1 = true ∧ (selF ps (rcL ps ps.length)).2 = smC ps := by
  have hne : ps ≠ [] := by intro e; rw [e] at h2; simp at h2
  have hs := selF_spec (ps := ps) (cs := rcL ps ps.length) (fun c hc => (rc_low hc).1)
  obtain ⟨m1, m2, m3⟩ := sm_spec hne
  have hh : holdB ps (smC ps) = true := (holdB_iff m2.1).2 m3.1
  have hex : ∃ c' ∈ rcL ps ps.length, c'.Z = (smC ps).Z ∧ c'.ρ = (smC ps).ρ := by
    rcases rc_of_circ m1 with h | ⟨i, hi, h⟩
    · exact h
    · exfalso
      have h0 : (smC ps).ρ = 0 := by rw [h, ov_self]
      have hall : ∀ q ∈ ps, (smC ps).Z = ptZ q := fun q hq => d2_zero (by have := m3.1 q hq; rw [h0] at this; exact this)
      have e1 := hall _ (List.getElem_mem (show 0 < ps.length by omega))
      have e2 := hall _ (List.getElem_mem (show 1 < ps.length by omega))
      have e3 := ptZ_inj (e1.symm.trans e2)
      have := (List.nodup_iff_pairwise_ne.1 hnd)
      have h01 := List.pairwise_iff_getElem.1 this 0 1 (by omega) (by omega) (by omega)
      exact h01 e3
  obtain ⟨c', hc', z1, r1⟩ := hex
  have hh' : holdB ps c' = true := holdB_same m2.1 (rc_low hc').1 z1.symm r1.symm hh
  cases hf : (selF ps (rcL ps ps.length)).1 with
  | false => have := hs.no hf c' hc'; rw [hh'] at this; cases this
  | true =>
    refine ⟨rfl, ?_⟩
    obtain ⟨y1, y2, y3⟩ := hs.yes hf
    have hl := rc_low y1
    refine sm_unique hne hl ?_
    have hle : (selF ps (rcL ps ps.length)).2.ρ ≤ (smC ps).ρ := by rw [← r1]; exact y3 c' hc' hh'
    exact ⟨(holdB_iff hl.1).1 y2, fun y σ hy => Rat.le_trans hle (m3.2 y σ hy)⟩
theorem sel_bd {ps : List Pt} {cs : List Cir} (hb : ∀ p ∈ ps, Bd 20 p.1 ∧ Bd 20 p.2) (h : ∀ c ∈ cs, c ∈ rcL ps ps.length) (hf : (selF ps cs).1 = true) : CirB (selF ps cs).2 :=
  rc_bd hb (h _ ((selF_spec (fun c hc => (rc_low (h c hc)).1)).yes hf).1)
theorem holdB_take {ps : List Pt} {c : Cir} {k : Nat} (h : k < ps.length) : ((ps.take (k + 1)).any fun p => decide (0 < whF c p)) = ((ps.take k).any (fun p => decide (0 < whF c p)) || decide (0 < whF c (ptAt ps k))) := by
  rw [List.take_succ_eq_append_getElem h, List.any_append, ptAt_lt h]; simp
end Go.Proofs.Ytlemipnplgbckaa
