import Derived.Test.YtlamppplnojpbaaLr
import Derived.Laws.AppendOwn
import Derived.ChangeKeysEq
import Derived.Maps.RangeWalk
import Derived.Maps.OwnIn
import Derived.Maps.AppendAt
import Derived.RangeFuncNested
import Derived.RangeFuncBound
import Derived.RangeFuncCalls
import Derived.RangeFuncLeaves
import Derived.Shelf.Abstract
import Derived.Shelf.RegionOpen
import Derived.WalkKit
import Derived.WalkMore
import Derived.OwnWalkIn
import Derived.TacticsInMore
import Derived.LoopNIn
import Derived.LoopIn
import Derived.WalkSpells
import Derived.WalkLawsBesides
import Derived.BigQuiet
import Derived.Deep.QuietTactic
import Derived.Lib.Hide
import Derived.Deep.RegionHeld3
import Derived.StillTailTactics
import Derived.Deep.LoopGhost
import Derived.Maps.OwnSet
import Derived.Lib.IndexAny
import Derived.Sort.QuietThIn
import Derived.Sort.QuietTacIn
import Derived.Sort.BigQuietIn
import Derived.Laws.OwnMore
namespace Go.Proofs.Ytlamppplnojpbaa
open Go.RowKit Go.Shelf
attribute [local go_sem] Oper.semAt_some
/-! what the searches of one filling say of one another -/
theorem ssF_in {cl : Bool} {n : Nat} {x : Int × Int} (hn : 1 ≤ n) : x ∈ ssF cl n ↔ (lsF cl ≤ x.1 ∧ x.1 < (n : Int)) ∧ (lsF cl ≤ x.2 ∧ x.2 < (n : Int)) ∧ x.1 ≠ x.2 := by
  have hm := mF_ok cl n
  constructor
  · intro h
    have := mem_step h
    omega
  · rintro ⟨h1, h2, h3⟩
    exact step_isin (by omega) (by omega) h3
/-- a shortest way is at most as long as the greatest number of steps -/
theorem way_le {P S G : List Int} {cl : Bool} {n : Nat} (hn4 : n ≤ 4) (hS : FitP P S) {res far : Sn × Option (List Int)} (hres : srch P (glG G) (ssF cl n) 28562 S = some res) (hfar : srch P glN (ssF cl n) 28562 S = some far) {K : Int} (hK : FarK far.1 K) (hok : res.2.isSome = true) :
    ((wayF res).length : Int) ≤ K ∧ ∃ k, Rch P (ssF cl n) S k G := by
  have hm := mF_ok cl n
  obtain ⟨ht, _, hf⟩ := srch_tree P (glG G) (lsF cl) (mF cl n) (lsF_ok cl) (by omega) S hS 28562 res hres
  obtain ⟨ht2, _, hf2⟩ := srch_tree P glN (lsF cl) (mF cl n) (lsF_ok cl) (by omega) S hS 28562 far hfar
  have hL := srch_least _ _ _ _ _ _ hres
  have hL2 := srch_least _ _ _ _ _ _ hfar
  obtain ⟨g, hg⟩ := Option.isSome_iff_exists.1 hok
  obtain ⟨h1, c, hc, hmin⟩ := hL.got g hg
  have hgG : g = G := of_decide_eq_true h1
  subst hgG
  have hnone : far.2 = none := by
    rcases h : far.2 with _ | q
    · rfl
    · have := (hf2 q h).2; simp [glN] at this
  have hr := ht.rch hc
  obtain ⟨c2, hc2, _⟩ := (hL2.non hnone).1 _ _ hr
  have h2 := hmin _ _ (ht2.rch hc2) h1
  have h3 := hK.1 _ _ hc2
  have k0 := (ht.knn hc).1
  have k2 := (ht2.knn hc2).1
  have hcm : cmOf res.1 g = c := by unfold cmOf; rw [hc]; rfl
  refine ⟨?_, _, hr⟩
  unfold wayF
  rw [hg]
  dsimp only
  rw [List.length_reverse, trc_len, hcm]
  omega
/-- a way is found just if the filling is reached -/
theorem way_iff {P S G : List Int} {cl : Bool} {n : Nat} (hn4 : n ≤ 4) (hS : FitP P S) {res far : Sn × Option (List Int)} (hres : srch P (glG G) (ssF cl n) 28562 S = some res) (hfar : srch P glN (ssF cl n) 28562 S = some far) : res.2.isSome = (lookA far.1 G).isSome := by
  have hm := mF_ok cl n
  obtain ⟨ht, _, hf⟩ := srch_tree P (glG G) (lsF cl) (mF cl n) (lsF_ok cl) (by omega) S hS 28562 res hres
  obtain ⟨ht2, _, hf2⟩ := srch_tree P glN (lsF cl) (mF cl n) (lsF_ok cl) (by omega) S hS 28562 far hfar
  have hL := srch_least _ _ _ _ _ _ hres
  have hL2 := srch_least _ _ _ _ _ _ hfar
  have hnone : far.2 = none := by
    rcases h : far.2 with _ | q
    · rfl
    · have := (hf2 q h).2; simp [glN] at this
  rw [Bool.eq_iff_iff]
  constructor
  · intro h
    obtain ⟨g, hg⟩ := Option.isSome_iff_exists.1 h
    obtain ⟨h1, c, hc, _⟩ := hL.got g hg
    have hgG : g = G := of_decide_eq_true h1
    subst hgG
    obtain ⟨c2, hc2, _⟩ := (hL2.non hnone).1 _ _ (ht.rch hc)
    rw [hc2]; rfl
  · intro h
    obtain ⟨c, hc⟩ := Option.isSome_iff_exists.1 h
    rcases hr : res.2 with _ | g
    · obtain ⟨n1, n2⟩ := hL.non hr
      obtain ⟨c2, hc2, _⟩ := n1 _ _ (ht2.rch hc)
      have := n2 _ _ hc2
      simp [glG] at this
    · rfl
def sumF (F : List Int) : Int := F.getD 0 0 + F.getD 1 0 + F.getD 2 0 + F.getD 3 0
theorem sum_mid (P F : List Int) (hF : F.length = 4) (a b : Nat) (ha : a < 4) (hb : b < 4) (hab : a ≠ b) : sumF (afterF P F (a : Int) (b : Int)) = sumF F := by
  unfold sumF
  simp only [after_mid P F hF a b ha hb]
  have h1 : ∀ i, i < 4 → (if i = b then F.getD b 0 + min (F.getD a 0) (P.getD b 0 - F.getD b 0) else if i = a then F.getD a 0 - min (F.getD a 0) (P.getD b 0 - F.getD b 0) else F.getD i 0) = F.getD i 0 + (if i = b then min (F.getD a 0) (P.getD b 0 - F.getD b 0) else 0) - (if i = a then min (F.getD a 0) (P.getD b 0 - F.getD b 0) else 0) := fun i _ => by
    split
    · rename_i e; subst e; rw [if_neg (fun e => hab e.symm)]; omega
    · split
      · rename_i e; subst e; omega
      · omega
  rw [h1 0 (by omega), h1 1 (by omega), h1 2 (by omega), h1 3 (by omega)]
  generalize min (F.getD a 0) (P.getD b 0 - F.getD b 0) = m
  rcases (show a = 0 ∨ a = 1 ∨ a = 2 ∨ a = 3 by omega) with rfl | rfl | rfl | rfl <;> rcases (show b = 0 ∨ b = 1 ∨ b = 2 ∨ b = 3 by omega) with rfl | rfl | rfl | rfl <;> simp at hab ⊢ <;> omega
/-- in closed jugs the sum stays -/
theorem rch_sum {P S : List Int} {n : Nat} (hn1 : 1 ≤ n) (hn4 : n ≤ 4) (hS : FitP P S) : ∀ {k : Nat} {F : List Int}, Rch P (ssF true n) S k F → sumF F = sumF S
  | 0, F, h => by rw [Rch] at h; rw [h]
  | k + 1, G, ⟨F, (a, b), h1, h2, h3⟩ => by
    have hF := Rch.fit (lsF_ok true) (by have := mF_ok true n; omega) hS h1
    obtain ⟨a1, a2, a3⟩ := (ssF_in hn1).1 h2
    dsimp only [lsF, if_true] at a1 a2 a3 h3
    simp only [if_true] at a1 a2
    obtain ⟨a', rfl⟩ := Int.eq_ofNat_of_zero_le a1.1
    obtain ⟨b', rfl⟩ := Int.eq_ofNat_of_zero_le a2.1
    rw [h3, sum_mid P F hF.1 a' b' (by omega) (by omega) (by omega)]
    exact rch_sum hn1 hn4 hS h1
/-- from any filling the jugs can be emptied -/
theorem rch_zero {P S : List Int} {n : Nat} (hn1 : 1 ≤ n) (hn4 : n ≤ 4) (hS : FitP P S) (hz : ∀ i, n ≤ i → i < 4 → S.getD i 0 = 0) : ∀ m, m ≤ n → ∃ k F, Rch P (ssF false n) S k F ∧ F.length = 4 ∧ ∀ i, i < 4 → F.getD i 0 = if i < m then 0 else S.getD i 0
  | 0, _ => ⟨0, S, rfl, hS.1, fun i _ => by rw [if_neg (by omega)]⟩
  | m + 1, hm => by
    obtain ⟨k, F, h1, h2, h3⟩ := rch_zero hn1 hn4 hS hz m (by omega)
    refine ⟨k + 1, afterF P F (m : Int) (-1), ⟨F, ((m : Int), -1), h1, (ssF_in hn1).2 ⟨by simp [lsF]; omega, by simp [lsF]; omega, by dsimp only; omega⟩, rfl⟩, by rw [afterF_len, h2], fun i hi => ?_⟩
    rw [after_out P F h2 m (by omega)]
    by_cases h : i = m
    · rw [if_pos h, if_pos (by omega)]
    · rw [if_neg h, h3 i hi]
      by_cases h' : i < m
      · rw [if_pos h', if_pos (by omega)]
      · rw [if_neg h', if_neg (by omega)]
theorem zeros_pad (n : Nat) (hn : n ≤ 4) : padF (List.replicate n 0) = [0, 0, 0, 0] := by
  rcases (show n = 0 ∨ n = 1 ∨ n = 2 ∨ n = 3 ∨ n = 4 by omega) with rfl | rfl | rfl | rfl | rfl <;> rfl
theorem back_zero {zs gs : List Int} (hj : jugsB zs = true) (hg : fitsB zs gs = true) {rec : Sn × Option (List Int)} (hrec : srch (padF zs) glN (ssF false zs.length) 28562 (padF gs) = some rec) : (lookA rec.1 [0, 0, 0, 0]).isSome = true := by
  obtain ⟨hn1, hn4⟩ := jugsB_len hj
  obtain ⟨hfit, hl, _⟩ := fits_pad hj hg
  have hm := mF_ok false zs.length
  obtain ⟨_, _, hf2⟩ := srch_tree (padF zs) glN (lsF false) (mF false zs.length) (lsF_ok false) (by omega) _ hfit 28562 rec hrec
  have hL := srch_least _ _ _ _ _ _ hrec
  have hnone : rec.2 = none := by
    rcases h : rec.2 with _ | q
    · rfl
    · have := (hf2 q h).2; simp [glN] at this
  obtain ⟨k, F, h1, h2, h3⟩ := rch_zero hn1 hn4 hfit (fun i hi hi4 => by rw [padF_getD _ _ hi4, List.getD_eq_getElem?_getD, List.getElem?_eq_none (by omega)]; rfl) zs.length (Nat.le_refl _)
  have hF : F = [0, 0, 0, 0] := ext4 h2 rfl fun i hi => by
    rw [h3 i hi]
    have z0 : ([0, 0, 0, 0] : List Int).getD i 0 = 0 := by
      match i, hi with
      | 0, _ => rfl
      | 1, _ => rfl
      | 2, _ => rfl
      | 3, _ => rfl
    rw [z0]
    split
    · rfl
    · rw [padF_getD _ _ hi, List.getD_eq_getElem?_getD, List.getElem?_eq_none (by omega)]; rfl
  subst hF
  obtain ⟨c, hc, _⟩ := (hL.non hnone).1 _ _ h1
  rw [hc]; rfl
theorem two_keys {A : Sn} {F G : List Int} (hne : F ≠ G) (hF : (lookA A F).isSome = true) (hG : (lookA A G).isSome = true) : 2 ≤ A.length := by
  match A with
  | [] => simp [lookA] at hF
  | [p] =>
    exfalso
    have one : ∀ X, (lookA [p] X).isSome = true → p.1 = X := fun X h => by
      rw [lookA] at h
      split at h
      · assumption
      · simp [lookA] at h
    exact hne ((one F hF).symm.trans (one G hG))
  | _ :: _ :: _ => simp
/-- from empty jugs two fillings at least are reached -/
theorem reach_two {zs : List Int} (hj : jugsB zs = true) {res : Sn × Option (List Int)} (hres : srch (padF zs) glN (ssF false zs.length) 28562 [0, 0, 0, 0] = some res) (hfit : FitP (padF zs) [0, 0, 0, 0]) : 2 ≤ res.1.length := by
  obtain ⟨hn1, hn4⟩ := jugsB_len hj
  have hm := mF_ok false zs.length
  obtain ⟨_, hs, hf2⟩ := srch_tree (padF zs) glN (lsF false) (mF false zs.length) (lsF_ok false) (by omega) _ hfit 28562 res hres
  have hL := srch_least _ _ _ _ _ _ hres
  have hnone : res.2 = none := by
    rcases h : res.2 with _ | q
    · rfl
    · have := (hf2 q h).2; simp [glN] at this
  have hr : Rch (padF zs) (ssF false zs.length) [0, 0, 0, 0] 1 (afterF (padF zs) [0, 0, 0, 0] (-1) ((0 : Nat) : Int)) := ⟨_, (-1, ((0 : Nat) : Int)), rfl, (ssF_in hn1).2 ⟨by simp [lsF]; omega, by simp [lsF]; omega, by dsimp only; omega⟩, rfl⟩
  obtain ⟨c, hc, _⟩ := (hL.non hnone).1 _ _ hr
  refine two_keys (F := [0, 0, 0, 0]) (fun e => ?_) (by rw [hs]; rfl) (by rw [hc]; rfl)
  have h1 := after_in (padF zs) [0, 0, 0, 0] rfl 0 (by omega) 0
  have hp0 : (padF zs).getD 0 0 = zs[0] := by rw [padF_getD _ _ (by omega), getD_lt (by omega)]
  rw [← e, if_pos rfl, hp0] at h1
  have := jugsB_in hj (List.getElem_mem (show 0 < zs.length by omega))
  have h0 : ([0, 0, 0, 0] : List Int).getD 0 0 = 0 := rfl
  omega
end Go.Proofs.Ytlamppplnojpbaa
