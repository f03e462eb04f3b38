import Derived.Test.YtlehddifcjklgaaEa
import Derived.Maps.OwnIn
import Derived.Maps.OwnSet
import Derived.Maps.AppendAt
import Derived.RangeFuncNested
import Derived.RangeFuncBound
import Derived.RangeFuncCalls
import Derived.RangeFuncLeaves
import Derived.Shelf.Abstract
import Derived.Shelf.RegionOpen
import Derived.WalkKit
import Derived.OwnWalkIn
import Derived.TacticsInMore
import Derived.LoopNIn
import Derived.LoopIn
import Derived.WalkMore
import Derived.Sort.QuietThIn
import Derived.Sort.QuietTacIn
import Derived.Sort.BigQuietIn
import Derived.WalkSpells
import Derived.WalkLawsBesides
import Derived.BigQuiet
import Derived.Deep.QuietTactic
import Derived.Lib.Hide
import Derived.Deep.RegionHeld3
import Derived.StillTailTactics
import Derived.Deep.LoopGhost
import Derived.Lib.IndexAny
namespace Go.Proofs.Ytlehddifcjklgaa
open Go.RowKit Go.Shelf
attribute [local go_sem] Oper.semAt_some
/-! insertion: what the two loops keep -/
theorem leB_trans {a b c : Pt} (h1 : befB b a = false) (h2 : befB c b = false) : befB c a = false := by
  obtain ⟨a1, a2⟩ := a
  obtain ⟨b1, b2⟩ := b
  obtain ⟨c1, c2⟩ := c
  unfold befB at *
  simp only [Bool.or_eq_false_iff, Bool.and_eq_false_iff, decide_eq_false_iff_not] at *
  omega
theorem befB_asym {a b : Pt} (h : befB a b = true) : befB b a = false := by
  obtain ⟨a1, a2⟩ := a
  obtain ⟨b1, b2⟩ := b
  unfold befB at *
  simp only [Bool.or_eq_true, Bool.and_eq_true, decide_eq_true_eq] at h
  simp only [Bool.or_eq_false_iff, Bool.and_eq_false_iff, decide_eq_false_iff_not]
  omega
def swp (L : List Pt) (j : Nat) : List Pt := (L.set j (ptAt L (j - 1))).set (j - 1) (ptAt L j)
theorem swp_len (L : List Pt) (j : Nat) : (swp L j).length = L.length := by unfold swp; rw [List.length_set, List.length_set]
theorem swp_perm {L : List Pt} {j : Nat} (hj : j < L.length) : (swp L j).Perm L := by
  unfold swp
  rw [ptAt_lt (show j - 1 < L.length by omega), ptAt_lt hj]
  exact List.set_set_perm hj (by omega)
theorem swp_at {L : List Pt} {j : Nat} (hj : j < L.length) (h0 : 0 < j) (k : Nat) : ptAt (swp L j) k = if k = j - 1 then ptAt L j else if k = j then ptAt L (j - 1) else ptAt L k := by
  unfold swp
  show ((L.set j (ptAt L (j - 1))).set (j - 1) (ptAt L j)).getD k (0, 0) = _
  rw [List.getD_eq_getElem?_getD]
  by_cases h1 : k = j - 1
  · subst h1; rw [List.getElem?_set_self (by rw [List.length_set]; omega), if_pos rfl]; rfl
  · rw [List.getElem?_set_ne (fun e => h1 e.symm), if_neg h1]
    by_cases h2 : k = j
    · subst h2; rw [List.getElem?_set_self hj, if_pos rfl]; rfl
    · rw [List.getElem?_set_ne (fun e => h2 e.symm), if_neg h2]
      unfold ptAt; rw [List.getD_eq_getElem?_getD]
structure Srt (ps L : List Pt) (i j : Nat) : Prop where
  perm : L.Perm ps
  o : ∀ a b, a < b → b ≤ i → a ≠ j → b ≠ j → befB (ptAt L b) (ptAt L a) = false
  u : ∀ b, j < b → b ≤ i → befB (ptAt L j) (ptAt L b) = true
/-- sorted up to i -/
def SrtU (L : List Pt) (i : Nat) : Prop := ∀ a b, a < b → b < i → befB (ptAt L b) (ptAt L a) = false
theorem Srt.start {ps L : List Pt} {i : Nat} (hp : L.Perm ps) (h : SrtU L i) : Srt ps L i i :=
  ⟨hp, fun a b h1 h2 _ h4 => h a b h1 (by omega), fun b h1 h2 => by omega⟩
theorem Srt.step {ps L : List Pt} {i j : Nat} (h : Srt ps L i j) (hj : j < L.length) (h0 : 0 < j) (_hji : j ≤ i) (hb : befB (ptAt L j) (ptAt L (j - 1)) = true) : Srt ps (swp L j) i (j - 1) := by
  refine ⟨(swp_perm hj).trans h.perm, fun a b h1 h2 h3 h4 => ?_, fun b h1 h2 => ?_⟩
  · rw [swp_at hj h0, swp_at hj h0, if_neg h4, if_neg h3]
    by_cases hbj : b = j
    · rw [if_pos hbj, if_neg (by omega)]; exact h.o a (j - 1) (by omega) (by omega) (by omega) (by omega)
    · rw [if_neg hbj]
      by_cases haj : a = j
      · rw [if_pos haj]; exact h.o (j - 1) b (by omega) h2 (by omega) hbj
      · rw [if_neg haj]; exact h.o a b h1 h2 haj hbj
  · rw [swp_at hj h0, swp_at hj h0, if_pos rfl, if_neg (by omega)]
    by_cases hbj : b = j
    · rw [if_pos hbj]; exact hb
    · rw [if_neg hbj]; exact h.u b (by omega) h2
theorem Srt.stop {ps L : List Pt} {i j : Nat} (h : Srt ps L i j) (hji : j ≤ i) (hb : j = 0 ∨ befB (ptAt L j) (ptAt L (j - 1)) = false) : SrtU L (i + 1) := by
  intro a b h1 h2
  by_cases haj : a = j
  · subst haj; exact befB_asym (h.u b h1 (by omega))
  · by_cases hbj : b = j
    · subst hbj
      rcases hb with h0 | hb
      · omega
      · by_cases ha : a = b - 1
        · subst ha; exact hb
        · exact leB_trans (h.o a (b - 1) (by omega) (by omega) haj (by omega)) hb
    · exact h.o a b h1 (by omega) haj hbj
end Go.Proofs.Ytlehddifcjklgaa
