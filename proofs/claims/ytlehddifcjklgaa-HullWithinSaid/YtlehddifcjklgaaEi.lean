import Derived.Test.YtlehddifcjklgaaEh
import Derived.Maps.OwnIn
import Derived.Maps.OwnSet
import Derived.Maps.AppendAt
import Derived.RangeFuncNested
import Derived.RangeFuncBound
import Derived.RangeFuncCalls
import Derived.RangeFuncLeaves
import Derived.Shelf.Abstract
import Derived.Shelf.RegionOpen
import Derived.WalkKit
import Derived.OwnWalkIn
import Derived.TacticsInMore
import Derived.LoopNIn
import Derived.LoopIn
import Derived.WalkMore
import Derived.Sort.QuietThIn
import Derived.Sort.QuietTacIn
import Derived.Sort.BigQuietIn
import Derived.WalkSpells
import Derived.WalkLawsBesides
import Derived.BigQuiet
import Derived.Deep.QuietTactic
import Derived.Lib.Hide
import Derived.Deep.RegionHeld3
import Derived.StillTailTactics
import Derived.Deep.LoopGhost
import Derived.Lib.IndexAny
namespace Go.Proofs.Ytlehddifcjklgaa
open Go.RowKit Go.Shelf
attribute [local go_sem] Oper.semAt_some
/-! sorted points without doubles -/
def addR (st : List Pt) (x : Pt) : List Pt := if st.head? = some x then st else x :: st
/-- doubles side by side laid together -/
def dd (ps : List Pt) : List Pt := (ps.foldl addR []).reverse
theorem addR_len (st : List Pt) (x : Pt) : (addR st x).length ≤ st.length + 1 := by unfold addR; split <;> simp
theorem foldl_addR_len : ∀ (ps st : List Pt), (ps.foldl addR st).length ≤ st.length + ps.length
  | [], st => by simp
  | p :: ps, st => by
    have h1 := foldl_addR_len ps (addR st p)
    have h2 := addR_len st p
    simp only [List.foldl_cons, List.length_cons]; omega
theorem dd_len (ps : List Pt) : (dd ps).length ≤ ps.length := by
  unfold dd; rw [List.length_reverse]; have := foldl_addR_len ps []; simpa using this
/-- no two doubles side by side in the first k: nothing is laid together -/
theorem dd_take_ne : ∀ (ps : List Pt) (k : Nat), k ≤ ps.length → (∀ i, 0 < i → i < k → ptAt ps i ≠ ptAt ps (i - 1)) → dd (ps.take k) = ps.take k
  | ps, 0, _, _ => by simp [dd]
  | ps, k + 1, hk, h => by
    have ih := dd_take_ne ps k (by omega) (fun i h1 h2 => h i h1 (by omega))
    have e : ps.take (k + 1) = ps.take k ++ [ps[k]] := (List.take_append_getElem (by omega)).symm
    rw [e]
    unfold dd at ih ⊢
    rw [List.foldl_append]
    have e2 : (ps.take k).foldl addR [] = (ps.take k).reverse := by rw [← ih, List.reverse_reverse, ih]
    rw [e2]
    simp only [List.foldl_cons, List.foldl_nil]
    unfold addR
    have hh : ¬ (ps.take k).reverse.head? = some ps[k] := by
      rw [List.head?_reverse]
      rcases Nat.eq_zero_or_pos k with h0 | h0
      · subst h0; simp
      · intro e
        have e3 : (ps.take k).getLast? = some (ps[k - 1]'(by omega)) := by
          rw [List.getLast?_eq_getElem?, List.length_take, Nat.min_eq_left (by omega), List.getElem?_take, if_pos (by omega), List.getElem?_eq_getElem]
        rw [e3] at e
        have := h k h0 (by omega)
        rw [ptAt_lt (show k < ps.length by omega), ptAt_lt (show k - 1 < ps.length by omega)] at this
        exact this (Option.some.inj e).symm
    rw [if_neg hh]; simp
theorem half_bef {a b : Pt} : Half (0, -1) (mn b a) ↔ befB a b = true := by
  obtain ⟨a1, a2⟩ := a
  obtain ⟨b1, b2⟩ := b
  unfold Half crs dt mn befB
  simp only [Bool.or_eq_true, Bool.and_eq_true, decide_eq_true_eq]
  omega
structure DdI (T st : List Pt) : Prop where
  mem : ∀ q, q ∈ st ↔ q ∈ T
  o : st.Pairwise (fun p q => befB q p = true)
  hd : st.head? = T.getLast?
theorem bef_eq {a b : Pt} (h1 : befB a b = false) (h2 : befB b a = false) : a = b := by
  obtain ⟨a1, a2⟩ := a
  obtain ⟨b1, b2⟩ := b
  unfold befB at *
  simp only [Bool.or_eq_false_iff, Bool.and_eq_false_iff, decide_eq_false_iff_not] at *
  exact Prod.ext (by dsimp only; omega) (by dsimp only; omega)
theorem DdI.step {T st : List Pt} {p : Pt} (h : DdI T st) (hp : ∀ q ∈ T, befB p q = false) (ho : ∀ l, T.getLast? = some l → ∀ q ∈ T, befB l q = false) : DdI (T ++ [p]) (addR st p) := by
  unfold addR
  by_cases hh : st.head? = some p
  · rw [if_pos hh]
    have hpT : p ∈ T := by rw [h.hd] at hh; exact List.mem_of_getLast? hh
    refine ⟨fun q => ?_, h.o, by rw [hh]; simp⟩
    rw [List.mem_append, List.mem_singleton, h.mem]
    exact ⟨fun k => .inl k, fun k => k.elim id (fun e => e ▸ hpT)⟩
  · rw [if_neg hh]
    refine ⟨fun q => ?_, List.pairwise_cons.2 ⟨fun q hq => ?_, h.o⟩, by simp⟩
    · rw [List.mem_append, List.mem_singleton, List.mem_cons, h.mem]
      exact ⟨fun k => k.elim (fun e => .inr e) (fun e => .inl e), fun k => k.elim (fun e => .inr e) (fun e => .inl e)⟩
    · have hqT := (h.mem q).1 hq
      cases hb : befB q p with
      | true => rfl
      | false =>
        exfalso
        have hqp : q = p := bef_eq hb (hp q hqT)
        subst hqp
        cases st with
        | nil => simp at hq
        | cons l r =>
          have hl : T.getLast? = some l := by rw [← h.hd]; rfl
          have h1 := ho l hl q hqT
          have h2 := hp l (List.mem_of_getLast? hl)
          exact hh (by rw [bef_eq h1 h2]; rfl)
theorem ddI_fold : ∀ (ps T st : List Pt), DdI T st → (T ++ ps).Pairwise (fun q p => befB p q = false) → DdI (T ++ ps) (ps.foldl addR st)
  | [], T, st, h, _ => by simpa using h
  | p :: ps, T, st, h, ho => by
    have e : T ++ p :: ps = T ++ [p] ++ ps := by simp
    rw [e] at ho ⊢
    have hT := (List.pairwise_append.1 ho).1
    refine ddI_fold ps (T ++ [p]) (addR st p) (h.step (fun q hq => (List.pairwise_append.1 hT).2.2 q hq p (by simp)) (fun l hl q hq => ?_)) ho
    obtain ⟨w, hw⟩ := List.getLast?_eq_some_iff.1 hl
    have h3 := (List.pairwise_append.1 hT).1
    rw [hw] at h3 hq
    rcases List.mem_append.1 hq with hq | hq
    · exact (List.pairwise_append.1 h3).2.2 q hq l (by simp)
    · rw [List.mem_singleton.1 hq]
      unfold befB; simp
theorem srt_pair {L : List Pt} (h : SrtU L L.length) : L.Pairwise (fun q p => befB p q = false) := by
  refine List.pairwise_iff_getElem.2 fun i j hi hj hij => ?_
  have := h i j hij hj
  rw [ptAt_lt hi, ptAt_lt hj] at this
  exact this
theorem dd_sorted {L : List Pt} (h : SrtU L L.length) : Ahead (0, -1) (dd L) ∧ ∀ q, q ∈ dd L ↔ q ∈ L := by
  have h0 : DdI [] [] := ⟨fun q => Iff.rfl, List.Pairwise.nil, rfl⟩
  have := ddI_fold L [] [] h0 (by simpa using srt_pair h)
  rw [List.nil_append] at this
  refine ⟨?_, fun q => by unfold dd; rw [List.mem_reverse]; exact this.mem q⟩
  unfold Ahead dd
  exact List.pairwise_reverse.2 (this.o.imp (fun k => half_bef.2 k))
theorem Cyc.of_mem {S T os : List Pt} (h : ∀ q, q ∈ S ↔ q ∈ T) (hc : Cyc S os) : Cyc T os := by
  refine ⟨hc.nodup, fun x hx => ?_, fun i hi => ?_⟩
  · obtain ⟨k1, d, k2⟩ := hc.mem x hx
    exact ⟨(h x).1 k1, d, fun p hp => k2 p ((h p).2 hp)⟩
  · obtain ⟨b1, b2, b3⟩ := hc.next i hi
    exact ⟨(h _).1 b1, b2, fun p hp => b3 p ((h p).2 hp)⟩
/-- the program's hull goes round, and begins with the least point -/
theorem arnd_any {ps L : List Pt} (hp : L.Perm ps) (hs : SrtU L L.length) (h2 : 2 ≤ (dd L).length) : Cyc ps (arnd (dd L)) ∧ ∃ f, (arnd (dd L)).head? = some f ∧ f ∈ ps ∧ ∀ q ∈ ps, befB q f = false := by
  obtain ⟨h, hm⟩ := dd_sorted hs
  generalize dd L = D at *
  have hmem : ∀ q, q ∈ D ↔ q ∈ ps := fun q => (hm q).trans hp.mem_iff
  match D, h, h2, hmem with
  | f :: g :: r, h, _, hmem =>
    obtain ⟨c1, c2⟩ := arnd_cyc h
    refine ⟨c1.of_mem hmem, f, c2, (hmem f).1 (by simp), fun q hq => ?_⟩
    have hq := (hmem q).2 hq
    rcases List.mem_cons.1 hq with e | hq
    · rw [e]; unfold befB; simp
    · exact befB_asym (half_bef.1 ((List.pairwise_cons.1 h).1 q hq))
end Go.Proofs.Ytlehddifcjklgaa
