import Derived.Test.YtlamppplnojpbaaLw
import Derived.Laws.AppendOwn
import Derived.ChangeKeysEq
import Derived.Maps.RangeWalk
import Derived.Maps.OwnIn
import Derived.Maps.AppendAt
import Derived.RangeFuncNested
import Derived.RangeFuncBound
import Derived.RangeFuncCalls
import Derived.RangeFuncLeaves
import Derived.Shelf.Abstract
import Derived.Shelf.RegionOpen
import Derived.WalkKit
import Derived.WalkMore
import Derived.OwnWalkIn
import Derived.TacticsInMore
import Derived.LoopNIn
import Derived.LoopIn
import Derived.WalkSpells
import Derived.WalkLawsBesides
import Derived.BigQuiet
import Derived.Deep.QuietTactic
import Derived.Lib.Hide
import Derived.Deep.RegionHeld3
import Derived.StillTailTactics
import Derived.Deep.LoopGhost
import Derived.Maps.OwnSet
import Derived.Lib.IndexAny
import Derived.Sort.QuietThIn
import Derived.Sort.QuietTacIn
import Derived.Sort.BigQuietIn
import Derived.Laws.OwnMore
namespace Go.Proofs.Ytlamppplnojpbaa
open Go.RowKit Go.Shelf
attribute [local go_sem] Oper.semAt_some
/-! the table of the reference's search: pure -/
theorem codR_congr (ss : List Int) {fs gs : List Int} : ∀ n, (∀ i, i < n → fs.getD i 0 = gs.getD i 0) → codR ss fs n = codR ss gs n
  | 0, _ => rfl
  | n + 1, h => by rw [codR, codR, codR_congr ss n (fun i hi => h i (by omega)), h n (by omega)]
def cdF (ss F : List Int) : Int := codR ss F ss.length
theorem cdF_pad {ss fs : List Int} (hs : ss.length ≤ 4) : cdF ss (padF fs) = codR ss fs ss.length :=
  codR_congr ss _ fun i hi => padF_getD fs i (by omega)
theorem fit_in {ss F : List Int} (hs : ss.length ≤ 4) (h : FitP (padF ss) F) : ∀ i, i < ss.length → 0 ≤ F.getD i 0 ∧ F.getD i 0 ≤ ss.getD i 0 := fun i hi => by
  have := h.2 i (by omega)
  rw [padF_getD _ _ (by omega)] at this
  exact ⟨this.1, this.2.1⟩
theorem jugs_in {ss : List Int} (hj : jugsB ss = true) : ∀ i, i < ss.length → 1 ≤ ss.getD i 0 ∧ ss.getD i 0 ≤ 12 := fun i hi => by
  rw [getD_lt hi]; exact jugsB_in hj (List.getElem_mem hi)
theorem cdF_inj {ss F G : List Int} (hj : jugsB ss = true) (h : FitP (padF ss) F) (h' : FitP (padF ss) G) (e : cdF ss F = cdF ss G) : F = G := by
  have hs := jugsB_len hj
  refine ext4 h.1 h'.1 fun i hi => ?_
  by_cases hl : i < ss.length
  · exact cod_inj (fun i hi => (jugs_in hj i hi).1) ss.length (Nat.le_refl _) (fit_in hs.2 h) (fit_in hs.2 h') e i hl
  · have a := h.2 i hi
    have b := h'.2 i hi
    rw [padF_getD _ _ hi] at a b
    have z : ss.getD i 0 = 0 := by rw [List.getD_eq_getElem?_getD, List.getElem?_eq_none (by omega)]; rfl
    omega
theorem cdF_bd {ss F : List Int} (hj : jugsB ss = true) (h : FitP (padF ss) F) : 0 ≤ cdF ss F ∧ cdF ss F < prodR ss ss.length ∧ prodR ss ss.length ≤ 28561 := by
  have hs := jugsB_len hj
  have hb := cod_bd (ss := ss) (fs := F) (fun i hi => ⟨jugs_in hj i hi, fit_in hs.2 h i hi⟩) ss.length (Nat.le_refl _)
  refine ⟨hb.1, hb.2.1, Int.le_trans hb.2.2 ?_⟩
  rcases (show ss.length = 1 ∨ ss.length = 2 ∨ ss.length = 3 ∨ ss.length = 4 by omega) with e | e | e | e <;> rw [e] <;> decide
def tabF (ss : List Int) (A : Sn) (c : Int) : Int := ((A.find? fun p => decide (cdF ss p.1 = c)).map fun p => p.2.k).getD (-1)
theorem tabF_cons (ss F : List Int) (c : Cm) (A : Sn) (x : Int) : tabF ss ((F, c) :: A) x = if cdF ss F = x then c.k else tabF ss A x := by
  unfold tabF
  rw [List.find?_cons]
  by_cases h : cdF ss F = x
  · simp [h]
  · simp [h]
theorem tab_look {ss F : List Int} (hj : jugsB ss = true) (hF : FitP (padF ss) F) : ∀ (A : Sn), (∀ p ∈ A, FitP (padF ss) p.1) → tabF ss A (cdF ss F) = ((lookA A F).map Cm.k).getD (-1)
  | [], _ => rfl
  | (G, c) :: r, h => by
    rw [tabF_cons, lookA]
    by_cases e : G = F
    · subst e; simp
    · rw [if_neg (fun e' => e (cdF_inj hj (h (G, c) (by simp)) hF e')), if_neg e]
      exact tab_look hj hF r fun p hp => h p (List.mem_cons_of_mem _ hp)
def tabL (ss : List Int) (A : Sn) (N : Nat) : List Int := (List.range N).map fun c : Nat => tabF ss A (c : Int)
theorem tabL_len (ss : List Int) (A : Sn) (N : Nat) : (tabL ss A N).length = N := by simp [tabL]
theorem tabL_get (ss : List Int) (A : Sn) (N : Nat) (c : Nat) (h : c < N) : (tabL ss A N).getD c 0 = tabF ss A (c : Int) := by
  rw [getD_lt (by rw [tabL_len]; exact h)]
  simp [tabL]
theorem tabL_nil (ss : List Int) (N : Nat) : tabL ss [] N = List.replicate N (-1) := by
  apply List.ext_getElem
  · simp [tabL]
  · intro i h1 h2
    simp [tabL, tabF]
theorem tabL_set {ss : List Int} (F : List Int) (c : Cm) (A : Sn) (N : Nat) (h0 : 0 ≤ cdF ss F) : (tabL ss A N).set (cdF ss F).toNat c.k = tabL ss ((F, c) :: A) N := by
  apply List.ext_getElem
  · simp [tabL]
  · intro i h1 h2
    rw [List.getElem_set]
    simp only [tabL, List.getElem_map, List.getElem_range]
    rw [tabF_cons]
    by_cases e : (cdF ss F).toNat = i
    · rw [if_pos e, if_pos (by omega)]
    · rw [if_neg e, if_neg (by omega)]
theorem visit_mono {P : List Int} {gl : List Int → Bool} {here : List Int} {cnt : Int} : ∀ (xs : List (Int × Int)) (s t : Sn × List (List Int)) (o : Option (List Int)), visit P gl here cnt xs s = (t, o) → s.1.length ≤ t.1.length
  | [], s, t, o, h => by rw [visit] at h; cases h; exact Nat.le_refl _
  | x :: xs, s, t, o, h => by
    rw [visit] at h
    split at h
    · exact visit_mono xs s t o h
    · split at h
      · cases h; simp
      · have := visit_mono xs _ t o h; simp only [List.length_cons] at this; omega
theorem bfs_long (P : List Int) (gl : List Int → Bool) (ss : List (Int × Int)) : ∀ (M : Nat) (A : Sn) (qs : List (List Int)) (res : Sn × Option (List Int)), bfs P gl ss M A qs = some res → A.length ≤ res.1.length
  | 0, _, _, _, h => by simp [bfs] at h
  | M + 1, A, [], res, h => by simp only [bfs, Option.some.injEq] at h; subst h; exact Nat.le_refl _
  | M + 1, A, q :: qs, res, h => by
    rw [bfs] at h
    split at h
    · rename_i A' qs' g hv
      cases h
      exact visit_mono _ _ _ _ hv
    · rename_i A' qs' hv
      exact Nat.le_trans (visit_mono _ _ _ _ hv) (bfs_long P gl ss M A' qs' res h)
theorem visit_glN {P : List Int} {here : List Int} {cnt : Int} : ∀ (xs : List (Int × Int)) (s : Sn × List (List Int)), (visit P glN here cnt xs s).2 = none
  | [], _ => rfl
  | x :: xs, s => by
    rw [visit]
    split
    · exact visit_glN xs s
    · rw [if_neg (by simp [glN])]
      exact visit_glN xs _
/-- what the reference's loop holds: the fillings in their order, the search's state -/
structure SrR (ss : List Int) (st : List (Int × Int)) (res : Sn × Option (List Int)) (i : Nat) (A : Sn) (L : List (List Int)) : Prop where
  run : ∃ M, bfs (padF ss) glN st M A ((L.drop i).map padF) = some res
  keys : A.map Prod.fst = (L.map padF).reverse
  fits : ∀ f ∈ L, fitsB ss f = true
theorem SrR.len {ss : List Int} {st : List (Int × Int)} {res : Sn × Option (List Int)} {i : Nat} {A : Sn} {L : List (List Int)} (h : SrR ss st res i A L) : L.length ≤ res.1.length := by
  obtain ⟨M, hM⟩ := h.run
  have h1 := bfs_long _ _ _ _ _ _ _ hM
  have h2 := congrArg List.length h.keys
  simp at h2
  omega
theorem SrR.done {ss : List Int} {st : List (Int × Int)} {res : Sn × Option (List Int)} {A : Sn} {L : List (List Int)} (h : SrR ss st res L.length A L) : res = (A, none) := by
  obtain ⟨M, hM⟩ := h.run
  rw [List.drop_length] at hM
  cases M with
  | zero => simp [bfs] at hM
  | succ M => simp only [List.map_nil, bfs, Option.some.injEq] at hM; exact hM.symm
theorem SrR.fitp {ss : List Int} {st : List (Int × Int)} {res : Sn × Option (List Int)} {i : Nat} {A : Sn} {L : List (List Int)} (hj : jugsB ss = true) (h : SrR ss st res i A L) : ∀ p ∈ A, FitP (padF ss) p.1 := fun p hp => by
  have : p.1 ∈ (L.map padF).reverse := by rw [← h.keys]; exact List.mem_map_of_mem hp
  rw [List.mem_reverse, List.mem_map] at this
  obtain ⟨f, hf, e⟩ := this
  rw [← e]
  exact (fits_pad hj (h.fits f hf)).1
/-- and its inner loop: k steps are done -/
structure SrI (ss : List Int) (st ys : List (Int × Int)) (res : Sn × Option (List Int)) (i : Nat) (fs : List Int) (cnt : Int) (k : Nat) (A : Sn) (L : List (List Int)) : Prop where
  run : ∃ M A0 q0, bfs (padF ss) glN st (M + 1) A0 (padF fs :: q0) = some res ∧ visit (padF ss) glN (padF fs) cnt (ys.take k) (A0, q0) = ((A, (L.drop (i + 1)).map padF), none) ∧ cnt = kOf A0 (padF fs) + 1 ∧ (lookA A0 (padF fs)).isSome = true
  cnt : kOf A (padF fs) + 1 = cnt
  known : (lookA A (padF fs)).isSome = true
  keys : A.map Prod.fst = (L.map padF).reverse
  fits : ∀ f ∈ L, fitsB ss f = true
  at_ : L[i]? = some fs
theorem look_mem {A : Sn} {F : List Int} (h : F ∈ A.map Prod.fst) : (lookA A F).isSome = true := lookA_key A F h
theorem SrR.enter {ss : List Int} {st ys : List (Int × Int)} {res : Sn × Option (List Int)} {i : Nat} {A : Sn} {L : List (List Int)} (h : SrR ss st res i A L) (hi : i < L.length) : SrI ss st ys res i L[i] (kOf A (padF L[i]) + 1) 0 A L := by
  obtain ⟨M, hM⟩ := h.run
  rw [List.drop_eq_getElem_cons hi, List.map_cons] at hM
  have hk : (lookA A (padF L[i])).isSome = true := look_mem (by rw [h.keys, List.mem_reverse]; exact List.mem_map_of_mem (List.getElem_mem hi))
  cases M with
  | zero => simp [bfs] at hM
  | succ M => exact ⟨⟨M, A, _, hM, by rw [List.take_zero, visit], rfl, hk⟩, rfl, hk, h.keys, h.fits, by rw [List.getElem?_eq_getElem hi]⟩
theorem SrI.leave {ss : List Int} {st ys : List (Int × Int)} {res : Sn × Option (List Int)} {i : Nat} {fs : List Int} {cnt : Int} {A : Sn} {L : List (List Int)} (hys : ys = stepsF (padF ss) (padF fs) st) (h : SrI ss st ys res i fs cnt ys.length A L) : SrR ss st res (i + 1) A L := by
  obtain ⟨M, A0, q0, h1, h2, h3, h4⟩ := h.run
  rw [List.take_length, hys, visit_filter st (A0, q0) h4, h3] at h2
  refine ⟨⟨M, ?_⟩, h.keys, h.fits⟩
  rw [bfs] at h1
  unfold kOf at h2
  rw [h2] at h1
  exact h1
theorem SrI.same {ss : List Int} {st ys : List (Int × Int)} {res : Sn × Option (List Int)} {i : Nat} {fs : List Int} {cnt : Int} {k : Nat} {A : Sn} {L : List (List Int)} (h : SrI ss st ys res i fs cnt k A L) (hk : k < ys.length)
    (hkn : (lookA A (afterF (padF ss) (padF fs) ys[k].1 ys[k].2)).isSome = true) : SrI ss st ys res i fs cnt (k + 1) A L := by
  obtain ⟨M, A0, q0, h1, h2, h3, h4⟩ := h.run
  refine ⟨⟨M, A0, q0, h1, ?_, h3, h4⟩, h.cnt, h.known, h.keys, h.fits, h.at_⟩
  rw [List.take_succ_eq_append_getElem hk]
  exact visit_known h2 hkn
theorem SrI.new {ss : List Int} {st ys : List (Int × Int)} {res : Sn × Option (List Int)} {i : Nat} {fs : List Int} {cnt : Int} {k : Nat} {A : Sn} {L : List (List Int)} (h : SrI ss st ys res i fs cnt k A L) (hk : k < ys.length)
    (hkn : (lookA A (afterF (padF ss) (padF fs) ys[k].1 ys[k].2)).isSome = false) (g : List Int) (hg : padF g = afterF (padF ss) (padF fs) ys[k].1 ys[k].2) (hgf : fitsB ss g = true) :
    SrI ss st ys res i fs cnt (k + 1) ((padF g, ⟨padF fs, ys[k].1, ys[k].2, cnt⟩) :: A) (L ++ [g]) := by
  obtain ⟨M, A0, q0, h1, h2, h3, h4⟩ := h.run
  have hil : i < L.length := by
    rcases Nat.lt_or_ge i L.length with h' | h'
    · exact h'
    · have := h.at_; rw [List.getElem?_eq_none h'] at this; cases this
  have hne : padF g ≠ padF fs := fun e => by
    rw [← hg, e, h.known] at hkn; cases hkn
  refine ⟨⟨M, A0, q0, h1, ?_, h3, h4⟩, ?_, ?_, ?_, ?_, ?_⟩
  · rw [List.take_succ_eq_append_getElem hk, List.drop_append_of_le_length (by omega), List.map_append, List.map_cons, List.map_nil, hg]
    exact visit_new h2 hkn rfl
  · have hc := h.cnt
    unfold kOf at hc ⊢
    rw [lookA, if_neg hne]
    exact hc
  · rw [lookA, if_neg hne]; exact h.known
  · rw [List.map_cons, h.keys, List.map_append, List.reverse_append]; rfl
  · intro f hf
    rcases List.mem_append.1 hf with hf | hf
    · exact h.fits f hf
    · rw [List.mem_singleton.1 hf]; exact hgf
  · rw [List.getElem?_append_left hil]; exact h.at_
theorem SrI.len {ss : List Int} {st ys : List (Int × Int)} {res : Sn × Option (List Int)} {i : Nat} {fs : List Int} {cnt : Int} {k : Nat} {A : Sn} {L : List (List Int)} (hys : ys = stepsF (padF ss) (padF fs) st) (h : SrI ss st ys res i fs cnt k A L) : L.length ≤ res.1.length := by
  obtain ⟨M, A0, q0, h1, h2, h3, h4⟩ := h.run
  obtain ⟨t, ht⟩ : ∃ t, visit (padF ss) glN (padF fs) cnt ys (A0, q0) = (t, none) := ⟨_, Prod.ext rfl (visit_glN ys _)⟩
  have hv := visit_go (ys.take k) (ys.drop k) _ _ h2
  rw [List.take_append_drop, ht] at hv
  have hm := visit_mono _ _ _ _ hv.symm
  rw [hys, visit_filter st (A0, q0) h4, h3] at ht
  rw [bfs] at h1
  unfold kOf at ht
  rw [ht] at h1
  have := bfs_long _ _ _ _ _ _ _ h1
  have h2 := congrArg List.length h.keys
  simp at h2
  simp only at hm
  omega
theorem SrR.start {ss fs : List Int} {st : List (Int × Int)} {res : Sn × Option (List Int)} (h : srch (padF ss) glN st 28562 (padF fs) = some res) (hf : fitsB ss fs = true) : SrR ss st res 0 [(padF fs, c0)] [fs] := by
  refine ⟨⟨28562, ?_⟩, rfl, fun f hf' => by rw [List.mem_singleton.1 hf']; exact hf⟩
  unfold srch at h
  rw [if_neg (by simp [glN])] at h
  exact h
end Go.Proofs.Ytlamppplnojpbaa
