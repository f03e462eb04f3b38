import Derived.Test.YtlamppplnojpbaaLs
import Derived.Test.YtlamppplnojpbaaLn
import Derived.Laws.AppendOwn
import Derived.ChangeKeysEq
import Derived.Maps.RangeWalk
import Derived.Maps.OwnIn
import Derived.Maps.AppendAt
import Derived.RangeFuncNested
import Derived.RangeFuncBound
import Derived.RangeFuncCalls
import Derived.RangeFuncLeaves
import Derived.Shelf.Abstract
import Derived.Shelf.RegionOpen
import Derived.WalkKit
import Derived.WalkMore
import Derived.OwnWalkIn
import Derived.TacticsInMore
import Derived.LoopNIn
import Derived.LoopIn
import Derived.WalkSpells
import Derived.WalkLawsBesides
import Derived.BigQuiet
import Derived.Deep.QuietTactic
import Derived.Lib.Hide
import Derived.Deep.RegionHeld3
import Derived.StillTailTactics
import Derived.Deep.LoopGhost
import Derived.Maps.OwnSet
import Derived.Lib.IndexAny
import Derived.Sort.QuietThIn
import Derived.Sort.QuietTacIn
import Derived.Sort.BigQuietIn
import Derived.Laws.OwnMore
namespace Go.Proofs.Ytlamppplnojpbaa
open Go.RowKit Go.Shelf
attribute [local go_sem] Oper.semAt_some
/-! the way that a search finds -/
theorem TreeA.zero {P : List Int} {ss : List (Int × Int)} {S : List Int} : ∀ {A : Sn}, TreeA P ss S A → ∀ {F c}, lookA A F = some c → c.k = 0 → F = S
  | [], _, _, _, h, _ => by simp [lookA] at h
  | p :: r, ht, F, c, h, hk => by
    obtain ⟨h1, h2, h3, h4, h5⟩ := ht
    rw [lookA] at h
    by_cases e : p.1 = F
    · rw [if_pos e] at h; cases h; subst e
      rcases h5 with ⟨h6, _⟩ | ⟨c', h6, h7, _⟩
      · exact h6
      · have := (TreeA.knn h1 h6).1
        omega
    · rw [if_neg e] at h; exact TreeA.zero h1 h hk
theorem trc_goes {P : List Int} {ss : List (Int × Int)} {S : List Int} {A : Sn} (ht : TreeA P ss S A) : ∀ (n : Nat) {F c}, lookA A F = some c → c.k = (n : Int) → goF P S (trc n A c).reverse = F ∧ ∀ x ∈ trc n A c, x ∈ ss
  | 0, F, c, h, hk => by
    refine ⟨?_, fun x hx => by cases hx⟩
    rw [trc, List.reverse_nil, goF]
    exact (ht.zero h (by simpa using hk)).symm
  | n + 1, F, c, h, hk => by
    obtain ⟨c', h1, h2, h3, h4⟩ := ht.par h (by rw [hk]; omega)
    have hcm : cmOf A c.frm = c' := by unfold cmOf; rw [h1]; rfl
    obtain ⟨g1, g2⟩ := trc_goes ht n h1 (by omega)
    rw [trc, hcm, List.reverse_cons, goF_snoc, g1]
    refine ⟨h3.symm, fun x hx => ?_⟩
    rcases List.mem_cons.1 hx with rfl | hx
    · exact h4
    · exact g2 x hx
/-- what is known of a way that is found: it leads there, and no way is shorter -/
structure WayG (P S G : List Int) (ss : List (Int × Int)) (w : List Pt) : Prop where
  goes : goF P S w = G
  steps : ∀ x ∈ w, x ∈ ss
  least : ∀ n, Rch P ss S n G → w.length ≤ n
theorem way_good {P S G : List Int} {cl : Bool} {n : Nat} (hn4 : n ≤ 4) (hS : FitP P S) {res : Sn × Option (List Int)} (hres : srch P (glG G) (ssF cl n) 28562 S = some res) (hok : res.2.isSome = true) : WayG P S G (ssF cl n) (wayF res) := by
  have hm := mF_ok cl n
  obtain ⟨ht, _, hf⟩ := srch_tree P (glG G) (lsF cl) (mF cl n) (lsF_ok cl) (by omega) S hS 28562 res hres
  have hL := srch_least _ _ _ _ _ _ hres
  obtain ⟨g, hg⟩ := Option.isSome_iff_exists.1 hok
  obtain ⟨h1, c, hc, hmin⟩ := hL.got g hg
  have hgG : g = G := of_decide_eq_true h1
  subst hgG
  have k0 := (ht.knn hc).1
  have hcm : cmOf res.1 g = c := by unfold cmOf; rw [hc]; rfl
  have hw : wayF res = (trc c.k.toNat res.1 c).reverse := by unfold wayF; rw [hg]; dsimp only; rw [hcm]
  obtain ⟨g1, g2⟩ := trc_goes ht c.k.toNat hc (by omega)
  rw [hw]
  refine ⟨g1, fun x hx => g2 x (List.mem_reverse.1 hx), fun n hr => ?_⟩
  have := hmin n g hr h1
  rw [List.length_reverse, trc_len]; omega
/-- a way is found to what is reached -/
theorem way_found {P S G : List Int} {cl : Bool} {n : Nat} (hn4 : n ≤ 4) (hS : FitP P S) {res : Sn × Option (List Int)} (hres : srch P (glG G) (ssF cl n) 28562 S = some res) {k : Nat} (hr : Rch P (ssF cl n) S k G) : res.2.isSome = true ∧ (wayF res).length ≤ k := by
  have hm := mF_ok cl n
  have hL := srch_least _ _ _ _ _ _ hres
  have hok : res.2.isSome = true := by
    rcases h : res.2 with _ | g
    · obtain ⟨n1, n2⟩ := hL.non h
      obtain ⟨c, hc, _⟩ := n1 _ _ hr
      have := n2 _ _ hc
      simp [glG] at this
    · rfl
  exact ⟨hok, (way_good hn4 hS hres hok).least k hr⟩
/-- the way without its last step -/
theorem way_before {P S G : List Int} {ss : List (Int × Int)} {w : List Pt} (h : WayG P S G ss w) (hl : 0 < w.length) : Rch P ss S (w.length - 1) (goF P S (w.take (w.length - 1))) ∧ ∀ n, Rch P ss S n (goF P S (w.take (w.length - 1))) → w.length - 1 ≤ n := by
  have h0 : Rch P ss S 0 S := rfl
  have hsp : w = w.take (w.length - 1) ++ [w[w.length - 1]] := by
    have := List.take_succ_eq_append_getElem (l := w) (i := w.length - 1) (by omega)
    rw [show w.length - 1 + 1 = w.length by omega, List.take_length] at this
    exact this
  refine ⟨?_, fun n hr => ?_⟩
  · have := rch_go h0 (w.take (w.length - 1)) (fun x hx => h.steps x (List.mem_of_mem_take hx))
    rw [Nat.zero_add, List.length_take, Nat.min_eq_left (by omega)] at this
    exact this
  · have hG : G = afterF P (goF P S (w.take (w.length - 1))) w[w.length - 1].1 w[w.length - 1].2 := by
      rw [← goF_snoc, ← hsp]; exact h.goes.symm
    have := h.least (n + 1) ⟨_, w[w.length - 1], hr, h.steps _ (List.getElem_mem (by omega)), hG⟩
    omega
end Go.Proofs.Ytlamppplnojpbaa
