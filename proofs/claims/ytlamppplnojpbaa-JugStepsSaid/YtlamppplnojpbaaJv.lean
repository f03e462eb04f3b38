import Derived.Test.YtlamppplnojpbaaJu
import Derived.Laws.AppendOwn
import Derived.ChangeKeysEq
import Derived.Maps.OwnIn
import Derived.Maps.AppendAt
import Derived.RangeFuncNested
import Derived.RangeFuncBound
import Derived.RangeFuncCalls
import Derived.RangeFuncLeaves
import Derived.Shelf.Abstract
import Derived.Shelf.RegionOpen
import Derived.WalkKit
import Derived.WalkMore
import Derived.OwnWalkIn
import Derived.TacticsInMore
import Derived.LoopNIn
import Derived.LoopIn
import Derived.WalkSpells
import Derived.WalkLawsBesides
import Derived.BigQuiet
import Derived.Deep.QuietTactic
import Derived.Lib.Hide
import Derived.Deep.RegionHeld3
import Derived.StillTailTactics
import Derived.Deep.LoopGhost
import Derived.Maps.OwnSet
import Derived.Lib.IndexAny
import Derived.Sort.QuietThIn
import Derived.Sort.QuietTacIn
import Derived.Sort.BigQuietIn
namespace Go.Proofs.Ytlamppplnojpbaa
open Go.RowKit Go.Shelf
attribute [local go_sem] Oper.semAt_some
/-! what the search's map says -/
theorem lookA_key : ∀ (A : Sn) (F : List Int), F ∈ A.map Prod.fst → (lookA A F).isSome = true
  | [], _, h => by simp at h
  | p :: r, F, h => by
    rw [lookA]
    by_cases e : p.1 = F
    · rw [if_pos e]; rfl
    · rw [if_neg e]
      rw [List.map_cons, List.mem_cons] at h
      rcases h with h | h
      · exact absurd h.symm e
      · exact lookA_key r F h
/-- how the fillings of a search were come to -/
def TreeA (P : List Int) (ss : List (Int × Int)) (S : List Int) : Sn → Prop
  | [] => True
  | p :: r => TreeA P ss S r ∧ (lookA r p.1).isSome = false ∧ FitP P p.1 ∧ p.2.frm.length = 4 ∧
      ((p.1 = S ∧ p.2 = c0 ∧ r = []) ∨ ∃ c', lookA r p.2.frm = some c' ∧ p.2.k = c'.k + 1 ∧ p.1 = afterF P p.2.frm p.2.sa p.2.sb ∧ (p.2.sa, p.2.sb) ∈ ss)
theorem lookA_older {r : Sn} {p : List Int × Cm} {F : List Int} {c : Cm} (hn : (lookA r p.1).isSome = false) (h : lookA r F = some c) : lookA (p :: r) F = some c := by
  rw [lookA, if_neg (fun e => by subst e; rw [h] at hn; cases hn)]; exact h
theorem TreeA.fit {P : List Int} {ss : List (Int × Int)} {S : List Int} : ∀ {A : Sn}, TreeA P ss S A → ∀ {F c}, lookA A F = some c → FitP P F ∧ c.frm.length = 4
  | [], _, _, _, h => by simp [lookA] at h
  | p :: r, ht, F, c, h => by
    obtain ⟨h1, h2, h3, h4, _⟩ := ht
    rw [lookA] at h
    by_cases e : p.1 = F
    · rw [if_pos e] at h; cases h; subst e; exact ⟨h3, h4⟩
    · rw [if_neg e] at h; exact TreeA.fit h1 h
theorem TreeA.knn {P : List Int} {ss : List (Int × Int)} {S : List Int} : ∀ {A : Sn}, TreeA P ss S A → ∀ {F c}, lookA A F = some c → 0 ≤ c.k ∧ c.k < A.length
  | [], _, _, _, h => by simp [lookA] at h
  | p :: r, ht, F, c, h => by
    obtain ⟨h1, h2, h3, h4, h5⟩ := ht
    rw [lookA] at h
    by_cases e : p.1 = F
    · rw [if_pos e] at h; cases h
      rcases h5 with ⟨_, h6, _⟩ | ⟨c', h6, h7, _⟩
      · rw [h6, List.length_cons]; simp only [c0]; omega
      · have := TreeA.knn h1 h6
        rw [List.length_cons]; omega
    · rw [if_neg e] at h
      have := TreeA.knn h1 h
      rw [List.length_cons]; omega
theorem GoodT.older {r : Sn} {p : List Int × Cm} (hn : (lookA r p.1).isSome = false) : ∀ (n : Nat) {c : Cm}, GoodT n r c → (∀ {F c}, lookA r F = some c → 0 < c.k → (lookA r c.frm).isSome = true) → (0 < c.k → (lookA r c.frm).isSome = true) → GoodT n (p :: r) c
  | 0, _, h, _, _ => h
  | n + 1, c, h, hA, hc => by
    rw [GoodT] at h ⊢
    have hs := hc (by rw [h.1]; omega)
    obtain ⟨c', hc'⟩ := Option.isSome_iff_exists.1 hs
    have e1 : cmOf r c.frm = c' := by unfold cmOf; rw [hc']; rfl
    have e2 : cmOf (p :: r) c.frm = c' := by unfold cmOf; rw [lookA_older hn hc']; rfl
    rw [e1] at h
    rw [e2]
    exact ⟨h.1, h.2.1, GoodT.older hn n h.2.2 hA (fun h0 => hA hc' h0)⟩
theorem TreeA.par {P : List Int} {ss : List (Int × Int)} {S : List Int} : ∀ {A : Sn}, TreeA P ss S A → ∀ {F c}, lookA A F = some c → 0 < c.k → ∃ c', lookA A c.frm = some c' ∧ c.k = c'.k + 1 ∧ F = afterF P c.frm c.sa c.sb ∧ (c.sa, c.sb) ∈ ss
  | [], _, _, _, h, _ => by simp [lookA] at h
  | p :: r, ht, F, c, h, hk => by
    obtain ⟨h1, h2, h3, h4, h5⟩ := ht
    rw [lookA] at h
    by_cases e : p.1 = F
    · rw [if_pos e] at h; cases h; subst e
      rcases h5 with ⟨_, h6, _⟩ | ⟨c', h6, h7⟩
      · rw [h6] at hk; simp [c0] at hk
      · exact ⟨c', lookA_older h2 h6, h7⟩
    · rw [if_neg e] at h
      obtain ⟨c', h6, h7⟩ := TreeA.par h1 h hk
      exact ⟨c', lookA_older h2 h6, h7⟩
theorem TreeA.good {P : List Int} {ss : List (Int × Int)} {S : List Int} {A : Sn} (ht : TreeA P ss S A) : ∀ (n : Nat) {F c}, lookA A F = some c → c.k = (n : Int) → GoodT n A c
  | 0, F, c, h, hk => ⟨by simpa using hk, (ht.fit h).2⟩
  | n + 1, F, c, h, hk => by
    obtain ⟨c', h1, h2, h3⟩ := ht.par h (by rw [hk]; omega)
    rw [GoodT]
    have e : cmOf A c.frm = c' := by unfold cmOf; rw [h1]; rfl
    rw [e]
    exact ⟨by rw [hk]; omega, (ht.fit h1).1.fok, TreeA.good ht n h1 (by omega)⟩
theorem visit_tree {P : List Int} {gl : List Int → Bool} {here : List Int} {cnt : Int} {ls : Int} {m : Nat} (hls : ls = -1 ∨ ls = 0) (hm : ls + (m : Int) ≤ 4) {S : List Int} {c1 : Cm} (hc : cnt = c1.k + 1) (hh : FitP P here) :
    ∀ (xs : List (Int × Int)) (s t : Sn × List (List Int)) (o : Option (List Int)), (∀ x ∈ xs, x ∈ stepsL ls m) → TreeA P (stepsL ls m) S s.1 → lookA s.1 here = some c1 → visit P gl here cnt xs s = (t, o) → TreeA P (stepsL ls m) S t.1 ∧ (∀ {F c}, lookA s.1 F = some c → lookA t.1 F = some c) ∧
      (∀ q ∈ t.2, q ∈ s.2 ∨ (lookA t.1 q).isSome = true)
  | [], s, t, o, _, ht, hl, h => by rw [visit] at h; cases h; exact ⟨ht, fun h => h, fun q hq => .inl hq⟩
  | x :: xs, s, t, o, hx, ht, hl, h => by
    rw [visit] at h
    have hxs : ∀ y ∈ xs, y ∈ stepsL ls m := fun y hy => hx y (List.mem_cons_of_mem _ hy)
    by_cases e : (lookA s.1 (afterF P here x.1 x.2)).isSome = true
    · rw [if_pos e] at h; exact visit_tree hls hm hc hh xs s t o hxs ht hl h
    · rw [if_neg e] at h
      have e' : (lookA s.1 (afterF P here x.1 x.2)).isSome = false := by simpa using e
      have hs := mem_step (hx x List.mem_cons_self)
      have ht2 : TreeA P (stepsL ls m) S ((afterF P here x.1 x.2, (⟨here, x.1, x.2, cnt⟩ : Cm)) :: s.1) := ⟨ht, e', hh.after (by omega) (by omega) hs.2.2.2.2, hh.1, .inr ⟨c1, hl, hc, rfl, hx x List.mem_cons_self⟩⟩
      have hold : ∀ {F c}, lookA s.1 F = some c → lookA ((afterF P here x.1 x.2, (⟨here, x.1, x.2, cnt⟩ : Cm)) :: s.1) F = some c := fun h => lookA_older e' h
      split at h
      · cases h
        exact ⟨ht2, hold, fun q hq => .inl hq⟩
      · obtain ⟨h1, h2, h3⟩ := visit_tree hls hm hc hh xs ((afterF P here x.1 x.2, ⟨here, x.1, x.2, cnt⟩) :: s.1, s.2 ++ [afterF P here x.1 x.2]) t o hxs ht2 (hold hl) h
        refine ⟨h1, fun h => h2 (hold h), fun q hq => ?_⟩
        rcases h3 q hq with h | h
        · rcases List.mem_append.1 h with h | h
          · exact .inl h
          · rw [List.mem_singleton.1 h]
            have : lookA ((afterF P here x.1 x.2, (⟨here, x.1, x.2, cnt⟩ : Cm)) :: s.1) (afterF P here x.1 x.2) = some ⟨here, x.1, x.2, cnt⟩ := by rw [lookA, if_pos rfl]
            exact .inr (by rw [h2 this]; rfl)
        · exact .inr h
theorem visit_found {P : List Int} {gl : List Int → Bool} {here : List Int} {cnt : Int} : ∀ (xs : List (Int × Int)) (s t : Sn × List (List Int)) (g : List Int), visit P gl here cnt xs s = (t, some g) → (lookA t.1 g).isSome = true ∧ gl g = true
  | [], s, t, g, h => by rw [visit] at h; cases h
  | x :: xs, s, t, g, h => by
    rw [visit] at h
    split at h
    · exact visit_found xs _ t g h
    · split at h
      · rename_i hg; cases h; exact ⟨by rw [lookA, if_pos rfl]; rfl, hg⟩
      · exact visit_found xs _ t g h
theorem bfs_tree (P : List Int) (gl : List Int → Bool) (ls : Int) (m : Nat) (hls : ls = -1 ∨ ls = 0) (hm : ls + (m : Int) ≤ 4) (S : List Int) : ∀ (M : Nat) (A : Sn) (qs : List (List Int)) (res : Sn × Option (List Int)), TreeA P (stepsL ls m) S A → (∀ q ∈ qs, (lookA A q).isSome = true) →
    bfs P gl (stepsL ls m) M A qs = some res → TreeA P (stepsL ls m) S res.1 ∧ (∀ {F c}, lookA A F = some c → lookA res.1 F = some c) ∧ (∀ g, res.2 = some g → (lookA res.1 g).isSome = true ∧ gl g = true)
  | 0, _, _, _, _, _, h => by simp [bfs] at h
  | M + 1, A, [], res, ht, _, h => by rw [bfs] at h; cases h; exact ⟨ht, fun h => h, fun g hg => by cases hg⟩
  | M + 1, A, q :: qs, res, ht, hq, h => by
    rw [bfs] at h
    obtain ⟨c1, hc1⟩ := Option.isSome_iff_exists.1 (hq q List.mem_cons_self)
    have hcnt : ((lookA A q).map Cm.k).getD 0 + 1 = c1.k + 1 := by rw [hc1]; rfl
    rw [hcnt] at h
    rcases hv : visit P gl q (c1.k + 1) (stepsL ls m) (A, qs) with ⟨⟨A', qs'⟩, o⟩
    rw [hv] at h
    obtain ⟨h1, h2, h3⟩ := visit_tree hls hm (cnt := c1.k + 1) rfl (ht.fit hc1).1 (stepsL ls m) (A, qs) (A', qs') o (fun x hx => hx) ht hc1 hv
    cases o with
    | some g =>
      cases h
      exact ⟨h1, h2, fun g' hg' => by cases hg'; exact visit_found _ _ _ _ hv⟩
    | none =>
      obtain ⟨k1, k2, k3⟩ := bfs_tree P gl ls m hls hm S M A' qs' res h1 (fun q' hq' => by
        rcases h3 q' hq' with h | h
        · obtain ⟨c2, hc2⟩ := Option.isSome_iff_exists.1 (hq q' (List.mem_cons_of_mem _ h))
          rw [h2 hc2]; rfl
        · exact h) h
      exact ⟨k1, fun h => k2 (h2 h), k3⟩
theorem tree_start {P : List Int} {ss : List (Int × Int)} {S : List Int} (hS : FitP P S) : TreeA P ss S [(S, c0)] := ⟨trivial, rfl, hS, rfl, .inl ⟨rfl, rfl, rfl⟩⟩
theorem srch_tree (P : List Int) (gl : List Int → Bool) (ls : Int) (m : Nat) (hls : ls = -1 ∨ ls = 0) (hm : ls + (m : Int) ≤ 4) (S : List Int) (hS : FitP P S) (M : Nat) (res : Sn × Option (List Int)) (h : srch P gl (stepsL ls m) M S = some res) :
    TreeA P (stepsL ls m) S res.1 ∧ lookA res.1 S = some c0 ∧ (∀ g, res.2 = some g → (lookA res.1 g).isSome = true ∧ gl g = true) := by
  unfold srch at h
  have hs : lookA [(S, c0)] S = some c0 := by rw [lookA, if_pos rfl]
  split at h
  · rename_i hg
    cases h
    exact ⟨tree_start hS, hs, fun g hg' => by cases hg'; exact ⟨by rw [hs]; rfl, hg⟩⟩
  · obtain ⟨h1, h2, h3⟩ := bfs_tree P gl ls m hls hm S M _ _ res (tree_start hS) (fun q hq => by rw [List.mem_singleton.1 hq, hs]; rfl) h
    exact ⟨h1, h2 hs, h3⟩
end Go.Proofs.Ytlamppplnojpbaa
