import Derived.Test.YtlamppplnojpbaaJh
import Derived.Laws.AppendOwn
import Derived.Maps.OwnIn
import Derived.Maps.AppendAt
import Derived.RangeFuncNested
import Derived.RangeFuncBound
import Derived.RangeFuncCalls
import Derived.RangeFuncLeaves
import Derived.Shelf.Abstract
import Derived.Shelf.RegionOpen
import Derived.WalkKit
import Derived.WalkMore
import Derived.OwnWalkIn
import Derived.TacticsInMore
import Derived.LoopNIn
import Derived.LoopIn
import Derived.WalkSpells
import Derived.WalkLawsBesides
import Derived.BigQuiet
import Derived.Deep.QuietTactic
import Derived.Lib.Hide
import Derived.Deep.RegionHeld3
import Derived.StillTailTactics
import Derived.Deep.LoopGhost
import Derived.Maps.OwnSet
import Derived.Lib.IndexAny
import Derived.Sort.QuietThIn
import Derived.Sort.QuietTacIn
import Derived.Sort.BigQuietIn
namespace Go.Proofs.Ytlamppplnojpbaa
open Go.RowKit Go.Shelf
attribute [local go_sem] Oper.semAt_some
/-! the search, on lists -/
/-- how a search came to a filling -/
structure Cm where
  frm : List Int
  sa : Int
  sb : Int
  k : Int
def Cm.V (c : Cm) : Value := .agg (c.frm.map encI ++ [encI c.sa, encI c.sb, encI c.k]).toArray
abbrev Sn := List (List Int × Cm)
def lookA : Sn → List Int → Option Cm
  | [], _ => none
  | p :: r, F => if p.1 = F then some p.2 else lookA r F
def seenV (A : Sn) : List Int → Option Value := fun F => (lookA A F).map Cm.V
theorem seenV_cons (A : Sn) (F : List Int) (c : Cm) : putS (seenV A) F c.V = seenV ((F, c) :: A) := by
  funext G
  unfold putS seenV
  rw [lookA]
  by_cases h : G = F
  · subst h; simp
  · rw [if_neg h, if_neg (fun e => h e.symm)]
theorem seenV_nil : seenV [] = fun _ => none := by funext G; rfl
def c0 : Cm := ⟨[0, 0, 0, 0], 0, 0, 0⟩
theorem c0_V : c0.V = zeroC := by simp [c0, Cm.V, zeroC, encI]
theorem lookA_mem : ∀ (A : Sn) (F : List Int) (c : Cm), lookA A F = some c → (F, c) ∈ A
  | [], _, _, h => by simp [lookA] at h
  | p :: r, F, c, h => by
    rw [lookA] at h
    by_cases e : p.1 = F
    · rw [if_pos e] at h; cases h; subst e; exact List.mem_cons_self
    · rw [if_neg e] at h; exact List.mem_cons_of_mem _ (lookA_mem r F c h)
/-- one filling's steps: the fillings that are new are laid into the map and the queue, up to a goal -/
def visit (P : List Int) (gl : List Int → Bool) (here : List Int) (cnt : Int) : List (Int × Int) → Sn × List (List Int) → (Sn × List (List Int)) × Option (List Int)
  | [], s => (s, none)
  | x :: xs, s =>
    if (lookA s.1 (afterF P here x.1 x.2)).isSome = true then visit P gl here cnt xs s
    else if gl (afterF P here x.1 x.2) = true then (((afterF P here x.1 x.2, ⟨here, x.1, x.2, cnt⟩) :: s.1, s.2), some (afterF P here x.1 x.2))
    else visit P gl here cnt xs ((afterF P here x.1 x.2, ⟨here, x.1, x.2, cnt⟩) :: s.1, s.2 ++ [afterF P here x.1 x.2])
section
variable {P : List Int} {gl : List Int → Bool} {here : List Int} {cnt : Int}
theorem visit_go : ∀ (xs ys : List (Int × Int)) (s t : Sn × List (List Int)), visit P gl here cnt xs s = (t, none) → visit P gl here cnt (xs ++ ys) s = visit P gl here cnt ys t
  | [], ys, s, t, h => by rw [visit] at h; cases h; rfl
  | x :: xs, ys, s, t, h => by
    rw [List.cons_append, visit]
    rw [visit] at h
    split
    · rename_i e; rw [if_pos e] at h; exact visit_go xs ys _ t h
    · rename_i e; rw [if_neg e] at h
      split
      · rename_i e2; rw [if_pos e2] at h; cases h
      · rename_i e2; rw [if_neg e2] at h; exact visit_go xs ys _ t h
theorem visit_end : ∀ (xs ys : List (Int × Int)) (s t : Sn × List (List Int)) (g : List Int), visit P gl here cnt xs s = (t, some g) → visit P gl here cnt (xs ++ ys) s = (t, some g)
  | [], ys, s, t, g, h => by rw [visit] at h; cases h
  | x :: xs, ys, s, t, g, h => by
    rw [List.cons_append, visit]
    rw [visit] at h
    split
    · rename_i e; rw [if_pos e] at h; exact visit_end xs ys _ t g h
    · rename_i e; rw [if_neg e] at h
      split
      · rename_i e2; rw [if_pos e2] at h; exact h
      · rename_i e2; rw [if_neg e2] at h; exact visit_end xs ys _ t g h
theorem visit_pre {xs ys : List (Int × Int)} {s t : Sn × List (List Int)} {g : List Int} (h : xs <+: ys) (hv : visit P gl here cnt xs s = (t, some g)) : visit P gl here cnt ys s = (t, some g) := by
  obtain ⟨r, rfl⟩ := h
  exact visit_end xs r s t g hv
theorem visit_known {pre : List (Int × Int)} {x : Int × Int} {s t : Sn × List (List Int)} (h : visit P gl here cnt pre s = (t, none)) (hk : (lookA t.1 (afterF P here x.1 x.2)).isSome = true) : visit P gl here cnt (pre ++ [x]) s = (t, none) := by
  rw [visit_go pre [x] s t h, visit, if_pos hk, visit]
theorem visit_goal {pre : List (Int × Int)} {x : Int × Int} {s t : Sn × List (List Int)} (h : visit P gl here cnt pre s = (t, none)) (hk : (lookA t.1 (afterF P here x.1 x.2)).isSome = false) (hg : gl (afterF P here x.1 x.2) = true) :
    visit P gl here cnt (pre ++ [x]) s = (((afterF P here x.1 x.2, ⟨here, x.1, x.2, cnt⟩) :: t.1, t.2), some (afterF P here x.1 x.2)) := by
  rw [visit_go pre [x] s t h, visit, if_neg (by rw [hk]; simp), if_pos hg]
theorem visit_new {pre : List (Int × Int)} {x : Int × Int} {s t : Sn × List (List Int)} (h : visit P gl here cnt pre s = (t, none)) (hk : (lookA t.1 (afterF P here x.1 x.2)).isSome = false) (hg : gl (afterF P here x.1 x.2) = false) :
    visit P gl here cnt (pre ++ [x]) s = (((afterF P here x.1 x.2, ⟨here, x.1, x.2, cnt⟩) :: t.1, t.2 ++ [afterF P here x.1 x.2]), none) := by
  rw [visit_go pre [x] s t h, visit, if_neg (by rw [hk]; simp), if_neg (by rw [hg]; simp), visit]
theorem visit_len : ∀ (xs : List (Int × Int)) (s t : Sn × List (List Int)) (o : Option (List Int)), visit P gl here cnt xs s = (t, o) → t.1.length ≤ s.1.length + xs.length ∧ t.2.length + s.1.length ≤ s.2.length + t.1.length
  | [], s, t, o, h => by rw [visit] at h; cases h; simp
  | x :: xs, s, t, o, h => by
    rw [visit] at h
    split at h
    · have := visit_len xs s t o h; simp only [List.length_cons]; omega
    · split at h
      · cases h; simp only [List.length_cons]; omega
      · have := visit_len xs _ t o h; simp only [List.length_cons, List.length_append, List.length_nil] at this ⊢; omega
/-- a property of fillings and one of how they were come to, kept by a visit -/
theorem visit_keeps (Kf : List Int → Prop) (Kc : Cm → Prop) : ∀ (xs : List (Int × Int)) (s t : Sn × List (List Int)) (o : Option (List Int)), (∀ x ∈ xs, Kf (afterF P here x.1 x.2) ∧ Kc ⟨here, x.1, x.2, cnt⟩) →
    (∀ p ∈ s.1, Kf p.1 ∧ Kc p.2) → (∀ q ∈ s.2, Kf q) → visit P gl here cnt xs s = (t, o) → (∀ p ∈ t.1, Kf p.1 ∧ Kc p.2) ∧ (∀ q ∈ t.2, Kf q)
  | [], s, t, o, _, h1, h2, h => by rw [visit] at h; cases h; exact ⟨h1, h2⟩
  | x :: xs, s, t, o, hx, h1, h2, h => by
    have hh := hx x List.mem_cons_self
    have hr : ∀ y ∈ xs, Kf (afterF P here y.1 y.2) ∧ Kc ⟨here, y.1, y.2, cnt⟩ := fun y hy => hx y (List.mem_cons_of_mem _ hy)
    have h1' : ∀ p ∈ (afterF P here x.1 x.2, (⟨here, x.1, x.2, cnt⟩ : Cm)) :: s.1, Kf p.1 ∧ Kc p.2 := fun p hp => by
      rcases List.mem_cons.1 hp with rfl | hp
      · exact hh
      · exact h1 p hp
    rw [visit] at h
    split at h
    · exact visit_keeps Kf Kc xs s t o hr h1 h2 h
    · split at h
      · cases h; exact ⟨h1', h2⟩
      · refine visit_keeps Kf Kc xs _ t o hr h1' (fun q hq => ?_) h
        rcases List.mem_append.1 hq with hq | hq
        · exact h2 q hq
        · rw [List.mem_singleton.1 hq]; exact hh.1
end
/-- the search, with a bound on the number of fillings that are gone out from -/
def bfs (P : List Int) (gl : List Int → Bool) (ss : List (Int × Int)) : Nat → Sn → List (List Int) → Option (Sn × Option (List Int))
  | 0, _, _ => none
  | _ + 1, A, [] => some (A, none)
  | n + 1, A, h :: qs =>
    match visit P gl h (((lookA A h).map Cm.k).getD 0 + 1) ss (A, qs) with
    | ((A', _), some g) => some (A', some g)
    | ((A', qs'), none) => bfs P gl ss n A' qs'
/-- a filling of jugs -/
def FitP (P F : List Int) : Prop := F.length = 4 ∧ ∀ i, i < 4 → 0 ≤ F.getD i 0 ∧ F.getD i 0 ≤ P.getD i 0 ∧ P.getD i 0 ≤ 12
theorem FitP.fok {P F : List Int} (h : FitP P F) : Fok F := ⟨h.1, fun i hi => by have := h.2 i hi; unfold Bd; omega⟩
theorem set_getD (F : List Int) (k i : Nat) (v : Int) (hk : k < F.length) : (F.set k v).getD i 0 = if i = k then v else F.getD i 0 := by
  rw [List.getD_eq_getElem?_getD, List.getD_eq_getElem?_getD, List.getElem?_set]
  by_cases h : k = i
  · subst h; simp [hk]
  · rw [if_neg h, if_neg (fun e => h e.symm)]
theorem FitP.after {P F : List Int} (h : FitP P F) {f t : Int} (hf : -1 ≤ f ∧ f ≤ 3) (ht : -1 ≤ t ∧ t ≤ 3) (hne : f ≠ t) : FitP P (afterF P F f t) := by
  obtain ⟨hl, hb⟩ := h
  unfold afterF
  split
  · rename_i e
    refine ⟨by rw [List.length_set]; exact hl, fun i hi => ?_⟩
    rw [set_getD _ _ _ _ (by omega)]
    have h1 := hb i hi
    have h2 := hb t.toNat (by omega)
    split
    · rename_i e2; subst e2; omega
    · exact h1
  · split
    · refine ⟨by rw [List.length_set]; exact hl, fun i hi => ?_⟩
      rw [set_getD _ _ _ _ (by omega)]
      have h1 := hb i hi
      split
      · omega
      · exact h1
    · rename_i e1 e2
      refine ⟨by rw [List.length_set, List.length_set]; exact hl, fun i hi => ?_⟩
      rw [set_getD _ _ _ _ (by rw [List.length_set]; omega), set_getD _ _ _ _ (by omega)]
      have h1 := hb i hi
      have h2 := hb t.toNat (by omega)
      have h3 := hb f.toNat (by omega)
      split
      · rename_i e3; subst e3; omega
      · split
        · rename_i e3; subst e3; omega
        · exact h1
end Go.Proofs.Ytlamppplnojpbaa
