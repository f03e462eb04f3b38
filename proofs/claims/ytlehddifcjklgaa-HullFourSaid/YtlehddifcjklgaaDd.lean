import Derived.Test.YtlehddifcjklgaaDa
import Derived.Maps.OwnIn
import Derived.Maps.OwnSet
import Derived.Maps.AppendAt
import Derived.RangeFuncNested
import Derived.RangeFuncBound
import Derived.RangeFuncCalls
import Derived.RangeFuncLeaves
import Derived.Shelf.Abstract
import Derived.Shelf.RegionOpen
import Derived.WalkKit
import Derived.OwnWalkIn
import Derived.TacticsInMore
import Derived.LoopNIn
import Derived.LoopIn
import Derived.WalkMore
import Derived.Sort.QuietThIn
import Derived.Sort.QuietTacIn
import Derived.Sort.BigQuietIn
import Derived.WalkSpells
import Derived.WalkLawsBesides
import Derived.BigQuiet
import Derived.Deep.QuietTactic
import Derived.Lib.Hide
import Derived.Deep.RegionHeld3
import Derived.StillTailTactics
import Derived.Deep.LoopGhost
import Derived.Lib.IndexAny
namespace Go.Proofs.Ytlehddifcjklgaa
open Go.RowKit Go.Shelf
attribute [local go_sem] Oper.semAt_some
/-! a hull turned by a right angle: all that is asked of it stays -/
theorem ptAt_turn (ps : List Pt) (i : Nat) : ptAt (ps.map turnP) i = turnP (ptAt ps i) := by
  unfold ptAt
  rw [List.getD_eq_getElem?_getD, List.getD_eq_getElem?_getD, List.getElem?_map]
  cases ps[i]? with
  | none => rfl
  | some p => rfl
theorem nx_turn (ps : List Pt) (i : Nat) : nx (ps.map turnP) i = turnP (nx ps i) := by unfold nx; rw [ptAt_turn, List.length_map]
theorem pv_turn (ps : List Pt) (i : Nat) : pv (ps.map turnP) i = turnP (pv ps i) := by unfold pv; rw [ptAt_turn, List.length_map]
theorem crs_turn (a b : Pt) : crs (turnP a) (turnP b) = crs a b := by unfold crs turnP; dsimp only; grind
theorem dt_turn (a b : Pt) : dt (turnP a) (turnP b) = dt a b := by unfold dt turnP; dsimp only; grind
theorem mn_turn (a b : Pt) : mn (turnP a) (turnP b) = turnP (mn a b) := by unfold mn turnP; dsimp only; refine Prod.ext ?_ rfl; dsimp only; omega
theorem inR_turn (p : Pt) : inR (turnP p) = inR p := by
  unfold inR turnP; dsimp only
  rw [Bool.eq_iff_iff]; simp only [Bool.and_eq_true, decide_eq_true_eq]; omega
theorem areP_turn (ps : List Pt) : areP (ps.map turnP) = areP ps := by
  unfold areP
  rw [List.length_map, List.all_map]
  congr 1
  exact congrArg (List.all ps) (funext inR_turn)
theorem lft_turn (a b t : Pt) : lft (turnP a) (turnP b) (turnP t) = lft a b t := by unfold lft; rw [mn_turn, mn_turn, crs_turn]
theorem chk_turned (ps : List Pt) : chk (ps.map turnP) = chk ps := by
  unfold chk
  rw [areP_turn, List.length_map]
  congr 1
  refine congrArg (List.all (List.range ps.length)) (funext fun i => ?_)
  unfold sideAt isSide
  rw [List.length_map, ptAt_turn, nx_turn, List.countP_map]
  congr 2
  rw [show (lft (turnP (ptAt ps i)) (turnP (nx ps i)) ∘ turnP) = lft (ptAt ps i) (nx ps i) from funext fun t => lft_turn _ _ t]
theorem sum_map_neg (f : Nat → Int) : ∀ l : List Nat, (l.map (fun i => - f i)).sum = - (l.map f).sum
  | [] => rfl
  | x :: l => by simp only [List.map_cons, List.sum_cons, sum_map_neg f l]; omega
theorem sums_turn (ps : List Pt) : area (ps.map turnP) = area ps ∧ xSum (ps.map turnP) = - ySum ps ∧ ySum (ps.map turnP) = xSum ps := by
  have hc : ∀ i, crsAt (ps.map turnP) i = crsAt ps i := fun i => by unfold crsAt; rw [ptAt_turn, nx_turn, crs_turn]
  refine ⟨?_, ?_, ?_⟩
  · unfold area; rw [List.length_map]; exact congrArg List.sum (List.map_congr_left fun i _ => hc i)
  · unfold xSum ySum
    rw [List.length_map, ← sum_map_neg]
    refine congrArg List.sum (List.map_congr_left fun i _ => ?_)
    unfold xAt yAt; rw [hc, ptAt_turn, nx_turn]; unfold turnP; dsimp only; grind
  · unfold xSum ySum
    rw [List.length_map]
    refine congrArg List.sum (List.map_congr_left fun i _ => ?_)
    unfold xAt yAt; rw [hc, ptAt_turn, nx_turn]; rfl
theorem mid_turn (ps : List Pt) : mid (ps.map turnP) = (-(mid ps).2.1, (mid ps).1, (mid ps).2.2) := by
  obtain ⟨h1, h2, h3⟩ := sums_turn ps
  unfold mid
  rw [h1, h2, h3]
  dsimp only
  have hg : gcdI (-ySum ps) (xSum ps) = gcdI (xSum ps) (ySum ps) := by rw [gcdI_comm]; unfold gcdI; rw [Int.gcd_neg]
  rw [hg, Int.neg_tdiv]
theorem inw_turn (ps : List Pt) (c : Pt) : inw (mid (ps.map turnP)) (turnP c) = turnP (inw (mid ps) c) := by
  rw [mid_turn]; unfold inw turnP; dsimp only; refine Prod.ext ?_ rfl; dsimp only; grind
theorem along_turn (ps : List Pt) (s : Nat) : alongS (ps.map turnP) s = turnP (alongS ps s) := by unfold alongS; rw [nx_turn, ptAt_turn, mn_turn]
theorem D_turn (ps : List Pt) : (mid (ps.map turnP)).2.2 = (mid ps).2.2 := by rw [mid_turn]
theorem foot_turn (ps : List Pt) (s : Nat) : foot (ps.map turnP) (mid (ps.map turnP)) s = foot ps (mid ps) s := by
  unfold foot; rw [ptAt_turn, inw_turn, along_turn, dt_turn, dt_turn, D_turn]
theorem rest_turn (ps : List Pt) : restB (ps.map turnP) (mid (ps.map turnP)) = restB ps (mid ps) := funext fun s => by unfold restB; rw [foot_turn]
theorem tip_turn (ps : List Pt) : tipB (ps.map turnP) (mid (ps.map turnP)) = tipB ps (mid ps) := funext fun s => by
  unfold tipB; rw [ptAt_turn, inw_turn, nx_turn, pv_turn, mn_turn, mn_turn, dt_turn, dt_turn]
theorem lean_turn (ps : List Pt) (s : Nat) : leanF (ps.map turnP) (mid (ps.map turnP)) s = leanF ps (mid ps) s := by
  have h : height (ps.map turnP) (mid (ps.map turnP)) s = height ps (mid ps) s := by
    unfold height heightH; rw [ptAt_turn, inw_turn, along_turn, crs_turn, dt_turn]
  unfold leanF; rw [h, D_turn]
/-- turned k times -/
def turnN (ps : List Pt) : Nat → List Pt
  | 0 => ps
  | k + 1 => (turnN ps k).map turnP
theorem turnN_four (ps : List Pt) : turnN ps 4 = ps := by
  unfold turnN turnN turnN turnN turnN
  rw [List.map_map, List.map_map, List.map_map]
  have : (turnP ∘ turnP ∘ turnP ∘ turnP) = id := funext fun p => by
    obtain ⟨x, y⟩ := p
    show turnP (turnP (turnP (turnP (x, y)))) = (x, y)
    unfold turnP; dsimp only; rw [Int.neg_neg, Int.neg_neg]
  rw [show ((turnP ∘ turnP) ∘ turnP) ∘ turnP = (turnP ∘ turnP ∘ turnP ∘ turnP) from rfl, this, List.map_id]
theorem turnN_all (ps : List Pt) : ∀ k, (turnN ps k).length = ps.length ∧ chk (turnN ps k) = chk ps ∧ restB (turnN ps k) (mid (turnN ps k)) = restB ps (mid ps) ∧ tipB (turnN ps k) (mid (turnN ps k)) = tipB ps (mid ps) ∧ (∀ s, leanF (turnN ps k) (mid (turnN ps k)) s = leanF ps (mid ps) s)
  | 0 => ⟨rfl, rfl, rfl, rfl, fun _ => rfl⟩
  | k + 1 => by
    obtain ⟨h1, h2, h3, h4, h5⟩ := turnN_all ps k
    refine ⟨by rw [turnN, List.length_map, h1], by rw [turnN, chk_turned, h2], by rw [turnN, rest_turn, h3], by rw [turnN, tip_turn, h4], fun s => by rw [turnN, lean_turn, h5]⟩
/-! a hull begun at another corner -/
theorem sum_rot (F : Nat → Int) (n : Nat) (hn : 0 < n) : ∀ k, ((List.range n).map (fun i => F ((i + k) % n))).sum = ((List.range n).map F).sum
  | 0 => by
    refine congrArg List.sum (List.map_congr_left fun i hi => ?_)
    rw [Nat.add_zero, Nat.mod_eq_of_lt (List.mem_range.1 hi)]
  | k + 1 => by
    have h := sum_range_cyc (fun j => F ((j + k) % n)) (n - 1)
    rw [show n - 1 + 1 = n by omega] at h
    rw [← sum_rot F n hn k, ← h]
    refine congrArg List.sum (List.map_congr_left fun i _ => ?_)
    rw [Nat.mod_add_mod, show i + 1 + k = i + (k + 1) by omega]
def rotL (ps : List Pt) (k : Nat) : List Pt := ps.drop k ++ ps.take k
theorem rotL_len (ps : List Pt) (k : Nat) : (rotL ps k).length = ps.length := by unfold rotL; simp; omega
theorem rotL_at {ps : List Pt} {k i : Nat} (hk : k ≤ ps.length) (hi : i < ps.length) : ptAt (rotL ps k) i = ptAt ps ((i + k) % ps.length) := rot_at hk hi
theorem rotL_nx {ps : List Pt} {k i : Nat} (hk : k ≤ ps.length) (hi : i < ps.length) : nx (rotL ps k) i = nx ps ((i + k) % ps.length) := by
  unfold nx
  rw [rotL_len, rotL_at hk (Nat.mod_lt _ (by omega)), Nat.mod_add_mod, Nat.mod_add_mod, show i + 1 + k = i + k + 1 by omega]
theorem rotL_sums {ps : List Pt} {k : Nat} (hk : k ≤ ps.length) (hn : 0 < ps.length) : area (rotL ps k) = area ps ∧ xSum (rotL ps k) = xSum ps ∧ ySum (rotL ps k) = ySum ps := by
  have hc : ∀ i, i < ps.length → crsAt (rotL ps k) i = crsAt ps ((i + k) % ps.length) := fun i hi => by unfold crsAt; rw [rotL_at hk hi, rotL_nx hk hi]
  refine ⟨?_, ?_, ?_⟩
  · unfold area; rw [rotL_len, ← sum_rot (crsAt ps) ps.length hn k]
    exact congrArg List.sum (List.map_congr_left fun i hi => hc i (List.mem_range.1 hi))
  · unfold xSum; rw [rotL_len, ← sum_rot (xAt ps) ps.length hn k]
    refine congrArg List.sum (List.map_congr_left fun i hi => ?_)
    have hi := List.mem_range.1 hi
    unfold xAt; rw [hc i hi, rotL_at hk hi, rotL_nx hk hi]
  · unfold ySum; rw [rotL_len, ← sum_rot (yAt ps) ps.length hn k]
    refine congrArg List.sum (List.map_congr_left fun i hi => ?_)
    have hi := List.mem_range.1 hi
    unfold yAt; rw [hc i hi, rotL_at hk hi, rotL_nx hk hi]
theorem rotL_mid {ps : List Pt} {k : Nat} (hk : k ≤ ps.length) (hn : 0 < ps.length) : mid (rotL ps k) = mid ps := by
  obtain ⟨h1, h2, h3⟩ := rotL_sums hk hn
  unfold mid; rw [h1, h2, h3]
theorem rotL_rest {ps : List Pt} {k i : Nat} (hk : k ≤ ps.length) (hi : i < ps.length) (m : Int × Int × Int) : restB (rotL ps k) m i = restB ps m ((i + k) % ps.length) := by
  unfold restB foot alongS; rw [rotL_at hk hi, rotL_nx hk hi]
theorem mod_inj {n k i j : Nat} (hi : i < n) (hj : j < n) (h : (i + k) % n = (j + k) % n) : i = j := by
  have h1 := Nat.sub_mod_eq_zero_of_mod_eq h
  have h2 := Nat.sub_mod_eq_zero_of_mod_eq h.symm
  rw [show i + k - (j + k) = i - j by omega, Nat.mod_eq_of_lt (by omega)] at h1
  rw [show j + k - (i + k) = j - i by omega, Nat.mod_eq_of_lt (by omega)] at h2
  omega
theorem rotL_chk {ps : List Pt} {k : Nat} (hk : k ≤ ps.length) (h : chk ps = true) : chk (rotL ps k) = true := by
  have ha := chk_areP h
  obtain ⟨h3, h12⟩ := areP_len ha
  unfold chk
  rw [Bool.and_eq_true]
  refine ⟨?_, ?_⟩
  · unfold areP at ha ⊢
    rw [rotL_len]
    rw [Bool.and_eq_true] at ha ⊢
    refine ⟨ha.1, ?_⟩
    rw [List.all_eq_true] at ha ⊢
    intro p hp
    unfold rotL at hp
    rcases List.mem_append.1 hp with hp | hp
    · exact ha.2 p (List.mem_of_mem_drop hp)
    · exact ha.2 p (List.mem_of_mem_take hp)
  · rw [List.all_eq_true]
    intro i hi
    rw [rotL_len] at hi
    have hi := List.mem_range.1 hi
    rw [sideAt_iff (by rw [rotL_len]; exact h3) (by rw [rotL_len]; exact hi)]
    intro j hj h1 h2
    rw [rotL_len] at hj h2
    rw [rotL_at hk hi, rotL_nx hk hi, rotL_at hk hj]
    refine chk_turn h (Nat.mod_lt _ (by omega)) (Nat.mod_lt _ (by omega)) (fun e => h1 (mod_inj hj hi e)) (fun e => h2 ?_)
    refine mod_inj (k := k) hj (Nat.mod_lt _ (by omega)) ?_
    rw [e, Nat.mod_add_mod, Nat.mod_add_mod, show i + 1 + k = i + k + 1 by omega]
theorem sidesL_count (p : Nat → Bool) (n : Nat) : ((sidesL p n).length : Int) = ((List.range n).map (fun i => if p i = true then (1 : Int) else 0)).sum := by
  rw [count_sum]; unfold sidesL; rw [List.length_map, List.countP_eq_length_filter]
theorem rotL_count {ps : List Pt} {k : Nat} (hk : k ≤ ps.length) (hn : 0 < ps.length) (m : Int × Int × Int) : (sidesL (restB (rotL ps k) m) ps.length).length = (sidesL (restB ps m) ps.length).length := by
  have h1 := sidesL_count (restB (rotL ps k) m) ps.length
  have h2 := sidesL_count (restB ps m) ps.length
  rw [← sum_rot _ ps.length hn k] at h2
  have e : (List.range ps.length).map (fun i => if restB (rotL ps k) m i = true then (1 : Int) else 0) = (List.range ps.length).map (fun i => if restB ps m ((i + k) % ps.length) = true then (1 : Int) else 0) :=
    List.map_congr_left fun i hi => by rw [rotL_rest hk (List.mem_range.1 hi)]
  rw [e, ← h2] at h1
  omega
theorem sides_get (p : Nat → Bool) (n : Nat) {j : Nat} (hj : j < (sidesL p n).length) : ∃ t : Nat, t < n ∧ p t = true ∧ (sidesL p n)[j] = (t : Int) := by
  have h := List.getElem_mem hj
  unfold sidesL at h
  obtain ⟨t, ht, e⟩ := List.mem_map.1 h
  obtain ⟨h1, h2⟩ := List.mem_filter.1 ht
  exact ⟨t, List.mem_range.1 h1, h2, e.symm⟩
end Go.Proofs.Ytlehddifcjklgaa
