import Derived.Test.YtlamppplnojpbaaME
import Derived.Laws.AppendOwn
import Derived.ChangeKeysEq
import Derived.Maps.RangeWalk
import Derived.Maps.OwnIn
import Derived.Maps.AppendAt
import Derived.RangeFuncNested
import Derived.RangeFuncBound
import Derived.RangeFuncCalls
import Derived.RangeFuncLeaves
import Derived.Shelf.Abstract
import Derived.Shelf.RegionOpen
import Derived.WalkKit
import Derived.WalkMore
import Derived.OwnWalkIn
import Derived.TacticsInMore
import Derived.LoopNIn
import Derived.LoopIn
import Derived.WalkSpells
import Derived.WalkLawsBesides
import Derived.BigQuiet
import Derived.Deep.QuietTactic
import Derived.Lib.Hide
import Derived.Deep.RegionHeld3
import Derived.StillTailTactics
import Derived.Deep.LoopGhost
import Derived.Maps.OwnSet
import Derived.Lib.IndexAny
import Derived.Sort.QuietThIn
import Derived.Sort.QuietTacIn
import Derived.Sort.BigQuietIn
import Derived.Laws.OwnMore
namespace Go.Proofs.Ytlamppplnojpbaa
open Go.RowKit Go.Shelf
attribute [local go_sem] Oper.semAt_some
/-! two jugs: the ring -/
def orb (first : Bool) (a b : Int) : Nat → Int × Int
  | 0 => (0, 0)
  | k + 1 => nxtF first a b (orb first a b k).1 (orb first a b k).2
def wayL (first : Bool) (a b : Int) (k : Nat) : List (Int × Int) := (List.range k).map fun i => stpF first a b (orb first a b i).1 (orb first a b i).2
theorem wayL_succ (first : Bool) (a b : Int) (k : Nat) : wayL first a b (k + 1) = wayL first a b k ++ [stpF first a b (orb first a b k).1 (orb first a b k).2] := by
  unfold wayL; rw [List.range_succ, List.map_append]; rfl
theorem wayL_len (first : Bool) (a b : Int) (k : Nat) : (wayL first a b k).length = k := by simp [wayL]
/-- fillings with a jug that is empty or full, but not both full -/
def Edge (a b : Int) (s : Int × Int) : Prop := (0 ≤ s.1 ∧ s.1 ≤ a) ∧ (0 ≤ s.2 ∧ s.2 ≤ b) ∧ (s.1 = 0 ∨ s.1 = a ∨ s.2 = 0 ∨ s.2 = b) ∧ ¬(s.1 = a ∧ s.2 = b)
theorem edge_next {a b : Int} (ha : 1 ≤ a) (hb : 1 ≤ b) (first : Bool) {s : Int × Int} (h : Edge a b s) : Edge a b (nxtF first a b s.1 s.2) := by
  obtain ⟨x, y⟩ := s
  unfold Edge at h
  dsimp only at h ⊢
  cases first <;> unfold nxtF <;> simp only [if_true, Bool.false_eq_true, if_false] <;> split <;> first | (unfold Edge; dsimp only; omega) | (split <;> (unfold Edge; dsimp only; omega))
theorem edge_back {a b : Int} (ha : 1 ≤ a) (hb : 1 ≤ b) (first : Bool) {s : Int × Int} (h : Edge a b s) : nxtF (!first) a b (nxtF first a b s.1 s.2).1 (nxtF first a b s.1 s.2).2 = s := by
  obtain ⟨x, y⟩ := s
  unfold Edge at h
  dsimp only at h ⊢
  cases first
  · have e : nxtF false a b x y = if x = a then (0, y) else if y = 0 then (x, b) else (x + min y (a - x), y - min y (a - x)) := rfl
    have e2 : ∀ x y, nxtF (!false) a b x y = if y = b then (x, 0) else if x = 0 then (a, y) else (x - min x (b - y), y + min x (b - y)) := fun _ _ => rfl
    rw [e]
    by_cases h1 : x = a
    · rw [if_pos h1]; dsimp only
      rw [e2, if_neg (by omega), if_pos rfl, h1]
    · rw [if_neg h1]
      by_cases h2 : y = 0
      · rw [if_pos h2]; dsimp only
        rw [e2, if_pos rfl, h2]
      · rw [if_neg h2]; dsimp only
        rw [e2, if_neg (by omega), if_neg (by omega), Prod.mk.injEq]
        omega
  · have e : nxtF true a b x y = if y = b then (x, 0) else if x = 0 then (a, y) else (x - min x (b - y), y + min x (b - y)) := rfl
    have e2 : ∀ x y, nxtF (!true) a b x y = if x = a then (0, y) else if y = 0 then (x, b) else (x + min y (a - x), y - min y (a - x)) := fun _ _ => rfl
    rw [e]
    by_cases h1 : y = b
    · rw [if_pos h1]; dsimp only
      rw [e2, if_neg (by omega), if_pos rfl, h1]
    · rw [if_neg h1]
      by_cases h2 : x = 0
      · rw [if_pos h2]; dsimp only
        rw [e2, if_pos rfl, h2]
      · rw [if_neg h2]; dsimp only
        rw [e2, if_neg (by omega), if_neg (by omega), Prod.mk.injEq]
        omega
theorem orb_edge {a b : Int} (ha : 1 ≤ a) (hb : 1 ≤ b) (first : Bool) : ∀ k, Edge a b (orb first a b k)
  | 0 => by unfold orb Edge; dsimp only; omega
  | k + 1 => by rw [orb]; exact edge_next ha hb first (orb_edge ha hb first k)
theorem orb_back {a b : Int} (ha : 1 ≤ a) (hb : 1 ≤ b) (first : Bool) (k : Nat) : nxtF (!first) a b (orb first a b (k + 1)).1 (orb first a b (k + 1)).2 = orb first a b k := by
  rw [orb]; exact edge_back ha hb first (orb_edge ha hb first k)
theorem orb_cancel {a b : Int} (ha : 1 ≤ a) (hb : 1 ≤ b) (first : Bool) {i j : Nat} (h : orb first a b (i + 1) = orb first a b (j + 1)) : orb first a b i = orb first a b j := by
  rw [← orb_back ha hb first i, ← orb_back ha hb first j, h]
theorem orb_shift {a b : Int} {first : Bool} {p : Nat} (h : orb first a b p = (0, 0)) : ∀ k, orb first a b (p + k) = orb first a b k
  | 0 => h
  | k + 1 => by rw [← Nat.add_assoc, orb, orb, orb_shift h k]
theorem orb_zero {a b : Int} (ha : 1 ≤ a) (hb : 1 ≤ b) (first : Bool) : ∀ {i j : Nat}, i < j → orb first a b i = orb first a b j → orb first a b (j - i) = (0, 0)
  | 0, j, _, h => by rw [Nat.sub_zero, ← h]; rfl
  | i + 1, j + 1, hlt, h => by
    rw [Nat.succ_sub_succ]
    exact orb_zero ha hb first (by omega) (orb_cancel ha hb first h)
def codeE (_a b : Int) (s : Int × Int) : Nat := if s.2 = 0 then s.1.toNat else if s.2 = b then 1001 + s.1.toNat else if s.1 = 0 then 2002 + s.2.toNat else 3003 + s.2.toNat
theorem codeE_inj {a b : Int} (ha : 1 ≤ a ∧ a ≤ 1000) (hb : 1 ≤ b ∧ b ≤ 1000) {s t : Int × Int} (h : Edge a b s) (k : Edge a b t) (e : codeE a b s = codeE a b t) : s = t := by
  obtain ⟨x, y⟩ := s
  obtain ⟨x', y'⟩ := t
  unfold Edge at h k
  unfold codeE at e
  dsimp only at h k e
  rw [Prod.mk.injEq]
  repeat' (split at e)
  all_goals omega
theorem codeE_lt {a b : Int} (ha : 1 ≤ a ∧ a ≤ 1000) (hb : 1 ≤ b ∧ b ≤ 1000) {s : Int × Int} (h : Edge a b s) : codeE a b s < 4004 := by
  obtain ⟨x, y⟩ := s
  unfold Edge at h
  unfold codeE
  dsimp only at h ⊢
  split
  · omega
  · split
    · omega
    · split <;> omega
theorem pigeon : ∀ (N : Nat) (f : Nat → Nat), (∀ i, i ≤ N → f i < N) → ∃ i j, i < j ∧ j ≤ N ∧ f i = f j := by
  intro N f hf
  refine Classical.byContradiction fun hno => ?_
  have hnd : ((List.range (N + 1)).map f).Nodup := by
    rw [List.nodup_iff_pairwise_ne, List.pairwise_map]
    refine (List.nodup_range.imp_of_mem (S := fun a b => f a ≠ f b)) ?_
    intro a b ha hb hab e
    have ha := List.mem_range.1 ha
    have hb := List.mem_range.1 hb
    rcases Nat.lt_or_gt_of_ne hab with h | h
    · exact hno ⟨a, b, h, by omega, e⟩
    · exact hno ⟨b, a, h, by omega, e.symm⟩
  have := nodup_le N _ hnd (fun x hx => by
    obtain ⟨i, hi, rfl⟩ := List.mem_map.1 hx
    exact hf i (by have := List.mem_range.1 hi; omega))
  simp at this
  omega
theorem orb_period {a b : Int} (ha : 1 ≤ a ∧ a ≤ 1000) (hb : 1 ≤ b ∧ b ≤ 1000) (first : Bool) : ∃ p, 1 ≤ p ∧ p ≤ 4004 ∧ orb first a b p = (0, 0) := by
  obtain ⟨i, j, h1, h2, h3⟩ := pigeon 4004 (fun i => codeE a b (orb first a b i)) (fun i _ => codeE_lt ha hb (orb_edge ha.1 hb.1 first i))
  have := codeE_inj ha hb (orb_edge ha.1 hb.1 first i) (orb_edge ha.1 hb.1 first j) h3
  exact ⟨j - i, by omega, by omega, orb_zero ha.1 hb.1 first h1 this⟩
theorem least_nat {p : Nat → Prop} : ∀ (n : Nat), p n → ∃ k, k ≤ n ∧ p k ∧ ∀ i, i < k → ¬ p i
  | n, h => by
    induction n using Nat.strongRecOn with
    | ind n ih =>
      by_cases hx : ∃ i, i < n ∧ p i
      · obtain ⟨i, hi, hp⟩ := hx
        obtain ⟨k, h1, h2, h3⟩ := ih i hi hp
        exact ⟨k, by omega, h2, h3⟩
      · exact ⟨n, Nat.le_refl _, h, fun i hi hp => hx ⟨i, hi, hp⟩⟩
def hasS (amt : Int) (s : Int × Int) : Prop := s.1 = amt ∨ s.2 = amt
/-- the ring's way up to the amount -/
theorem ring_finds {a b amt : Int} (first : Bool) {j : Nat} (hj : hasS amt (orb first a b j)) (hl : ∀ i, i < j → ¬ hasS amt (orb first a b i)) : ∀ (d i k : Nat), i + d = j → d < k → ringL first a b amt k (orb first a b i).1 (orb first a b i).2 (wayL first a b i) = some (wayL first a b j, true)
  | 0, i, k + 1, h, _ => by
    obtain rfl : i = j := by omega
    rw [ringL, if_pos (show _ ∨ _ from hj)]
  | d + 1, i, k + 1, h, hk => by
    rw [ringL, if_neg (show ¬ (_ ∨ _) from hl i (by omega))]
    have hz : ¬ nxtF first a b (orb first a b i).1 (orb first a b i).2 = (0, 0) := fun e => by
      have e' : orb first a b (i + 1) = (0, 0) := e
      by_cases hij : i + 1 = j
      · rw [hij] at e'
        rw [e'] at hj
        exact hl 0 (by omega) hj
      · have := orb_shift e' (j - (i + 1))
        rw [show i + 1 + (j - (i + 1)) = j by omega] at this
        rw [this] at hj
        exact hl _ (by omega) hj
    rw [if_neg hz, ← wayL_succ]
    exact ring_finds first hj hl d (i + 1) k (by omega) (by omega)
theorem ring_fails {a b amt : Int} (first : Bool) {p : Nat} (hp : orb first a b p = (0, 0)) (hn : ∀ i, ¬ hasS amt (orb first a b i)) : ∀ (d i k : Nat), i + (d + 1) = p → d < k → ringL first a b amt k (orb first a b i).1 (orb first a b i).2 (wayL first a b i) = some ([], false)
  | 0, i, k + 1, h, _ => by
    rw [ringL, if_neg (show ¬ (_ ∨ _) from hn i)]
    have : nxtF first a b (orb first a b i).1 (orb first a b i).2 = (0, 0) := by
      have e : orb first a b (i + 1) = (0, 0) := by rw [show i + 1 = p by omega]; exact hp
      exact e
    rw [if_pos this]
  | d + 1, i, k + 1, h, hk => by
    rw [ringL, if_neg (show ¬ (_ ∨ _) from hn i)]
    split
    · rfl
    · rw [← wayL_succ]
      exact ring_fails first hp hn d (i + 1) k (by omega) (by omega)
theorem ring_yes {a b amt : Int} (ha : 1 ≤ a ∧ a ≤ 1000) (hb : 1 ≤ b ∧ b ≤ 1000) (first : Bool) (h : ∃ i, hasS amt (orb first a b i)) : ∃ j, j < 4004 ∧ hasS amt (orb first a b j) ∧ (∀ i, i < j → ¬ hasS amt (orb first a b i)) ∧ ringL first a b amt 4005 0 0 [] = some (wayL first a b j, true) := by
  obtain ⟨i, hi⟩ := h
  obtain ⟨j, _, h2, h3⟩ := least_nat (p := fun i => hasS amt (orb first a b i)) i hi
  obtain ⟨p, p1, p2, p3⟩ := orb_period ha hb first
  have hjp : j < p := by
    rcases Nat.lt_or_ge j p with h | h
    · exact h
    · have := orb_shift p3 (j - p)
      rw [show p + (j - p) = j by omega] at this
      rw [this] at h2
      exact absurd h2 (h3 _ (by omega))
  exact ⟨j, by omega, h2, h3, ring_finds first h2 h3 j 0 4005 (by omega) (by omega)⟩
theorem ring_no {a b amt : Int} (ha : 1 ≤ a ∧ a ≤ 1000) (hb : 1 ≤ b ∧ b ≤ 1000) (first : Bool) (h : ∀ i, ¬ hasS amt (orb first a b i)) : ringL first a b amt 4005 0 0 [] = some ([], false) := by
  obtain ⟨p, p1, p2, p3⟩ := orb_period ha hb first
  exact ring_fails first p3 h (p - 1) 0 4005 (by omega) (by omega)
theorem steps3 : stepsL (-1) 3 = [(-1, 0), (-1, 1), (0, -1), (0, 1), (1, -1), (1, 0)] := by decide
/-- the fillings that a step makes of one on the edge -/
theorem one_move {a b : Int} (ha : 1 ≤ a) (hb : 1 ≤ b) {s : Int × Int} (h : Edge a b s) {f t : Int} (hs : (f, t) ∈ stepsL (-1) 3) : ∃ r : Int × Int, afterF [a, b, 0, 0] [s.1, s.2, 0, 0] f t = [r.1, r.2, 0, 0] ∧
    (r = s ∨ r = nxtF true a b s.1 s.2 ∨ r = nxtF false a b s.1 s.2 ∨ r = (0, 0) ∨ r = (a, 0) ∨ r = (0, b) ∨ (r = (a, b) ∧ s ≠ (0, 0))) := by
  obtain ⟨x, y⟩ := s
  unfold Edge at h
  dsimp only at h ⊢
  have e1 : nxtF false a b x y = if x = a then (0, y) else if y = 0 then (x, b) else (x + min y (a - x), y - min y (a - x)) := rfl
  have e2 : nxtF true a b x y = if y = b then (x, 0) else if x = 0 then (a, y) else (x - min x (b - y), y + min x (b - y)) := rfl
  rw [steps3] at hs
  simp only [List.mem_cons, Prod.mk.injEq, or_false, List.not_mem_nil] at hs
  have key : ∀ r : Int × Int, ((r.1 = x ∧ r.2 = y) ∨ (r.1 = (if y = b then (x, 0) else if x = 0 then (a, y) else (x - min x (b - y), y + min x (b - y))).1 ∧ r.2 = (if y = b then (x, 0) else if x = 0 then (a, y) else (x - min x (b - y), y + min x (b - y))).2) ∨
      (r.1 = (if x = a then (0, y) else if y = 0 then (x, b) else (x + min y (a - x), y - min y (a - x))).1 ∧ r.2 = (if x = a then (0, y) else if y = 0 then (x, b) else (x + min y (a - x), y - min y (a - x))).2) ∨ (r.1 = 0 ∧ r.2 = 0) ∨ (r.1 = a ∧ r.2 = 0) ∨ (r.1 = 0 ∧ r.2 = b) ∨ ((r.1 = a ∧ r.2 = b) ∧ ¬(x = 0 ∧ y = 0))) →
      (r = (x, y) ∨ r = nxtF true a b x y ∨ r = nxtF false a b x y ∨ r = (0, 0) ∨ r = (a, 0) ∨ r = (0, b) ∨ (r = (a, b) ∧ (x, y) ≠ (0, 0))) := fun r hr => by
    rw [e1, e2]
    simp only [Prod.ext_iff, ne_eq]
    exact hr
  rcases hs with ⟨rfl, rfl⟩ | ⟨rfl, rfl⟩ | ⟨rfl, rfl⟩ | ⟨rfl, rfl⟩ | ⟨rfl, rfl⟩ | ⟨rfl, rfl⟩
  · refine ⟨(a, y), by simp [afterF], key _ ?_⟩
    dsimp only
    split <;> split <;> (try split) <;> (try split) <;> omega
  · refine ⟨(x, b), by simp [afterF], key _ ?_⟩
    dsimp only
    split <;> split <;> (try split) <;> (try split) <;> omega
  · refine ⟨(0, y), by simp [afterF], key _ ?_⟩
    dsimp only
    split <;> split <;> (try split) <;> (try split) <;> omega
  · refine ⟨(x - min x (b - y), y + min x (b - y)), by simp [afterF], key _ ?_⟩
    dsimp only
    split <;> split <;> (try split) <;> (try split) <;> omega
  · refine ⟨(x, 0), by simp [afterF], key _ ?_⟩
    dsimp only
    split <;> split <;> (try split) <;> (try split) <;> omega
  · refine ⟨(x + min y (a - x), y - min y (a - x)), by simp [afterF], key _ ?_⟩
    dsimp only
    split <;> split <;> (try split) <;> (try split) <;> omega

theorem orb_one {a b : Int} (ha : 1 ≤ a) (hb : 1 ≤ b) : orb true a b 1 = (a, 0) ∧ orb false a b 1 = (0, b) := by
  constructor
  · show (if (0 : Int) = b then ((0 : Int), (0 : Int)) else if (0 : Int) = 0 then (a, 0) else _) = _
    rw [if_neg (by omega), if_pos rfl]
  · show (if (0 : Int) = a then ((0 : Int), (0 : Int)) else if (0 : Int) = 0 then (0, b) else _) = _
    rw [if_neg (by omega), if_pos rfl]
/-- all that is reached lies on the ring, but for both jugs full -/
theorem rch_two {a b : Int} (ha : 1 ≤ a) (hb : 1 ≤ b) : ∀ {n : Nat} {F : List Int}, Rch [a, b, 0, 0] (stepsL (-1) 3) [0, 0, 0, 0] n F → ∃ s : Int × Int, F = [s.1, s.2, 0, 0] ∧ ((∃ i, i ≤ n ∧ s = orb true a b i) ∨ (∃ i, i ≤ n ∧ s = orb false a b i) ∨ (s = (a, b) ∧ 2 ≤ n))
  | 0, F, h => by
    rw [Rch] at h; subst h
    exact ⟨(0, 0), rfl, .inl ⟨0, Nat.le_refl _, rfl⟩⟩
  | n + 1, G, ⟨F, (f, t), h1, h2, h3⟩ => by
    obtain ⟨s, rfl, hs⟩ := rch_two ha hb h1
    obtain ⟨o1, o2⟩ := orb_one ha hb
    dsimp only at h3
    have fin : ∀ r : Int × Int, (r = s ∨ r = (0, 0) ∨ r = (a, 0) ∨ r = (0, b)) → ((∃ i, i ≤ n + 1 ∧ r = orb true a b i) ∨ (∃ i, i ≤ n + 1 ∧ r = orb false a b i) ∨ (r = (a, b) ∧ 2 ≤ n + 1)) := fun r hr => by
      rcases hr with rfl | rfl | rfl | rfl
      · rcases hs with ⟨i, hi, h⟩ | ⟨i, hi, h⟩ | ⟨h, h'⟩
        · exact .inl ⟨i, by omega, h⟩
        · exact .inr (.inl ⟨i, by omega, h⟩)
        · exact .inr (.inr ⟨h, by omega⟩)
      · exact .inl ⟨0, by omega, rfl⟩
      · exact .inl ⟨1, by omega, o1.symm⟩
      · exact .inr (.inl ⟨1, by omega, o2.symm⟩)
    by_cases hc : s = (a, b) ∧ 2 ≤ n
    · obtain ⟨rfl, h2n⟩ := hc
      rw [steps3] at h2
      simp only [List.mem_cons, Prod.mk.injEq, List.not_mem_nil, or_false] at h2
      have e1 : min a 0 = 0 := by omega
      have e2 : min b 0 = 0 := by omega
      rcases h2 with ⟨rfl, rfl⟩ | ⟨rfl, rfl⟩ | ⟨rfl, rfl⟩ | ⟨rfl, rfl⟩ | ⟨rfl, rfl⟩ | ⟨rfl, rfl⟩
      · exact ⟨(a, b), by rw [h3]; simp [afterF], fin _ (.inl rfl)⟩
      · exact ⟨(a, b), by rw [h3]; simp [afterF], fin _ (.inl rfl)⟩
      · exact ⟨(0, b), by rw [h3]; simp [afterF], fin _ (.inr (.inr (.inr rfl)))⟩
      · exact ⟨(a, b), by rw [h3]; simp [afterF, e1], fin _ (.inl rfl)⟩
      · exact ⟨(a, 0), by rw [h3]; simp [afterF], fin _ (.inr (.inr (.inl rfl)))⟩
      · exact ⟨(a, b), by rw [h3]; simp [afterF, e2], fin _ (.inl rfl)⟩
    · have hE : Edge a b s := by
        rcases hs with ⟨i, _, rfl⟩ | ⟨i, _, rfl⟩ | h
        · exact orb_edge ha hb true i
        · exact orb_edge ha hb false i
        · exact absurd h hc
      obtain ⟨r, hr, hcase⟩ := one_move ha hb hE h2
      refine ⟨r, h3.trans hr, ?_⟩
      rcases hcase with h | h | h | h | h | h | ⟨h, hne⟩
      · exact fin r (.inl h)
      · rcases hs with ⟨i, hi, rfl⟩ | ⟨i, hi, rfl⟩ | h'
        · exact .inl ⟨i + 1, by omega, h⟩
        · rcases i with _ | i
          · exact .inl ⟨1, by omega, h⟩
          · exact .inr (.inl ⟨i, by omega, by rw [h]; exact orb_back ha hb false i⟩)
        · exact absurd h' hc
      · rcases hs with ⟨i, hi, rfl⟩ | ⟨i, hi, rfl⟩ | h'
        · rcases i with _ | i
          · exact .inr (.inl ⟨1, by omega, h⟩)
          · exact .inl ⟨i, by omega, by rw [h]; exact orb_back ha hb true i⟩
        · exact .inr (.inl ⟨i + 1, by omega, h⟩)
        · exact absurd h' hc
      · exact fin r (.inr (.inl h))
      · exact fin r (.inr (.inr (.inl h)))
      · exact fin r (.inr (.inr (.inr h)))
      · refine .inr (.inr ⟨h, ?_⟩)
        have : 1 ≤ n := by
          rcases Nat.eq_zero_or_pos n with h0 | h0
          · subst h0
            rw [Rch] at h1
            simp only [List.cons.injEq, and_true] at h1
            exact absurd (Prod.ext h1.1 h1.2) hne
          · exact h0
        omega
theorem orb_rch {a b : Int} (ha : 1 ≤ a) (hb : 1 ≤ b) (first : Bool) : ∀ k, Rch [a, b, 0, 0] (stepsL (-1) 3) [0, 0, 0, 0] k [(orb first a b k).1, (orb first a b k).2, 0, 0]
  | 0 => rfl
  | k + 1 => by
    refine ⟨_, stpF first a b (orb first a b k).1 (orb first a b k).2, orb_rch ha hb first k, ?_, ?_⟩
    · rw [steps3]
      unfold stpF
      cases first <;> simp only [if_true, Bool.false_eq_true, if_false] <;> repeat' split
      all_goals simp
    · rw [stp_after]; rfl
/-- the amounts on the ring are those that the greatest common divisor divides -/
theorem orb_dvd {a b : Int} (ha : 1 ≤ a) (hb : 1 ≤ b) (first : Bool) (k : Nat) : ((Nat.gcd a.toNat b.toNat : Nat) : Int) ∣ (orb first a b k).1 ∧ ((Nat.gcd a.toNat b.toNat : Nat) : Int) ∣ (orb first a b k).2 := by
  have hda : ((Nat.gcd a.toNat b.toNat : Nat) : Int) ∣ a := by
    have := Int.natCast_dvd_natCast.2 (Nat.gcd_dvd_left a.toNat b.toNat)
    rwa [Int.toNat_of_nonneg (by omega : 0 ≤ a)] at this
  have hdb : ((Nat.gcd a.toNat b.toNat : Nat) : Int) ∣ b := by
    have := Int.natCast_dvd_natCast.2 (Nat.gcd_dvd_right a.toNat b.toNat)
    rwa [Int.toNat_of_nonneg (by omega : 0 ≤ b)] at this
  have h := rch_dvd (P := [a, b, 0, 0]) (ls := -1) (m := 3) (.inl rfl) (by decide) (g := ((Nat.gcd a.toNat b.toNat : Nat) : Int)) (fun i hi => by
    match i, hi with
    | 0, _ => exact hda
    | 1, _ => exact hdb
    | 2, _ => exact Int.dvd_zero _
    | 3, _ => exact Int.dvd_zero _) (orb_rch ha hb first k)
  exact ⟨h.2 0 (by omega), h.2 1 (by omega)⟩
theorem two_reached {a b : Int} (ha : 1 ≤ a) (hb : 1 ≤ b) (k : Nat) (hk : Nat.gcd a.toNat b.toNat ∣ k) (hkm : (k : Int) ≤ max a b) : ∃ n s, Rch [a, b, 0, 0] (stepsL (-1) 3) [0, 0, 0, 0] n [s.1, s.2, 0, 0] ∧ hasS (k : Int) s := by
  have main : ∀ (M i : Nat) (m c : Nat), M < 2 → i < 2 → i ≠ M → ([a, b, 0, 0] : List Int).getD M 0 = (m : Int) → ([a, b, 0, 0] : List Int).getD i 0 = (c : Int) → c ≤ m → 1 ≤ m → Nat.gcd c m ∣ k → k ≤ m → ∃ n, Rch [a, b, 0, 0] (stepsL (-1) 3) [0, 0, 0, 0] n (eF M (k : Int)) := fun M i m c hM hi hne e1 e2 hcm hm1 hd hkm => by
    have e0 : RE [a, b, 0, 0] (stepsL (-1) 3) M 0 := ⟨0, by
      rw [Rch]
      rcases (show M = 0 ∨ M = 1 by omega) with rfl | rfl <;> rfl⟩
    have c1 : Cl (RE [a, b, 0, 0] (stepsL (-1) 3) M) m c := fun x hx => by
      have := re_step (P := [a, b, 0, 0]) (n := 2) (by omega) hM hi hne e1 e2 hcm (Nat.mod_lt x (by omega)) hx
      rwa [Nat.mod_add_mod] at this
    have c2 : Cl (RE [a, b, 0, 0] (stepsL (-1) 3) M) m m := fun x hx => by rwa [Nat.add_mod_right]
    have c3 := Cl.gcd (by omega) c c m (Nat.le_refl _) c1 c2
    rcases Nat.lt_or_ge k m with h | h
    · have := c3.mul (k / Nat.gcd c m) 0 (by rw [Nat.zero_mod]; exact e0)
      rw [Nat.div_mul_cancel hd, Nat.zero_add, Nat.mod_eq_of_lt h] at this
      exact this
    · obtain rfl : k = m := by omega
      refine ⟨1, [0, 0, 0, 0], (-1, (M : Int)), rfl, step_isin (by omega) (by omega) (by omega), ?_⟩
      rcases (show M = 0 ∨ M = 1 by omega) with rfl | rfl
      · have : a = (k : Int) := e1
        simp [eF, afterF, this]
      · have : b = (k : Int) := e1
        simp [eF, afterF, this]
  rcases Int.le_total a b with h | h
  · obtain ⟨n, hn⟩ := main 1 0 b.toNat a.toNat (by omega) (by omega) (by omega) (by show b = _; omega) (by show a = _; omega) (by omega) (by omega) hk (by omega)
    exact ⟨n, (0, (k : Int)), hn, .inr rfl⟩
  · obtain ⟨n, hn⟩ := main 0 1 a.toNat b.toNat (by omega) (by omega) (by omega) (by show a = _; omega) (by show b = _; omega) (by omega) (by omega) (by rw [Nat.gcd_comm]; exact hk) (by omega)
    exact ⟨n, ((k : Int), 0), hn, .inl rfl⟩
theorem orb_turn {a b : Int} (ha : 1 ≤ a) (hb : 1 ≤ b) (f : Bool) {p : Nat} (hp : orb f a b p = (0, 0)) : ∀ d, d ≤ p → orb (!f) a b d = orb f a b (p - d)
  | 0, _ => by rw [Nat.sub_zero, hp]; rfl
  | d + 1, h => by
    rw [orb, orb_turn ha hb f hp d (by omega)]
    have := orb_back ha hb f (p - (d + 1))
    rw [show p - (d + 1) + 1 = p - d by omega] at this
    exact this
theorem has_turn {a b amt : Int} (ha : 1 ≤ a ∧ a ≤ 1000) (hb : 1 ≤ b ∧ b ≤ 1000) (f : Bool) (h : ∃ i, hasS amt (orb f a b i)) : ∃ i, hasS amt (orb (!f) a b i) := by
  obtain ⟨i, hi⟩ := h
  obtain ⟨j, _, h2, h3⟩ := least_nat (p := fun i => hasS amt (orb f a b i)) i hi
  obtain ⟨p, p1, p2, p3⟩ := orb_period ha hb f
  have hjp : j < p := by
    rcases Nat.lt_or_ge j p with h | h
    · exact h
    · have := orb_shift p3 (j - p)
      rw [show p + (j - p) = j by omega] at this
      rw [this] at h2
      exact absurd h2 (h3 _ (by omega))
  refine ⟨p - j, ?_⟩
  rw [orb_turn ha.1 hb.1 f p3 (p - j) (by omega), show p - (p - j) = j by omega]
  exact h2
/-- an amount that is measured is met by both ways round -/
theorem ring_meets {a b amt : Int} (ha : 1 ≤ a ∧ a ≤ 1000) (hb : 1 ≤ b ∧ b ≤ 1000) (first : Bool) {n : Nat} {s : Int × Int} (h : Rch [a, b, 0, 0] (stepsL (-1) 3) [0, 0, 0, 0] n [s.1, s.2, 0, 0]) (hs : hasS amt s) : ∃ i, hasS amt (orb first a b i) := by
  obtain ⟨s', he, hc⟩ := rch_two ha.1 hb.1 h
  simp only [List.cons.injEq, and_true] at he
  obtain rfl : s = s' := Prod.ext he.1 he.2
  obtain ⟨o1, o2⟩ := orb_one ha.1 hb.1
  have hT : (∃ i, hasS amt (orb true a b i)) ∨ (∃ i, hasS amt (orb false a b i)) := by
    rcases hc with ⟨i, _, rfl⟩ | ⟨i, _, rfl⟩ | ⟨rfl, _⟩
    · exact .inl ⟨i, hs⟩
    · exact .inr ⟨i, hs⟩
    · rcases hs with h | h
      · exact .inl ⟨1, by rw [o1]; exact .inl h⟩
      · exact .inr ⟨1, by rw [o2]; exact .inr h⟩
  cases first
  · rcases hT with h | h
    · exact has_turn ha hb true h
    · exact h
  · rcases hT with h | h
    · exact h
    · exact has_turn ha hb false h
theorem two_yes {a b amt : Int} (ha : 1 ≤ a ∧ a ≤ 1000) (hb : 1 ≤ b ∧ b ≤ 1000) (h0 : 0 ≤ amt ∧ amt ≤ max a b) (hd : Nat.gcd a.toNat b.toNat ∣ amt.toNat) (first : Bool) :
    ∃ j, j < 4004 ∧ hasS amt (orb first a b j) ∧ (∀ i, i < j → ¬ hasS amt (orb first a b i)) ∧ ringL first a b amt 4005 0 0 [] = some (wayL first a b j, true) := by
  obtain ⟨n, s, h1, h2⟩ := two_reached ha.1 hb.1 amt.toNat hd (by omega)
  rw [Int.toNat_of_nonneg h0.1] at h2
  exact ring_yes ha hb first (ring_meets ha hb first h1 h2)
theorem two_no {a b amt : Int} (ha : 1 ≤ a ∧ a ≤ 1000) (hb : 1 ≤ b ∧ b ≤ 1000) (h0 : 0 ≤ amt) (hd : ¬ Nat.gcd a.toNat b.toNat ∣ amt.toNat) (first : Bool) : ringL first a b amt 4005 0 0 [] = some ([], false) := by
  refine ring_no ha hb first fun i hi => hd ?_
  obtain ⟨d1, d2⟩ := orb_dvd ha.1 hb.1 first i
  have : ((Nat.gcd a.toNat b.toNat : Nat) : Int) ∣ ((amt.toNat : Nat) : Int) := by
    rw [Int.toNat_of_nonneg h0]
    rcases hi with h | h
    · rw [← h]; exact d1
    · rw [← h]; exact d2
  exact Int.natCast_dvd_natCast.1 this
/-- no way is shorter than the shorter one of both -/
theorem two_min {a b amt : Int} (ha : 1 ≤ a) (hb : 1 ≤ b) {j1 j2 : Nat} (h1 : ∀ i, i < j1 → ¬ hasS amt (orb true a b i)) (h2 : ∀ i, i < j2 → ¬ hasS amt (orb false a b i)) {n : Nat} {F : List Int} (h : Rch [a, b, 0, 0] (stepsL (-1) 3) [0, 0, 0, 0] n F) (hF : holdsB 2 F amt = true) : min j1 j2 ≤ n := by
  obtain ⟨s, rfl, hc⟩ := rch_two ha hb h
  rw [holds2, decide_eq_true_eq] at hF
  obtain ⟨o1, o2⟩ := orb_one ha hb
  rcases hc with ⟨i, hi, rfl⟩ | ⟨i, hi, rfl⟩ | ⟨rfl, h2n⟩
  · have : ¬ i < j1 := fun h => h1 i h hF
    omega
  · have : ¬ i < j2 := fun h => h2 i h hF
    omega
  · rcases hF with h | h
    · have : ¬ 1 < j1 := fun h' => h1 1 h' (by rw [o1]; exact .inl h)
      omega
    · have : ¬ 1 < j2 := fun h' => h2 1 h' (by rw [o2]; exact .inr h)
      omega
/-! both jugs exchanged -/
def swI (z : Int) : Int := if z = -1 then -1 else 1 - z
def swS (p : Int × Int) : Int × Int := (swI p.1, swI p.2)
theorem nxt_sw (f : Bool) (a b x y : Int) : nxtF (!f) b a y x = ((nxtF f a b x y).2, (nxtF f a b x y).1) := by
  cases f <;> unfold nxtF <;> simp only [Bool.not_false, Bool.not_true, if_true, Bool.false_eq_true, if_false] <;> repeat' split
  all_goals rfl
theorem stp_sw (f : Bool) (a b x y : Int) : stpF (!f) b a y x = swS (stpF f a b x y) := by
  cases f <;> unfold stpF <;> simp only [Bool.not_false, Bool.not_true, if_true, Bool.false_eq_true, if_false] <;> repeat' split
  all_goals rfl
theorem ring_sw (f : Bool) (a b amt : Int) : ∀ (k : Nat) (x y : Int) (way : List (Int × Int)), ringL (!f) b a amt k y x (way.map swS) = (ringL f a b amt k x y way).map fun r => (r.1.map swS, r.2)
  | 0, _, _, _ => rfl
  | k + 1, x, y, way => by
    rw [ringL, ringL]
    by_cases h : x = amt ∨ y = amt
    · rw [if_pos h, if_pos h.symm]; rfl
    · rw [if_neg h, if_neg (fun e => h e.symm), nxt_sw]
      dsimp only
      by_cases h2 : nxtF f a b x y = (0, 0)
      · rw [if_pos h2, h2, if_pos rfl]; rfl
      · rw [if_neg h2, if_neg (fun e => h2 (by
          rw [Prod.mk.injEq] at e
          exact Prod.ext e.2 e.1)), stp_sw]
        have := ring_sw f a b amt k (nxtF f a b x y).1 (nxtF f a b x y).2 (way ++ [stpF f a b x y])
        rw [List.map_append] at this
        exact this
end Go.Proofs.Ytlamppplnojpbaa
