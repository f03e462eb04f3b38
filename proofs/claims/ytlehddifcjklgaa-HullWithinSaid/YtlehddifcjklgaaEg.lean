import Derived.Test.YtlehddifcjklgaaEe
import Derived.Maps.OwnIn
import Derived.Maps.OwnSet
import Derived.Maps.AppendAt
import Derived.RangeFuncNested
import Derived.RangeFuncBound
import Derived.RangeFuncCalls
import Derived.RangeFuncLeaves
import Derived.Shelf.Abstract
import Derived.Shelf.RegionOpen
import Derived.WalkKit
import Derived.OwnWalkIn
import Derived.TacticsInMore
import Derived.LoopNIn
import Derived.LoopIn
import Derived.WalkMore
import Derived.Sort.QuietThIn
import Derived.Sort.QuietTacIn
import Derived.Sort.BigQuietIn
import Derived.WalkSpells
import Derived.WalkLawsBesides
import Derived.BigQuiet
import Derived.Deep.QuietTactic
import Derived.Lib.Hide
import Derived.Deep.RegionHeld3
import Derived.StillTailTactics
import Derived.Deep.LoopGhost
import Derived.Lib.IndexAny
namespace Go.Proofs.Ytlehddifcjklgaa
open Go.RowKit Go.Shelf
attribute [local go_sem] Oper.semAt_some
/-! the way along sorted points: each step is the best of all points so far -/
theorem ht_lt {d u v w : Pt} (hu : Half d u) (hv : Half d v) (hw : Half d w) (h1 : 0 ≤ crs u v) (h2 : 0 < crs v w) : 0 < crs u w := by
  have h := half_trans hu hv hw h1 (Int.le_of_lt h2)
  rcases Int.lt_or_eq_of_le h with h | h
  · exact h
  · have := (ray_sign hw hu (n := v) (by rw [crs_anti, ← h]; rfl)).2 h2
    rw [crs_anti] at this; omega
theorem half_tot {d : Pt} (hd : d = (0, -1) ∨ d = (0, 1)) {a b : Pt} (h : a ≠ b) : Half d (mn a b) ∨ Half d (mn b a) := by
  obtain ⟨a1, a2⟩ := a
  obtain ⟨b1, b2⟩ := b
  have hne : ¬ (a1 = b1 ∧ a2 = b2) := fun e => h (Prod.ext e.1 e.2)
  rcases hd with rfl | rfl <;> (unfold Half crs dt mn; dsimp only; omega)
theorem half_asym {d : Pt} (hd : d = (0, -1) ∨ d = (0, 1)) {a b : Pt} (h : Half d (mn a b)) (h2 : Half d (mn b a)) : False := by
  obtain ⟨a1, a2⟩ := a
  obtain ⟨b1, b2⟩ := b
  rcases hd with rfl | rfl <;> (unfold Half crs dt mn at h h2; dsimp only at h h2; omega)
theorem half_ne {d : Pt} (hd : d = (0, -1) ∨ d = (0, 1)) {a b : Pt} (h : Half d (mn a b)) : a ≠ b := by
  rintro rfl; exact half_asym hd h h
theorem half_add {d : Pt} (hd : d = (0, -1) ∨ d = (0, 1)) {a b c : Pt} (h : Half d (mn a b)) (h2 : Half d (mn b c)) : Half d (mn a c) := by
  obtain ⟨a1, a2⟩ := a
  obtain ⟨b1, b2⟩ := b
  obtain ⟨c1, c2⟩ := c
  rcases hd with rfl | rfl <;> (unfold Half crs dt mn at h h2 ⊢; dsimp only at h h2 ⊢; omega)
/-- steps of a way (its last point first): all to the best of T -/
def Adj (d : Pt) (T : List Pt) : List Pt → Prop
  | b :: a :: r => Half d (mn b a) ∧ Best T a b ∧ Adj d T (a :: r)
  | _ => True
def Hd (st : List Pt) (p : Pt) : Prop := ∀ b a r, st = b :: a :: r → 0 < crs (mn b a) (mn p a)
def Pn (d : Pt) (T : List Pt) (p h : Pt) : Prop := ∀ q ∈ T, Half d (mn q h) → 0 ≤ crs (mn p h) (mn q h) ∧ (crs (mn p h) (mn q h) = 0 → dt (mn q h) (mn q h) ≤ dt (mn p h) (mn p h))
theorem best_add {T : List Pt} {a b p : Pt} (h : Best T a b) (hp : 0 < crs (mn b a) (mn p a)) : Best (T ++ [p]) a b := by
  obtain ⟨h1, h2, h3⟩ := h
  refine ⟨List.mem_append_left _ h1, h2, fun q hq hqa => ?_⟩
  rcases List.mem_append.1 hq with hq | hq
  · exact h3 q hq hqa
  · rw [List.mem_singleton.1 hq]; exact ⟨Int.le_of_lt hp, fun e => by omega⟩
theorem adj_keep {d : Pt} (hd : d = (0, -1) ∨ d = (0, 1)) {T : List Pt} {p : Pt} (hT : ∀ q ∈ T, Half d (mn p q)) : ∀ st, (∀ q ∈ st, q ∈ T) → Adj d T st → Hd st p → Adj d (T ++ [p]) st
  | [], _, _, _ => trivial
  | [_], _, _, _ => trivial
  | c :: b :: r, hs, ha, hh => by
    obtain ⟨h1, h2, h3⟩ := ha
    have hc := hh c b r rfl
    refine ⟨h1, best_add h2 hc, adj_keep hd hT (b :: r) (fun q hq => hs q (List.mem_cons_of_mem _ hq)) h3 ?_⟩
    intro b' a r' e
    simp only [List.cons.injEq] at e
    obtain ⟨rfl, rfl⟩ := e
    obtain ⟨k1, k2, k3⟩ := h3
    have hcT : c ∈ T := hs c (by simp)
    have hbT : b ∈ T := hs b (by simp)
    have haT : a ∈ T := hs a (by simp)
    have hca : Half d (mn c a) := half_add hd h1 k1
    obtain ⟨g, _⟩ := k2.2.2 c hcT (half_ne hd hca)
    have e1 : crs (mn b a) (mn c a) = crs (mn b a) (mn c b) := by unfold crs mn; grind
    have e2 : crs (mn b a) (mn p a) = crs (mn b a) (mn p b) := by unfold crs mn; grind
    rw [e2]
    exact ht_lt k1 h1 (hT b hbT) (by rw [← e1]; exact g) hc
/-- on one line, the farther ahead the farther away -/
theorem dt_near {d : Pt} (_hd : d = (0, -1) ∨ d = (0, 1)) {a p q : Pt} (h1 : Half d (mn q a)) (_h2 : Half d (mn p a)) (h3 : Half d (mn p q)) (hz : crs (mn p a) (mn q a) = 0) : dt (mn q a) (mn q a) ≤ dt (mn p a) (mn p a) := by
  have hz' : crs (mn q a) (mn p q) = 0 := by
    have e : crs (mn q a) (mn p q) = - crs (mn p a) (mn q a) := by unfold crs mn; grind
    rw [e, hz]; rfl
  have hr := half_ray h1 h3 hz'
  have e : dt (mn p a) (mn p a) = dt (mn q a) (mn q a) + 2 * dt (mn q a) (mn p q) + dt (mn p q) (mn p q) := by unfold dt mn; grind
  have := dt_pos' h3.ne.2
  omega
theorem pop_adj {d : Pt} (hd : d = (0, -1) ∨ d = (0, 1)) {T : List Pt} {p : Pt} (hT : ∀ q ∈ T, Half d (mn p q)) : ∀ st b0 r0, st = b0 :: r0 → (∀ q ∈ st, q ∈ T) → Adj d T st → Pn d T p b0 →
    ∃ h r, popR st p = h :: r ∧ Adj d T (h :: r) ∧ Pn d T p h ∧ Hd (h :: r) p ∧ (h :: r).getLast? = st.getLast?
  | [], _, _, e, _, _, _ => by simp at e
  | [x], b0, r0, e, _, _, hP => by
    simp only [List.cons.injEq] at e
    obtain ⟨rfl, rfl⟩ := e
    exact ⟨x, [], rfl, trivial, hP, fun b a r e => by simp at e, rfl⟩
  | b :: a :: r, b0, r0, e, hs, ha, hP => by
    simp only [List.cons.injEq] at e
    obtain ⟨rfl, rfl⟩ := e
    obtain ⟨h1, h2, h3⟩ := ha
    unfold popR
    by_cases hl : lft a b p = true
    · rw [if_pos hl]
      refine ⟨b, a :: r, rfl, ⟨h1, h2, h3⟩, hP, ?_, rfl⟩
      intro b' a' r' e
      simp only [List.cons.injEq] at e
      obtain ⟨rfl, rfl, rfl⟩ := e
      unfold lft at hl; exact of_decide_eq_true hl
    · rw [if_neg hl]
      have haT : a ∈ T := hs a (by simp)
      have hbT : b ∈ T := hs b (by simp)
      have hl' : 0 ≤ crs (mn p a) (mn b a) := by
        unfold lft at hl
        have := of_decide_eq_false (Bool.eq_false_iff.2 hl)
        rw [crs_anti]; omega
      have := pop_adj hd hT (a :: r) a r rfl (fun q hq => hs q (List.mem_cons_of_mem _ hq)) h3 (fun q hq hqa => by
        obtain ⟨g, _⟩ := h2.2.2 q hq (half_ne hd hqa)
        refine ⟨half_trans (hT a haT) h1 hqa hl' g, fun hz => ?_⟩
        exact dt_near hd hqa (hT a haT) (hT q hq) hz)
      rw [List.getLast?_cons_cons]
      exact this
theorem best_new {d : Pt} (hd : d = (0, -1) ∨ d = (0, 1)) {T r : List Pt} {p h f : Pt} (hT : ∀ q ∈ T, Half d (mn p q)) (hs : ∀ q ∈ h :: r, q ∈ T) (ha : Adj d T (h :: r)) (hP : Pn d T p h) (hh : Hd (h :: r) p) (hf : ∀ q ∈ T, q ≠ f → Half d (mn q f)) (hl : (h :: r).getLast? = some f) : Best (T ++ [p]) h p := by
  have hhT : h ∈ T := hs h (by simp)
  refine ⟨by simp, half_ne hd (hT h hhT), fun q hq hqh => ?_⟩
  rcases List.mem_append.1 hq with hq | hq
  · rcases half_tot hd hqh with hg | hg
    · exact hP q hq hg
    · cases r with
      | nil =>
        simp at hl; subst hl
        exact absurd hg (fun e => half_asym hd (hf q hq hqh) e)
      | cons a r =>
        have hc := hh h a r rfl
        obtain ⟨k1, k2, k3⟩ := ha
        have haT : a ∈ T := hs a (by simp)
        have key : 0 < crs (mn h q) (mn p h) := by
          refine ht_lt hg k1 (hT h hhT) ?_ (by
            have e : crs (mn h a) (mn p a) = crs (mn h a) (mn p h) := by unfold crs mn; grind
            rw [← e]; exact hc)
          by_cases hqa : q = a
          · subst hqa; rw [crs_self]; omega
          · obtain ⟨g, _⟩ := k2.2.2 q hq hqa
            have e : crs (mn h q) (mn h a) = crs (mn h a) (mn q a) := by unfold crs mn; grind
            rw [e]; exact g
        have e : crs (mn p h) (mn q h) = crs (mn h q) (mn p h) := by unfold crs mn; grind
        rw [e]; exact ⟨Int.le_of_lt key, fun h => by omega⟩
  · rw [List.mem_singleton.1 hq]; exact ⟨by rw [crs_self]; omega, fun _ => Int.le_refl _⟩
structure Inv3 (d : Pt) (T st : List Pt) (f l : Pt) : Prop where
  sub : ∀ q ∈ st, q ∈ T
  adj : Adj d T st
  hd : ∃ r, st = l :: r
  lt : st.getLast? = some f
  mn : ∀ q ∈ T, q ≠ f → Half d (mn q f)
  mx : ∀ q ∈ T, q ≠ l → Half d (Go.Proofs.Ytlehddifcjklgaa.mn l q)
theorem Inv3.step {d : Pt} (hd : d = (0, -1) ∨ d = (0, 1)) {T st : List Pt} {f l p : Pt} (h : Inv3 d T st f l) (hT : ∀ q ∈ T, Half d (Go.Proofs.Ytlehddifcjklgaa.mn p q)) : Inv3 d (T ++ [p]) (leftR st p) f p := by
  obtain ⟨r, hr⟩ := h.hd
  obtain ⟨b, r', e1, e2, e3, e4, e5⟩ := pop_adj hd hT st l r hr h.sub h.adj (fun q hq hg => by
    exact absurd (h.mx q hq (half_ne hd hg)) (fun e => half_asym hd hg e))
  have hs : ∀ q ∈ b :: r', q ∈ T := fun q hq => h.sub q (popR_sub st p q (by rw [e1]; exact hq))
  have hB := best_new hd hT hs e2 e3 e4 h.mn (by rw [e5]; exact h.lt)
  have hbT := hs b (by simp)
  have hfT : f ∈ T := h.sub f (List.mem_of_getLast? h.lt)
  refine ⟨fun q hq => ?_, ?_, ⟨_, rfl⟩, ?_, fun q hq hqf => ?_, fun q hq hql => ?_⟩
  · unfold leftR at hq
    rw [e1] at hq
    rcases List.mem_cons.1 hq with hq | hq
    · rw [hq]; simp
    · exact List.mem_append_left _ (hs q hq)
  · unfold leftR
    rw [e1]
    exact ⟨hT b hbT, hB, adj_keep hd hT _ hs e2 e4⟩
  · unfold leftR
    rw [e1, List.getLast?_cons_cons, e5]; exact h.lt
  · rcases List.mem_append.1 hq with hq | hq
    · exact h.mn q hq hqf
    · rw [List.mem_singleton.1 hq]; exact hT f hfT
  · rcases List.mem_append.1 hq with hq | hq
    · exact hT q hq
    · exact absurd (List.mem_singleton.1 hq) hql
/-- sorted the way of d: each later point is ahead of each earlier one -/
def Ahead (d : Pt) (ps : List Pt) : Prop := ps.Pairwise (fun q p => Half d (mn p q))
theorem inv3_fold {d : Pt} (hd : d = (0, -1) ∨ d = (0, 1)) : ∀ (ps T st : List Pt) (f l : Pt), Inv3 d T st f l → Ahead d (T ++ ps) → ∃ l', Inv3 d (T ++ ps) (ps.foldl leftR st) f l'
  | [], T, st, f, l, h, _ => ⟨l, by simpa using h⟩
  | p :: ps, T, st, f, l, h, ha => by
    have e : T ++ p :: ps = T ++ [p] ++ ps := by simp
    rw [e] at ha ⊢
    have hT : ∀ q ∈ T, Half d (mn p q) := fun q hq => by
      have := (List.pairwise_append.1 (List.pairwise_append.1 ha).1).2.2
      exact this q hq p (by simp)
    exact inv3_fold hd ps (T ++ [p]) (leftR st p) f p (h.step hd hT) ha
theorem left_inv {d : Pt} (hd : d = (0, -1) ∨ d = (0, 1)) {f : Pt} {ps : List Pt} (h : Ahead d (f :: ps)) : ∃ l, Inv3 d (f :: ps) ((f :: ps).foldl leftR []) f l := by
  have h0 : Inv3 d [f] [f] f f := ⟨fun q hq => hq, trivial, ⟨[], rfl⟩, rfl, fun q hq hn => absurd (List.mem_singleton.1 hq) hn, fun q hq hn => absurd (List.mem_singleton.1 hq) hn⟩
  exact inv3_fold hd ps [f] [f] f f h0 h
end Go.Proofs.Ytlehddifcjklgaa
