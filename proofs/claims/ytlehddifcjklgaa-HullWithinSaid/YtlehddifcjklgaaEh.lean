import Derived.Test.YtlehddifcjklgaaEg
import Derived.Maps.OwnIn
import Derived.Maps.OwnSet
import Derived.Maps.AppendAt
import Derived.RangeFuncNested
import Derived.RangeFuncBound
import Derived.RangeFuncCalls
import Derived.RangeFuncLeaves
import Derived.Shelf.Abstract
import Derived.Shelf.RegionOpen
import Derived.WalkKit
import Derived.OwnWalkIn
import Derived.TacticsInMore
import Derived.LoopNIn
import Derived.LoopIn
import Derived.WalkMore
import Derived.Sort.QuietThIn
import Derived.Sort.QuietTacIn
import Derived.Sort.BigQuietIn
import Derived.WalkSpells
import Derived.WalkLawsBesides
import Derived.BigQuiet
import Derived.Deep.QuietTactic
import Derived.Lib.Hide
import Derived.Deep.RegionHeld3
import Derived.StillTailTactics
import Derived.Deep.LoopGhost
import Derived.Lib.IndexAny
namespace Go.Proofs.Ytlehddifcjklgaa
open Go.RowKit Go.Shelf
attribute [local go_sem] Oper.semAt_some
/-! both ways together go round -/
/-- forwards: from a, each the best of S and ahead -/
def Fw (d : Pt) (S : List Pt) : Pt → List Pt → Prop
  | _, [] => True
  | a, n :: r => Half d (mn n a) ∧ Best S a n ∧ Fw d S n r
theorem adj_fw {d : Pt} {T : List Pt} : ∀ (r : List Pt) (b : Pt) (zs : List Pt), Adj d T (b :: r) → Fw d T b zs → ∃ f ys, (b :: r).reverse ++ zs = f :: ys ∧ Fw d T f ys ∧ (b :: r).getLast? = some f
  | [], b, zs, _, hz => ⟨b, zs, rfl, hz, rfl⟩
  | a :: r, b, zs, ha, hz => by
    obtain ⟨h1, h2, h3⟩ := ha
    obtain ⟨f, ys, e, e2, e3⟩ := adj_fw r a (b :: zs) h3 ⟨h1, h2, hz⟩
    refine ⟨f, ys, ?_, e2, by rw [List.getLast?_cons_cons]; exact e3⟩
    rw [← e]; simp
theorem fw_ahead {d : Pt} (hd : d = (0, -1) ∨ d = (0, 1)) {S : List Pt} : ∀ (ys : List Pt) (a : Pt), Fw d S a ys → ∀ y ∈ ys, Half d (mn y a)
  | [], _, _, y, hy => by simp at hy
  | n :: r, a, h, y, hy => by
    obtain ⟨h1, h2, h3⟩ := h
    rcases List.mem_cons.1 hy with e | hy
    · rw [e]; exact h1
    · exact half_add hd (fw_ahead hd r n h3 y hy) h1
theorem fw_split {d : Pt} (hd : d = (0, -1) ∨ d = (0, 1)) {S : List Pt} {f : Pt} : ∀ (m : List Pt) (a : Pt), Fw d S a (m ++ [f]) → Fw d S a m ∧ (∀ y ∈ a :: m, Half d (mn f y)) ∧ (∀ l, (a :: m).getLast? = some l → Best S l f)
  | [], a, h => by
    obtain ⟨h1, h2, _⟩ := h
    exact ⟨trivial, fun y hy => by rw [List.mem_singleton.1 hy]; exact h1, fun l hl => by simp at hl; subst hl; exact h2⟩
  | n :: r, a, h => by
    obtain ⟨h1, h2, h3⟩ := h
    obtain ⟨g1, g2, g3⟩ := fw_split hd r n h3
    refine ⟨⟨h1, h2, g1⟩, fun y hy => ?_, fun l hl => g3 l (by rw [List.getLast?_cons_cons] at hl; exact hl)⟩
    rcases List.mem_cons.1 hy with e | hy
    · rw [e]; exact half_add hd (g2 n (by simp)) h1
    · exact g2 y hy
theorem way_run {d : Pt} {S : List Pt} {f : Pt} : ∀ (ys os : List Pt) (a : Pt), Way S os f a → Fw d S a ys → (∀ y ∈ ys, y ≠ f) → ∃ l, Way S (os ++ ys) f l ∧ (a :: ys).getLast? = some l
  | [], os, a, h, _, _ => ⟨a, by simpa using h, rfl⟩
  | n :: r, os, a, h, hf, hy => by
    obtain ⟨h1, h2, h3⟩ := hf
    obtain ⟨l, k1, k2⟩ := way_run r (os ++ [n]) n (h.step h2 (hy n (by simp))) h3 (fun y hm => hy y (List.mem_cons_of_mem _ hm))
    refine ⟨l, ?_, by rw [List.getLast?_cons_cons]; exact k2⟩
    have e : os ++ n :: r = os ++ [n] ++ r := by simp
    rw [e]; exact k1
theorem fw_mem {d : Pt} {S T : List Pt} (h : ∀ q, q ∈ S ↔ q ∈ T) : ∀ (ys : List Pt) (a : Pt), Fw d S a ys → Fw d T a ys
  | [], _, _ => trivial
  | n :: r, a, hf => by
    obtain ⟨h1, ⟨b1, b2, b3⟩, h3⟩ := hf
    exact ⟨h1, ⟨(h n).1 b1, b2, fun q hq => b3 q ((h q).2 hq)⟩, fw_mem h r n h3⟩
theorem half_opp {a b : Pt} (h : Half (0, -1) (mn a b)) : Half (0, 1) (mn b a) := by
  obtain ⟨a1, a2⟩ := a
  obtain ⟨b1, b2⟩ := b
  unfold Half crs dt mn at *; dsimp only at *; omega
/-- what the program lays together -/
def arnd (s : List Pt) : List Pt := (s.foldl leftR []).reverse.dropLast ++ (s.reverse.foldl leftR []).reverse.dropLast
theorem arnd_cyc {f g : Pt} {r : List Pt} (h : Ahead (0, -1) (f :: g :: r)) : Cyc (f :: g :: r) (arnd (f :: g :: r)) ∧ (arnd (f :: g :: r)).head? = some f := by
  have hd : ((0, -1) : Pt) = (0, -1) ∨ ((0, -1) : Pt) = (0, 1) := .inl rfl
  have hd' : ((0, 1) : Pt) = (0, -1) ∨ ((0, 1) : Pt) = (0, 1) := .inr rfl
  obtain ⟨l, A⟩ := left_inv hd h
  have hgf : Half (0, -1) (mn g f) := (List.pairwise_cons.1 h).1 g (by simp)
  have hlf : l ≠ f := by
    rintro rfl
    exact half_asym hd hgf (A.mx g (by simp) (half_ne hd hgf))
  have hrev : Ahead (0, 1) (f :: g :: r).reverse := List.pairwise_reverse.2 (h.imp (fun k => half_opp k))
  unfold arnd
  generalize hS : f :: g :: r = S at *
  have hne : S.reverse ≠ [] := by rw [← hS]; simp
  obtain ⟨f2, s2, hs2⟩ := List.exists_cons_of_ne_nil hne
  rw [hs2] at hrev
  obtain ⟨l2, B⟩ := left_inv hd' hrev
  rw [← hs2] at B
  have hmem : ∀ q, q ∈ S.reverse ↔ q ∈ S := fun q => List.mem_reverse
  obtain ⟨rA, eA⟩ := A.hd
  obtain ⟨rB, eB⟩ := B.hd
  have hlS : l ∈ S := A.sub l (by rw [eA]; simp)
  have hfS : f ∈ S := by rw [← hS]; simp
  have hf2 : f2 ∈ S := (hmem f2).1 (by rw [hs2]; simp)
  have hl2 : l2 ∈ S := (hmem l2).1 (B.sub l2 (by rw [eB]; simp))
  have e1 : f2 = l := by
    rcases Classical.em (f2 = l) with e | e
    · exact e
    · exact absurd (half_opp (A.mx f2 hf2 e)) (fun k => half_asym hd' k (B.mn l ((hmem l).2 hlS) (fun x => e x.symm)))
  have e2 : l2 = f := by
    rcases Classical.em (l2 = f) with e | e
    · exact e
    · exact absurd (half_opp (A.mn l2 hl2 e)) (fun k => half_asym hd' k (B.mx f ((hmem f).2 hfS) (fun x => e x.symm)))
  subst e1
  subst e2
  have aA := A.adj
  have aB := B.adj
  have lA := A.lt
  have lB := B.lt
  rw [eA] at aA lA
  rw [eB] at aB lB
  rw [eA, eB]
  obtain ⟨f', ys, j1, j2, j3⟩ := adj_fw rA f2 [] aA trivial
  obtain ⟨l', zs, k1, k2, k3⟩ := adj_fw rB l2 [] aB trivial
  rw [lA] at j3
  rw [lB] at k3
  simp only [Option.some.injEq] at j3 k3
  subst j3
  subst k3
  rw [List.append_nil] at j1 k1
  have j2' := j2
  have k2' := fw_mem hmem zs f2 k2
  rw [j1, k1]
  have hW := Way.start (S := S) hfS ⟨(0, -1), fun p hp hpf => A.mn p hp hpf⟩
  obtain ⟨a, W1, W2⟩ := way_run ys [l2] l2 hW j2 (fun y hy => half_ne hd (fw_ahead hd ys l2 j2 y hy))
  have hla : a = f2 := by
    rw [← j1, List.getLast?_reverse] at W2
    simp only [List.head?_cons, Option.some.injEq] at W2
    exact W2.symm
  subst hla
  have hz : ∃ m, zs = m ++ [l2] := by
    rcases List.eq_nil_or_concat zs with e | ⟨m, x, e⟩
    · subst e
      have := congrArg List.head? k1
      have hh := congrArg List.getLast? k1
      rw [List.getLast?_reverse] at hh
      simp only [List.head?_cons, List.getLast?_singleton, Option.some.injEq] at hh
      exact absurd hh.symm hlf
    · refine ⟨m, ?_⟩
      have hh := congrArg List.getLast? k1
      rw [List.getLast?_reverse, e] at hh
      rw [e]
      simp only [List.concat_eq_append, List.head?_cons] at hh ⊢
      rw [show a :: (m ++ [x]) = (a :: m) ++ [x] from rfl, List.getLast?_append] at hh
      simp only [List.getLast?_singleton, Option.some_or, Option.some.injEq] at hh
      rw [hh]
  obtain ⟨m, rfl⟩ := hz
  obtain ⟨s1, s2', s3⟩ := fw_split hd' m a k2'
  obtain ⟨z, W3, W4⟩ := way_run m _ a W1 s1 (fun y hy => fun e => by
    have := s2' y (List.mem_cons_of_mem _ hy)
    exact half_ne hd' this e.symm)
  have hC := W3.close (s3 z W4)
  have hb : (l2 :: ys).dropLast ++ (a :: (m ++ [l2])).dropLast = [l2] ++ ys ++ m := by
    have d1 : (a :: (m ++ [l2])).dropLast = a :: m := by
      rw [show a :: (m ++ [l2]) = (a :: m) ++ [l2] from rfl, List.dropLast_concat]
    have d2 : (l2 :: ys).dropLast ++ [a] = l2 :: ys := by
      obtain ⟨w, hw⟩ := List.getLast?_eq_some_iff.1 W2
      rw [hw, List.dropLast_concat]
    rw [d1, show a :: m = [a] ++ m from rfl, ← List.append_assoc, d2]; rfl
  rw [hb]
  exact ⟨hC, rfl⟩
end Go.Proofs.Ytlehddifcjklgaa
