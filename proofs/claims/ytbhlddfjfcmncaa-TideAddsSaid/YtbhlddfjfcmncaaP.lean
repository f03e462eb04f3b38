import Derived.Test.YtbhlddfjfcmncaaO
import Derived.Test.YtbhlddfjfcmncaaIter
import Derived.Maps.OwnIn
import Derived.Maps.OwnSet
import Derived.Test.YtbhlddfjfcmncaaShelf
import Derived.RangeFuncNested
import Derived.RangeFuncBound
import Derived.RangeFuncCalls
import Derived.RangeFuncLeaves
import Derived.Shelf.Abstract
import Derived.Shelf.RegionOpen
import Derived.WalkKit
import Derived.OwnWalkIn
import Derived.TacticsInMore
import Derived.LoopNIn
import Derived.LoopIn
import Derived.WalkSpells
import Derived.WalkLawsBesides
import Derived.BigQuiet
import Derived.Deep.QuietTactic
import Derived.Lib.Hide
import Derived.Deep.RegionHeld3
import Derived.StillTailTactics
import Derived.Lib.MakeNoZero
import Derived.Laws.CopyOwn
import Derived.Deep.RegionLaw
import Derived.Deep.LoopGhost
import Derived.Lib.IndexAny
namespace Go.Proofs.Ytbhlddfjfcmncaa
open Go.RowKit Go.Shelf
attribute [local go_sem] Oper.semAt_some
theorem mem_ins {x p : Lit × DataW Unit} : ∀ l : List (Lit × DataW Unit), p ∈ DataW.insert x l → p = x ∨ p ∈ l
  | [], h => by simp [DataW.insert] at h; exact .inl h
  | y :: r, h => by
    unfold DataW.insert at h
    split at h
    · simp at h ⊢; exact h
    · rcases List.mem_cons.1 h with rfl | h
      · exact .inr (by simp)
      · rcases mem_ins r h with rfl | h
        · exact .inl rfl
        · exact .inr (List.mem_cons_of_mem _ h)

theorem gapSet_keys (acc : List Nat) : ∃ es, gapSet acc = .map es ∧ ∀ p ∈ es, ∃ x, p.1 = Lit.int .i64 x := by
  unfold gapSet Maps.setOf
  have key : ∀ (l : List Nat) (m : DataW Unit), (∃ es, m = .map es ∧ ∀ p ∈ es, ∃ x, p.1 = Lit.int .i64 x) → ∃ es, (l.map litI).foldl (fun m x => m.put x (.lit (.bool true))) m = .map es ∧ ∀ p ∈ es, ∃ x, p.1 = Lit.int .i64 x := by
    intro l
    induction l with
    | nil => intro m h; exact h
    | cons a l ih =>
      rintro m ⟨es, rfl, h⟩
      rw [List.map_cons, List.foldl_cons]
      apply ih
      refine ⟨_, rfl, fun p hp => ?_⟩
      rcases mem_ins _ hp with rfl | hp
      · exact ⟨_, rfl⟩
      · exact h p (List.mem_filter.1 hp).1
  exact key acc _ ⟨[], rfl, fun p hp => by cases hp⟩

/-- the gaps, rising, each once -/
def gapsOf (acc : List Nat) : List Nat := (List.range 200).filter fun d => acc.contains d

theorem isKey_lits (acc : List Nat) : ∀ x ∈ acc.map litI, WideAt.IsKeyLit x := by
  intro x hx; obtain ⟨n, _, rfl⟩ := List.mem_map.1 hx; trivial

theorem has_gapSet (acc : List Nat) (x : Int) : Maps.has (gapSet acc) (.int .i64 x) = true ↔ ∃ n ∈ acc, (n : Int) = x := by
  unfold gapSet
  rw [Maps.has_setOf _ _ _ (isKey_lits acc), List.any_eq_true]
  constructor
  · rintro ⟨y, hy, hk⟩
    obtain ⟨n, hn, rfl⟩ := List.mem_map.1 hy
    refine ⟨n, hn, ?_⟩
    simpa [litI, Lit.sameKey] using hk
  · rintro ⟨n, hn, rfl⟩
    exact ⟨litI n, List.mem_map.2 ⟨n, hn, rfl⟩, by simp [litI, Lit.sameKey]⟩

theorem sorted_gaps (acc : List Nat) (hacc : ∀ d ∈ acc, d < 200) (ss : List Int) (h : ss.Perm (intKeys (gapSet acc))) :
    ss.mergeSort (fun x y => decide (x ≤ y)) = (gapsOf acc).map (fun n : Nat => (n : Int)) := by
  obtain ⟨es, hes, hk⟩ := gapSet_keys acc
  obtain ⟨es', he', hp⟩ := Maps.tidy_setOf (.lit (.bool true) : DataW Unit) (acc.map litI) (isKey_lits acc)
  have he'' : gapSet acc = .map es' := he'
  have hee : es' = es := by rw [hes] at he''; cases he''; rfl
  subst hee
  have hperm : ((gapsOf acc).map (fun n : Nat => (n : Int))).Perm (intKeys (.map es')) := by
    refine perm_intKeys hp hk ?_ ?_
    · unfold gapsOf
      refine List.pairwise_map.2 ?_
      refine List.Pairwise.filter _ ?_
      have := List.nodup_range (n := 200)
      exact List.Pairwise.imp (fun {a b} hab e => hab (by omega)) this
    · intro x
      rw [← hes, has_gapSet, List.mem_map]
      constructor
      · rintro ⟨n, hn, rfl⟩
        unfold gapsOf at hn
        exact ⟨n, by simpa using (List.mem_filter.1 hn).2, rfl⟩
      · rintro ⟨n, hn, rfl⟩
        exact ⟨n, List.mem_filter.2 ⟨by simpa using hacc n hn, by simpa using hn⟩, rfl⟩
  rw [hes] at h
  have h2 := mergeSort_of_perm_i (h.trans hperm.symm)
  show ss.mergeSort leI = _
  rw [h2]
  refine List.mergeSort_of_pairwise ?_
  refine List.pairwise_map.2 ?_
  unfold gapsOf
  refine List.Pairwise.filter _ ?_
  exact List.Pairwise.imp (fun {a b} hab => by simp; omega) (List.pairwise_lt_range (n := 200))

theorem gapAt_lt (f r : ByteArray) (i : Nat) (_h1 : f.size ≤ 60) (h2 : r.size ≤ 60) (hi : f.size ≤ i) : gapAt f r i < 200 := by
  unfold gapAt
  cases h : nextO f r (i + 1) with
  | none => simp
  | some k =>
    have := (findFrom_ge h).2
    simp only [Option.getD_some]; omega

theorem accTo_lt (f r : ByteArray) (l : Nat) (h1 : f.size ≤ 60) (h2 : r.size ≤ 60) : ∀ d ∈ accTo f r l, d < 200 := by
  intro d hd
  unfold accTo at hd
  obtain ⟨i, hi, rfl⟩ := List.mem_map.1 hd
  have hi2 := (List.mem_filter.1 hi).2
  simp at hi2
  exact gapAt_lt f r i h1 h2 hi2.1

def gapsL (f r : ByteArray) : List Nat := gapsOf (accTo f r (f.size + r.size))

theorem Gaps_ok (f r : ByteArray) (w : World) (ht : tideB (f, r) = true) (hend : endB r = true) (hinf : ∀ h, nextO f r h ≠ none) :
    Calls Try.prog 36 #[.agg #[.string f, .string r]] w fun e w' => ∃ v : Value, e = .returned (.tuple #[v, .int .i64 0]) ∧
      w'.ownsRow w.heap.size 3 1 v (gapsL f r).length ((gapsL f r).map fun n : Nat => Value.int .i64 (n : Int)) ∧ Below w.heap.size w w' := by
  obtain ⟨z1, z2, _⟩ := tideB_size ht
  refine (callsIn_wide.1 (Gaps_in f r w ht hend hinf)).mono ?_
  rintro e w' ⟨v, ss, rfl, hS, hrow, hb⟩
  have hsort := sorted_gaps _ (accTo_lt f r _ z1 z2) ss hS
  have hlen : ss.length = (gapsL f r).length := by
    have := congrArg List.length hsort
    rw [List.length_mergeSort, List.length_map] at this; exact this
  rw [hsort, hlen, List.map_map] at hrow
  exact ⟨v, rfl, hrow, hb⟩

theorem byteAt (s : ByteArray) (j : Nat) (h : j < s.size) : s.data.getD j 0 = s.data.toList[j]'(by simpa using h) := by
  simp [Array.getD, h]

/-- an endless tide has an hour from each hour on -/
theorem endB_iff (r : ByteArray) : endB r = true ↔ ∃ j, j < r.size ∧ r.data.getD j 0 = 49 := by
  unfold endB
  rw [← Lib.contains_iff_indexByte, List.contains_iff_mem, List.mem_iff_getElem]
  constructor
  · rintro ⟨j, hj, he⟩
    have hj' : j < r.size := by simpa using hj
    exact ⟨j, hj', by rw [byteAt r j hj']; exact he⟩
  · rintro ⟨j, hj, he⟩
    exact ⟨j, by simpa using hj, by rw [byteAt r j hj] at he; exact he⟩

theorem nextO_endless (f r : ByteArray) (hr : endB r = true) (h : Nat) : nextO f r h ≠ none := by
  intro hn
  obtain ⟨j, hj, he⟩ := (endB_iff r).1 hr
  have hno := findFrom_none hn
  obtain ⟨m, hm⟩ : ∃ m, m = max h f.size := ⟨_, rfl⟩
  have hr0 : 0 < r.size := by omega
  obtain ⟨d, hd1, hd2⟩ : ∃ d, d < r.size ∧ (m - f.size + d) % r.size = j := by
    refine ⟨(j + (r.size - (m - f.size) % r.size)) % r.size, Nat.mod_lt _ hr0, ?_⟩
    rw [Nat.add_mod, Nat.mod_mod, ← Nat.add_mod]
    have e : (m - f.size) % r.size < r.size := Nat.mod_lt _ hr0
    rw [Nat.add_mod, show (m - f.size) % r.size = (m - f.size) % r.size from rfl]
    generalize (m - f.size) % r.size = t at *
    by_cases ht : t = 0
    · subst ht; simp; exact Nat.mod_eq_of_lt hj
    · by_cases hjt : j < t
      · rw [Nat.mod_eq_of_lt (by omega : j + (r.size - t) < r.size), show t + (j + (r.size - t)) = j + r.size by omega]
        simp; exact Nat.mod_eq_of_lt hj
      · rw [show j + (r.size - t) = (j - t) + r.size by omega, Nat.add_mod_right, Nat.mod_eq_of_lt (by omega : j - t < r.size), show t + (j - t) = j by omega]
        exact Nat.mod_eq_of_lt hj
  have h1 := hno (m + d) (by omega) (by omega)
  unfold hasB at h1
  rw [if_neg (by omega), show m + d - f.size = m - f.size + d by omega, hd2, he] at h1
  simp at h1
end Go.Proofs.Ytbhlddfjfcmncaa
