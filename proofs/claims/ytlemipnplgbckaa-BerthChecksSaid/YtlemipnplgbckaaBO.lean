import Derived.Test.YtlemipnplgbckaaBN
import Derived.Laws.AppendOwn
import Derived.ChangeKeysEq
import Derived.Maps.RangeWalk
import Derived.Maps.OwnIn
import Derived.Maps.AppendAt
import Derived.RangeFuncNested
import Derived.RangeFuncBound
import Derived.RangeFuncCalls
import Derived.RangeFuncLeaves
import Derived.Shelf.Abstract
import Derived.Shelf.RegionOpen
import Derived.WalkKit
import Derived.WalkMore
import Derived.OwnWalkIn
import Derived.TacticsInMore
import Derived.LoopNIn
import Derived.LoopIn
import Derived.WalkSpells
import Derived.WalkLawsBesides
import Derived.BigQuiet
import Derived.Deep.QuietTactic
import Derived.Lib.Hide
import Derived.Deep.RegionHeld3
import Derived.StillTailTactics
import Derived.Deep.LoopGhost
import Derived.Maps.OwnSet
import Derived.Lib.IndexAny
import Derived.Sort.QuietThIn
import Derived.Sort.QuietTacIn
import Derived.Sort.BigQuietIn
import Derived.Laws.OwnMore
import Derived.DeepKeys4
import Derived.Maps.Views
import Derived.Maps.OwnOps
import Derived.Laws.OwnMore
import Derived.Deep.DeepCutAuto
import Derived.ChangeKeysEq
namespace Go.Proofs.Ytlemipnplgbckaa
open Go.RowKit Go.Shelf
attribute [local go_sem] Oper.semAt_some
def rowQ (a k : Nat) : List (Nat × Nat) := (List.range k).map (fun j : Nat => (a, a + 1 + j))
/-- the pairs before the k-th one that begins with i -/
def prB (n i k : Nat) : List (Nat × Nat) := ((List.range i).flatMap (fun a : Nat => rowQ a (n - (a + 1)))) ++ rowQ i k
/-- all pairs i < j below n, rising -/
def prL (n : Nat) : List (Nat × Nat) := (List.range n).flatMap (fun a : Nat => rowQ a (n - (a + 1)))
def encP (p : Nat × Nat) : Value := .agg #[.int .i64 (p.1 : Int), .int .i64 (p.2 : Int)]
theorem prB_0 (n : Nat) : prB n 0 0 = [] := by simp [prB, rowQ]
theorem prB_next (n i : Nat) : prB n (i + 1) 0 = prB n i (n - (i + 1)) := by
  unfold prB
  rw [List.range_succ, List.flatMap_append]
  simp [rowQ]
theorem prB_end (n : Nat) : prB n n 0 = prL n := by
  unfold prB prL
  simp [rowQ]
theorem prB_step (n i k : Nat) : prB n i (k + 1) = prB n i k ++ [(i, i + 1 + k)] := by
  unfold prB rowQ
  rw [List.range_succ, List.map_append, List.append_assoc]
  rfl
theorem rowQ_pre (a j k : Nat) (h : j ≤ k) : rowQ a j <+: rowQ a k := by
  obtain ⟨d, rfl⟩ : ∃ d, k = j + d := ⟨k - j, by omega⟩
  unfold rowQ
  rw [List.range_add, List.map_append]
  exact List.prefix_append _ _
theorem prB_pre (n i k : Nat) (hi : i < n) (hk : k ≤ n - (i + 1)) : prB n i k <+: prL n := by
  unfold prB prL
  obtain ⟨d, rfl⟩ : ∃ d, n = i + 1 + d := ⟨n - i - 1, by omega⟩
  rw [List.range_add, List.flatMap_append, List.range_succ, List.flatMap_append]
  obtain ⟨t, ht⟩ := rowQ_pre i k (i + 1 + d - (i + 1)) hk
  refine ⟨t ++ (List.map (fun x => i + 1 + x) (List.range d)).flatMap (fun a : Nat => rowQ a (i + 1 + d - (a + 1))), ?_⟩
  simp only [List.flatMap_cons, List.flatMap_nil, List.append_nil, List.append_assoc]
  rw [← List.append_assoc (rowQ i k) t, ht]
theorem rowQ_len (a k : Nat) : (rowQ a k).length = k := by simp [rowQ]
theorem flatQ_len (n : Nat) : ∀ i : Nat, i ≤ n → ((List.range i).flatMap (fun a : Nat => rowQ a (n - (a + 1)))).length ≤ i * n
  | 0, _ => by simp
  | i + 1, hi => by
    have ih := flatQ_len n i (by omega)
    rw [List.range_succ, List.flatMap_append, List.length_append]
    simp only [List.flatMap_cons, List.flatMap_nil, List.append_nil, rowQ_len]
    rw [Nat.add_mul, Nat.one_mul]; omega
theorem prL_len (n : Nat) : (prL n).length ≤ n * n := flatQ_len n n (Nat.le_refl _)
theorem mem_prL {n : Nat} {p : Nat × Nat} : p ∈ prL n ↔ p.1 < p.2 ∧ p.2 < n := by
  unfold prL rowQ
  simp only [List.mem_flatMap, List.mem_map, List.mem_range]
  constructor
  · rintro ⟨a, ha, j, hj, rfl⟩
    dsimp only; omega
  · rintro ⟨h1, h2⟩
    exact ⟨p.1, by omega, p.2 - p.1 - 1, by omega, Prod.ext rfl (by dsimp only; omega)⟩
set_option maxRecDepth 100000 in
set_option maxHeartbeats 1000000 in
/-- **the pairs come one after the other** -/
theorem pairs_in (nf l b n : Nat) (hn : n ≤ 1000) (J Jx : List (Nat × Nat) → World → Prop)
    (hY : ∀ (i k : Nat) W, i + 1 + k < n → Row W b 3 [.int .i64 (n : Int)] → J (prB n i k) W → YieldAt Fence.wide (nf - 1) Try.prog l #[encP (i, i + 1 + k)] W fun e W' =>
      (e = .returned (.bool true) ∧ J (prB n i (k + 1)) W' ∧ Row W' b 3 [.int .i64 (n : Int)]) ∨ (e = .returned (.bool false) ∧ Jx (prB n i (k + 1)) W'))
    (W : World) (rb : Row W b 3 [.int .i64 (n : Int)]) (h0 : J [] W) :
    CallsIn Fence.wide nf Try.prog 98 #[.func (.yield l) #[] #[], .pointer (some ⟨b, 0, none⟩)] W fun e W' => (∃ v, e = .returned v) ∧ (J (prL n) W' ∨ ∃ pre, pre <+: prL n ∧ Jx pre W') := by
  refine callsIn_of_wp Try.func98 rfl trivial ?_ rfl
  simp only [Try.ntmps98, List.size_toArray, List.length_cons, List.length_nil, Nat.reduceAdd, Nat.reduceSub, Array.replicate_succ, Array.replicate_zero, List.push_toArray, List.append_toArray, List.nil_append, List.cons_append]
  have HY := Lib.hid hY
  have H0 := Lib.hid (And.intro h0 rb)
  have c0 := rb.cell 0
  simp only [List.getElem?_cons_zero] at c0
  clear hY h0 rb
  gi_wp2_with fail
  clear c0
  gi_loopw [6] (fun fv wr => ∃ i : Nat, i ≤ n ∧ fv = .int .i64 (i : Int) ∧ Hid (J (prB n i 0) wr) ∧ Hid (Row wr b 3 [.int .i64 (n : Int)])) (fun fv _ => ((n : Int) - intOf fv).toNat)
  case atStart => exact ⟨0, Nat.zero_le _, rfl, Lib.hid (by rw [prB_0]; exact H0.out.1), Lib.hid H0.out.2⟩
  case round =>
    clear H0
    obtain ⟨i, hi, rfl, HJ, HB⟩ := hrel
    have iw : IntKind.i64.wrap ((i : Int) + 1) = ((i + 1 : Nat) : Int) := by rw [i64_of _ (by omega) (by omega)]; omega
    by_cases hlt : i < n
    · have hd : decide ((i : Int) < (n : Int)) = true := decide_eq_true (by omega)
      gi_wp2_with fail
      gi_loopw [4] (fun tv wx => ∃ k : Nat, i + 1 + k ≤ n ∧ tv = .int .i64 ((i + 1 + k : Nat) : Int) ∧ Hid (J (prB n i k) wx) ∧ Hid (Row wx b 3 [.int .i64 (n : Int)])) (fun tv _ => ((n : Int) - intOf tv).toNat)
      case atStart => exact ⟨0, by omega, rfl, HJ, HB⟩
      case round =>
        clear HJ HB iw
        obtain ⟨k, hk, rfl, HJ, HB⟩ := hrel
        have jc := HB.out.cell 0
        simp only [List.getElem?_cons_zero] at jc
        generalize hj : i + 1 + k = j at *
        have hj2 := Lib.hid hj
        clear hj
        have jw : IntKind.i64.wrap ((j : Int) + 1) = ((j + 1 : Nat) : Int) := by rw [i64_of _ (by omega) (by omega)]; omega
        by_cases hlt2 : j < n
        · have hd2 : decide ((j : Int) < (n : Int)) = true := decide_eq_true (by omega)
          obtain ⟨fn, tmps, assign, body, hyy, hR⟩ := HY.out i k wr (by have := hj2.out; omega) HB.out HJ.out
          rw [hj2.out] at hyy
          simp only [encP] at hyy
          have hR2 := hR.mono (R' := fun e W' => ∃ bb, e = .returned (.bool bb) ∧ Hid ((bb = true ∧ J (prB n i (k + 1)) W' ∧ Row W' b 3 [.int .i64 (n : Int)]) ∨ (bb = false ∧ Jx (prB n i (k + 1)) W'))) (by
            rintro e W' (⟨rfl, h⟩ | ⟨rfl, h⟩)
            · exact ⟨true, rfl, Lib.hid (.inl ⟨rfl, h⟩)⟩
            · exact ⟨false, rfl, Lib.hid (.inr ⟨rfl, h⟩)⟩)
          have HR := Lib.hid hR2
          clear hR hR2 HJ
          gi_wp2_with fail
          refine ⟨(fun h => by cases h), ?_⟩
          refine HR.out.mono ?_
          rintro e W3 ⟨bb, rfl, hp⟩
          cases bb
          · have HX := Lib.hid (show Jx (prB n i (k + 1)) W3 by
              rcases hp.out with ⟨h, _⟩ | ⟨_, h⟩
              · cases h
              · exact h)
            clear hp hyy HR
            gi_wp2_with fail
            refine bodyPost_ret (results_none rfl _ _ _) rfl ?_
            exact ⟨⟨_, rfl⟩, .inr ⟨_, prB_pre n i (k + 1) (by omega) (by have := hj2.out; omega), HX.out⟩⟩
          · have HX := Lib.hid (show J (prB n i (k + 1)) W3 ∧ Row W3 b 3 [.int .i64 (n : Int)] by
              rcases hp.out with ⟨_, h⟩ | ⟨h, _⟩
              · exact h
              · cases h)
            clear hp hyy HR
            gi_wp2_with fail
            go_roundw
            case rel => exact ⟨k + 1, by have := hj2.out; omega, by have := hj2.out; subst this; rfl, Lib.hid HX.out.1, Lib.hid HX.out.2⟩
            case measure => simp [intOf]; omega
        · have hd2 : decide ((j : Int) < (n : Int)) = false := decide_eq_false (by omega)
          have HJ2 := Lib.hid (show J (prB n (i + 1) 0) wr by
            have h := HJ.out
            have h2 := hj2.out
            rw [prB_next, show n - (i + 1) = k by omega]; exact h)
          have iw : IntKind.i64.wrap ((i : Int) + 1) = ((i + 1 : Nat) : Int) := by rw [i64_of _ (by omega) (by omega)]; omega
          clear HJ
          gi_wp2_with fail
          exact ⟨⟨i + 1, by omega, rfl, HJ2, HB⟩, by simp [intOf]; omega⟩
    · have hd : decide ((i : Int) < (n : Int)) = false := decide_eq_false (by omega)
      have HJ2 := Lib.hid (show J (prL n) wr by
        have h := HJ.out
        rw [show i = n by omega, prB_end] at h; exact h)
      clear HJ
      gi_wp2_with fail
      go_end0
      exact ⟨⟨_, rfl⟩, .inl HJ2.out⟩
end Go.Proofs.Ytlemipnplgbckaa
