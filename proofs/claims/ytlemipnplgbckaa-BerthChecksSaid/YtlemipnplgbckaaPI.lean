import Derived.Test.YtlemipnplgbckaaPE
import Derived.Laws.AppendOwn
import Derived.ChangeKeysEq
import Derived.Maps.RangeWalk
import Derived.Maps.OwnIn
import Derived.Maps.AppendAt
import Derived.RangeFuncNested
import Derived.RangeFuncBound
import Derived.RangeFuncCalls
import Derived.RangeFuncLeaves
import Derived.Shelf.Abstract
import Derived.Shelf.RegionOpen
import Derived.WalkKit
import Derived.WalkMore
import Derived.OwnWalkIn
import Derived.TacticsInMore
import Derived.LoopNIn
import Derived.LoopIn
import Derived.WalkSpells
import Derived.WalkLawsBesides
import Derived.BigQuiet
import Derived.Deep.QuietTactic
import Derived.Lib.Hide
import Derived.Deep.RegionHeld3
import Derived.StillTailTactics
import Derived.Deep.LoopGhost
import Derived.Maps.OwnSet
import Derived.Lib.IndexAny
import Derived.Sort.QuietThIn
import Derived.Sort.QuietTacIn
import Derived.Sort.BigQuietIn
import Derived.Laws.OwnMore
import Derived.DeepKeys4
import Derived.Maps.Views
import Derived.Maps.OwnOps
import Derived.Laws.OwnMore
import Derived.Deep.DeepCutAuto
import Derived.ChangeKeysEq
namespace Go.Proofs.Ytlemipnplgbckaa
open Go.RowKit Go.Shelf
attribute [local go_sem] Oper.semAt_some
set_option maxRecDepth 100000 in
set_option maxHeartbeats 1000000 in
theorem ints_sli (xs ys : List Int) (v u : Value) (w : World) (hv : SlI w v xs) (hu : SlI w u ys) (h1 : xs.length ≤ 1000) (h2 : ys.length ≤ 1000) :
    Calls Try.prog 44 #[v, u] w fun e w' => e = .returned (.bool (decide (xs = ys))) ∧ Below w.heap.size w w' := by
  obtain ⟨a, c, rfl, hc, hs⟩ := hv
  obtain ⟨a', c', rfl, hc', hs'⟩ := hu
  by_cases hl : xs.length = ys.length
  case neg =>
    have d1 : ((xs.length : Int) != (ys.length : Int)) = true := by simp; omega
    have HF := Lib.hid (show decide (xs = ys) = false from decide_eq_false fun e => hl (by rw [e]))
    clear hs hs' hl
    go_enter Try.func44, Try.ntmps44
    go_wp2_with fail
    go_ret
    exact ⟨ret_bool HF.out.symm, Below.refl _ _⟩
  case pos =>
    have d1 : ((xs.length : Int) != (ys.length : Int)) = false := by simp; omega
    have HX := Lib.hid hs
    have HY := Lib.hid hs'
    have HL := Lib.hid hl
    obtain ⟨E, hE⟩ : ∃ E, decide (xs = ys) = E := ⟨_, rfl⟩
    rw [hE]
    have HE := Lib.hid hE
    clear hs hs' hl hE
    go_enter Try.func44, Try.ntmps44
    go_wp2_with fail
    go_loopw [5] (fun i wr => ∃ k : Nat, k ≤ xs.length ∧ i = .int .i64 (k : Int) ∧ Hid (Below w.heap.size w wr) ∧ Hid (xs.take k = ys.take k)) (fun i _ => xs.length - (intOf i).toNat)
    case atStart => exact ⟨0, by omega, rfl, Lib.hid (Below.refl _ _), Lib.hid rfl⟩
    case round =>
      obtain ⟨k, hk, rfl, HW, HK⟩ := hrel
      have kw : IntKind.i64.wrap ((k : Int) + 1) = ((k + 1 : Nat) : Int) := by rw [i64_of _ (by omega) (by omega)]; omega
      by_cases hlt : k < xs.length
      · have hlt2 : k < ys.length := by have := HL.out; omega
        have hd : decide ((k : Int) < (xs.length : Int)) = true := decide_eq_true (by omega)
        have hdn : decide (k < xs.length) = true := decide_eq_true hlt
        obtain ⟨b, o, rfl, hbl, hi⟩ : ∃ b o, a = some ⟨b, o, none⟩ ∧ b < w.heap.size ∧ IntsAt w b o xs := HX.out.resolve_left (fun e => by rw [e] at hlt; simp at hlt)
        obtain ⟨b', o', rfl, hbl', hi'⟩ : ∃ b o, a' = some ⟨b, o, none⟩ ∧ b < w.heap.size ∧ IntsAt w b o ys := HY.out.resolve_left (fun e => by rw [e] at hlt2; simp at hlt2)
        have c1 := below_at HW.out hbl (hi.at_ k hlt)
        have c2 := below_at HW.out hbl' (hi'.at_ k hlt2)
        have hs1 : xs.take (k + 1) = xs.take k ++ [xs[k]] := List.take_succ_eq_append_getElem hlt
        have hs2 : ys.take (k + 1) = ys.take k ++ [ys[k]] := List.take_succ_eq_append_getElem hlt2
        have hne : xs[k] ≠ ys[k] → E = false := fun hne => by
          rw [← HE.out]; refine decide_eq_false fun e => hne ?_
          subst e; rfl
        have hlen2 : k < ys.length := hlt2
        have S1 := Lib.hid hs1
        have S2 := Lib.hid hs2
        have HNE := Lib.hid hne
        clear hs1 hs2 hne hi hi'
        generalize xs[k] = p at *
        generalize ys[k] = q at *
        go_wp2_with fail
        go_quiet (fail)
        by_cases hab : p = q
        · have dd : (p != q) = false := by simp [hab]
          subst hab
          clear HNE
          go_wp2_with fail
          go_roundw
          case rel => exact ⟨k + 1, by omega, rfl, Lib.hid (below_drewN HW.out _), Lib.hid (by rw [S1.out, S2.out, HK.out])⟩
          case measure => simp [intOf]; omega
        · have dd : (p != q) = true := by simp [hab]
          have HF := Lib.hid (HNE.out hab)
          clear hab HNE
          go_wp2_with fail
          go_ret
          exact ⟨ret_bool HF.out.symm, below_drewN HW.out _⟩
      · have hd : decide ((k : Int) < (xs.length : Int)) = false := decide_eq_false (by omega)
        have hdn : decide (k < xs.length) = false := decide_eq_false hlt
        have hfin : E = true := by
          rw [← HE.out]; refine decide_eq_true ?_
          have := HK.out
          rw [List.take_of_length_le (by omega), List.take_of_length_le (by have := HL.out; omega)] at this
          exact this
        have HF := Lib.hid hfin
        clear hfin
        go_wp2_with fail
        go_ret
        exact ⟨ret_bool HF.out.symm, HW.out⟩
end Go.Proofs.Ytlemipnplgbckaa
