import Derived.Test.YtlehddifcjklgaaAc
import Derived.Maps.OwnIn
import Derived.Maps.OwnSet
import Derived.Maps.AppendAt
import Derived.RangeFuncNested
import Derived.RangeFuncBound
import Derived.RangeFuncCalls
import Derived.RangeFuncLeaves
import Derived.Shelf.Abstract
import Derived.Shelf.RegionOpen
import Derived.WalkKit
import Derived.OwnWalkIn
import Derived.TacticsInMore
import Derived.LoopNIn
import Derived.LoopIn
import Derived.WalkMore
import Derived.Sort.QuietThIn
import Derived.Sort.QuietTacIn
import Derived.Sort.BigQuietIn
import Derived.WalkSpells
import Derived.WalkLawsBesides
import Derived.BigQuiet
import Derived.Deep.QuietTactic
import Derived.Lib.Hide
import Derived.Deep.RegionHeld3
import Derived.StillTailTactics
import Derived.Deep.LoopGhost
import Derived.Lib.IndexAny
namespace Go.Proofs.Ytlehddifcjklgaa
open Go.RowKit Go.Shelf
attribute [local go_sem] Oper.semAt_some
set_option maxHeartbeats 1000000 in
theorem ints_any (xs ys : List Int) (g h c d : Nat) (w : World) (hx : IntsAt w g 0 xs) (hy : IntsAt w h 0 ys) (hl : xs.length = ys.length) (h1 : xs.length ≤ 1000) :
    Calls Try.prog 34 #[.slice (some ⟨g, 0, none⟩) xs.length c, .slice (some ⟨h, 0, none⟩) ys.length d] w fun e w' => e = .returned (.bool (decide (xs = ys))) ∧ Below w.heap.size w w' := by
  have d1 : ((xs.length : Int) != (ys.length : Int)) = false := by simp; omega
  have HX := Lib.hid hx
  have HY := Lib.hid hy
  have HL := Lib.hid hl
  obtain ⟨E, hE⟩ : ∃ E, decide (xs = ys) = E := ⟨_, rfl⟩
  rw [hE]
  have HE := Lib.hid hE
  clear hx hy hl hE
  go_enter Try.func34, Try.ntmps34
  go_wp2_with fail
  go_loopw [5] (fun i wr => ∃ k : Nat, k ≤ xs.length ∧ i = .int .i64 (k : Int) ∧ Hid (∃ n, wr = w.drewN n) ∧ Hid (xs.take k = ys.take k)) (fun i _ => xs.length - (intOf i).toNat)
  case atStart => exact ⟨0, by omega, rfl, Lib.hid ⟨0, rfl⟩, Lib.hid rfl⟩
  case round =>
    obtain ⟨k, hk, rfl, HN, HK⟩ := hrel
    obtain ⟨n, hn⟩ := HN.out
    have HW := Lib.hid (show Below w.heap.size w wr by rw [hn]; exact below_drewN (Below.refl _ _) _)
    have HX1 := Lib.hid (show IntsAt wr g 0 xs by rw [hn]; exact HX.out.drewN n)
    have HY1 := Lib.hid (show IntsAt wr h 0 ys by rw [hn]; exact HY.out.drewN n)
    have HNN := Lib.hid hn
    clear hn
    by_cases hlt : k < xs.length
    · have hlt2 : k < ys.length := by have := HL.out; omega
      have hd : decide ((k : Int) < (xs.length : Int)) = true := decide_eq_true (by omega)
      have c1 := HX1.out.at_ k hlt
      have c2 := HY1.out.at_ k hlt2
      rw [Nat.zero_add] at c1 c2
      have hs1 : xs.take (k + 1) = xs.take k ++ [xs[k]] := List.take_succ_eq_append_getElem hlt
      have hs2 : ys.take (k + 1) = ys.take k ++ [ys[k]] := List.take_succ_eq_append_getElem hlt2
      have hne : xs[k] ≠ ys[k] → E = false := fun hne => by
        rw [← HE.out]; refine decide_eq_false fun e => hne ?_
        subst e; rfl
      have S1 := Lib.hid hs1
      have S2 := Lib.hid hs2
      have HNE := Lib.hid hne
      clear hs1 hs2 hne
      generalize xs[k] = a at *
      generalize ys[k] = b at *
      go_wp2_with fail
      go_quiet (fail)
      by_cases hab : a = b
      · have dd : (a != b) = false := by simp [hab]
        subst hab
        clear HNE
        go_wp2_with fail
        go_roundw
        case rel => exact ⟨k + 1, by omega, rfl, Lib.hid ⟨_, by rw [HNN.out, drewN_drewN]⟩, Lib.hid (by rw [S1.out, S2.out, HK.out])⟩
        case measure => simp [intOf]; omega
      · have dd : (a != b) = true := by simp [hab]
        have HF := Lib.hid (HNE.out hab)
        clear hab HNE
        go_wp2_with fail
        go_ret
        exact ⟨ret_bool HF.out.symm, below_drewN HW.out _⟩
    · have hd : decide ((k : Int) < (xs.length : Int)) = false := decide_eq_false (by omega)
      have hfin : E = true := by
        rw [← HE.out]; refine decide_eq_true ?_
        have := HK.out
        rw [List.take_of_length_le (by omega), List.take_of_length_le (by have := HL.out; omega)] at this
        exact this
      have HF := Lib.hid hfin
      clear hfin
      go_wp2_with fail
      go_ret
      exact ⟨ret_bool HF.out.symm, HW.out⟩
end Go.Proofs.Ytlehddifcjklgaa
