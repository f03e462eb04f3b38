import Derived.Test.YtlehddifcjklgaaAh
import Derived.Test.YtlehddifcjklgaaBp
import Derived.Maps.OwnIn
import Derived.Maps.OwnSet
import Derived.Maps.AppendAt
import Derived.RangeFuncNested
import Derived.RangeFuncBound
import Derived.RangeFuncCalls
import Derived.RangeFuncLeaves
import Derived.Shelf.Abstract
import Derived.Shelf.RegionOpen
import Derived.WalkKit
import Derived.OwnWalkIn
import Derived.TacticsInMore
import Derived.LoopNIn
import Derived.LoopIn
import Derived.WalkMore
import Derived.Sort.QuietThIn
import Derived.Sort.QuietTacIn
import Derived.Sort.BigQuietIn
import Derived.WalkSpells
import Derived.WalkLawsBesides
import Derived.BigQuiet
import Derived.Deep.QuietTactic
import Derived.Lib.Hide
import Derived.Deep.RegionHeld3
import Derived.StillTailTactics
import Derived.Deep.LoopGhost
import Derived.Lib.IndexAny
namespace Go.Proofs.Ytlehddifcjklgaa
open Go.RowKit Go.Shelf
attribute [local go_sem] Oper.semAt_some
theorem PtsA.grow {W W' : World} {a : Option Addr} {ps : List Pt} {c : Nat} (h : PtsA W a ps c) (hb : Below W.heap.size W W') : PtsA W' a ps c := by
  rcases h with h | ⟨b, o, h1, h2, h3⟩
  · exact .inl h
  · exact .inr ⟨b, o, h1, h2.grow hb, h3⟩
theorem twr_take_false {ps : List Pt} {k : Nat} (hk : k < ps.length) (h : plankB ps[k] = false) : twrB ps = false := by
  unfold twrB
  rw [Bool.and_eq_false_iff]; right
  rw [List.all_eq_false]; exact ⟨ps[k], List.getElem_mem _, by simp [h]⟩
set_option maxHeartbeats 1000000 in
theorem rTower_mid (ps : List Pt) (b o c : Nat) (w : World) (hp : PtsAt w b o ps) (hl : ps.length ≤ 1000000) :
    Calls Try.prog 46 #[.slice (some ⟨b, o, none⟩) ps.length c] w fun e w' => e = .returned (.bool (twrB ps)) ∧ Below w.heap.size w w' := by
  obtain ⟨E, hE⟩ : ∃ E : Bool, twrB ps = E := ⟨_, rfl⟩
  rw [hE]
  have HE := Lib.hid hE
  have HP := Lib.hid hp
  clear hp hE
  go_enter Try.func46, Try.ntmps46
  go_wp2_with fail

  go_loopw [3] (fun i wr => ∃ k : Nat, k ≤ ps.length ∧ i = .int .i64 (k : Int) ∧ Hid (Below w.heap.size w wr) ∧ Hid ((ps.take k).all plankB = true)) (fun i _ => ps.length - (intOf i).toNat)
  case atStart => exact ⟨0, by omega, rfl, Lib.hid (Below.refl _ _), Lib.hid rfl⟩
  case round =>
    obtain ⟨k, hk, rfl, HB, HK⟩ := hrel
    by_cases hlt : k < ps.length
    · have hd : decide ((k : Int) < (ps.length : Int)) = true := decide_eq_true (by omega)
      have hx := below_at HB.out HP.out.lt (HP.out.x k hlt)
      have hy := below_at HB.out HP.out.lt (HP.out.y k hlt)
      have HS := Lib.hid (show (ps.take (k + 1)).all plankB = plankB ps[k] by
        rw [List.take_succ_eq_append_getElem hlt, List.all_append, HK.out]; simp)
      have HF := Lib.hid (show plankB ps[k] = false → E = false from fun h => by rw [← HE.out]; exact twr_take_false hlt h)
      generalize ps[k] = p at *
      obtain ⟨p1, p2⟩ := p
      dsimp only at hx hy
      by_cases a1 : p1 < -1000
      · have dd : decide (p1 < -1000) = true := decide_eq_true a1
        have HEE := Lib.hid (HF.out (plank_false (.inl a1)))
        go_wp2_with fail
        go_ret
        exact ⟨ret_bool HEE.out.symm, HB.out⟩
      by_cases a2 : 1000 < p1
      · have dd : decide (p1 < -1000) = false := decide_eq_false a1
        have de : decide (1000 < p1) = true := decide_eq_true a2
        have HEE := Lib.hid (HF.out (plank_false (.inr (.inl a2))))
        go_wp2_with fail
        go_ret
        exact ⟨ret_bool HEE.out.symm, HB.out⟩
      by_cases a3 : p2 < 1
      · have dd : decide (p1 < -1000) = false := decide_eq_false a1
        have de : decide (1000 < p1) = false := decide_eq_false a2
        have df : decide (p2 < 1) = true := decide_eq_true a3
        have HEE := Lib.hid (HF.out (plank_false (.inr (.inr (.inl a3)))))
        go_wp2_with fail
        go_ret
        exact ⟨ret_bool HEE.out.symm, HB.out⟩
      by_cases a4 : 100 < p2
      · have dd : decide (p1 < -1000) = false := decide_eq_false a1
        have de : decide (1000 < p1) = false := decide_eq_false a2
        have df : decide (p2 < 1) = false := decide_eq_false a3
        have dg : decide (100 < p2) = true := decide_eq_true a4
        have HEE := Lib.hid (HF.out (plank_false (.inr (.inr (.inr a4)))))
        go_wp2_with fail
        go_ret
        exact ⟨ret_bool HEE.out.symm, HB.out⟩
      have dd : decide (p1 < -1000) = false := decide_eq_false a1
      have de : decide (1000 < p1) = false := decide_eq_false a2
      have df : decide (p2 < 1) = false := decide_eq_false a3
      have dg : decide (100 < p2) = false := decide_eq_false a4
      have HT := Lib.hid (plank_true (p1 := p1) (p2 := p2) (by omega) (by omega) (by omega) (by omega))
      go_wp2_with fail
      go_roundw
      case rel => exact ⟨k + 1, by omega, rfl, HB, Lib.hid (by rw [HS.out]; exact HT.out)⟩
      case measure => simp [intOf]; omega
    · have hd : decide ((k : Int) < (ps.length : Int)) = false := decide_eq_false (by omega)
      obtain rfl : k = ps.length := by omega
      have HA := Lib.hid (show ps.all plankB = true by have := HK.out; rwa [List.take_length] at this)
      by_cases g1 : 1 ≤ ps.length
      · have d1 : decide (1 ≤ (ps.length : Int)) = true := decide_eq_true (by omega)
        by_cases g2 : ps.length ≤ 12
        · have d2 : decide ((ps.length : Int) ≤ 12) = true := decide_eq_true (by omega)
          have HEE := Lib.hid (show E = true by rw [← HE.out]; unfold twrB; rw [HA.out]; simp [g1, g2])
          go_wp2_with fail
          go_ret
          exact ⟨ret_bool HEE.out.symm, HB.out⟩
        · have d2 : decide ((ps.length : Int) ≤ 12) = false := decide_eq_false (by omega)
          have HEE := Lib.hid (show E = false by rw [← HE.out]; unfold twrB; simp [g2])
          go_wp2_with fail
          go_ret
          exact ⟨ret_bool HEE.out.symm, HB.out⟩
      · have d1 : decide (1 ≤ (ps.length : Int)) = false := decide_eq_false (by omega)
        have HEE := Lib.hid (show E = false by rw [← HE.out]; unfold twrB; simp [g1])
        go_wp2_with fail
        go_ret
        exact ⟨ret_bool HEE.out.symm, HB.out⟩
theorem rTower_nil (a : Option Addr) (c : Nat) (w : World) :
    Calls Try.prog 46 #[.slice a 0 c] w fun e w' => e = .returned (.bool false) ∧ Below w.heap.size w w' := by
  go_enter Try.func46, Try.ntmps46
  go_wp2_with fail
  go_loopw [3] (fun i wr => i = .int .i64 0 ∧ Hid (Below w.heap.size w wr)) (fun i _ => 0)
  case atStart => exact ⟨rfl, Lib.hid (Below.refl _ _)⟩
  case round =>
    obtain ⟨rfl, HB⟩ := hrel
    go_wp2_with fail
    go_ret
    exact ⟨rfl, HB.out⟩
theorem rTower_any (ps : List Pt) (a : Option Addr) (c : Nat) (w : World) (hp : PtsA w a ps c) (hl : ps.length ≤ 1000000) :
    Calls Try.prog 46 #[.slice a ps.length c] w fun e w' => e = .returned (.bool (twrB ps)) ∧ Below w.heap.size w w' := by
  rcases hp with rfl | ⟨b, o, rfl, hp, _⟩
  · exact rTower_nil a c w
  · exact rTower_mid ps b o c w hp hl
theorem CheckTower_all (ps : List Pt) (a : Option Addr) (c : Nat) (w : World) (hp : PtsA w a ps c) (hl : ps.length ≤ 1000000) :
    Calls Try.prog 47 #[.slice a ps.length c] w fun e w' => e = .returned (.int .i64 (if twrB ps then 0 else 31)) ∧ Below w.heap.size w w' := by
  rcases hp with rfl | ⟨b, o, rfl, hp, _⟩
  · exact CheckTower_short [] a c w (by simp) (by simp)
  · exact CheckTower_any ps b o c w hp hl
end Go.Proofs.Ytlehddifcjklgaa
