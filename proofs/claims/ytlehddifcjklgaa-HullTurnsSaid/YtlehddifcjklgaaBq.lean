import Derived.Test.YtlehddifcjklgaaBo
import Derived.Maps.OwnIn
import Derived.Maps.OwnSet
import Derived.Maps.AppendAt
import Derived.RangeFuncNested
import Derived.RangeFuncBound
import Derived.RangeFuncCalls
import Derived.RangeFuncLeaves
import Derived.Shelf.Abstract
import Derived.Shelf.RegionOpen
import Derived.WalkKit
import Derived.OwnWalkIn
import Derived.TacticsInMore
import Derived.LoopNIn
import Derived.LoopIn
import Derived.WalkMore
import Derived.Sort.QuietThIn
import Derived.Sort.QuietTacIn
import Derived.Sort.BigQuietIn
import Derived.WalkSpells
import Derived.WalkLawsBesides
import Derived.BigQuiet
import Derived.Deep.QuietTactic
import Derived.Lib.Hide
import Derived.Deep.RegionHeld3
import Derived.StillTailTactics
import Derived.Deep.LoopGhost
import Derived.Lib.IndexAny
namespace Go.Proofs.Ytlehddifcjklgaa
open Go.RowKit Go.Shelf
attribute [local go_sem] Oper.semAt_some
set_option maxHeartbeats 400000 in
theorem Turn_any (a1 a2 b1 b2 c1 c2 : Int) (w : World) (h1 : Bd 1000 a1) (h2 : Bd 1000 a2) (h3 : Bd 1000 b1) (h4 : Bd 1000 b2) (h5 : Bd 1000 c1) (h6 : Bd 1000 c2) :
    Calls Try.prog 60 #[.agg #[.int .i64 a1, .int .i64 a2], .agg #[.int .i64 b1, .int .i64 b2], .agg #[.int .i64 c1, .int .i64 c2]] w fun e w' => e = .returned (.int .i64 (turn (a1, a2) (b1, b2) (c1, c2))) ∧ Below w.heap.size w w' := by
  have e1 := i64_bd (h3.sub h1) (by omega)
  have e2 := i64_bd (h6.sub h4) (by omega)
  have e3 := i64_bd (h4.sub h2) (by omega)
  have e4 := i64_bd (h5.sub h3) (by omega)
  have e5 := i64_bd ((h3.sub h1).mul (h6.sub h4)) (by omega)
  have e6 := i64_bd ((h4.sub h2).mul (h5.sub h3)) (by omega)
  have e7 := i64_bd (((h3.sub h1).mul (h6.sub h4)).sub ((h4.sub h2).mul (h5.sub h3))) (by omega)
  unfold turn
  dsimp only
  go_enter Try.func60, Try.ntmps60
  go_wp2_with fail
  go_ret
  exact ⟨rfl, (((Below.refl w.heap.size w).alloc (Nat.le_refl _) _).alloc (by simp) _).alloc (by simp; omega) _⟩
set_option maxRecDepth 100000 in
set_option maxHeartbeats 1000000 in
theorem Numbers_mid (ps : List Pt) (b o c : Nat) (w : World) (hp : PtsAt w b o ps) (hl : ps.length ≤ 1000000) :
    Calls Try.prog 41 #[.slice (some ⟨b, o, none⟩) ps.length c] w fun e w' => e = .returned (.bool (areP ps)) ∧ Below w.heap.size w w' := by
  obtain ⟨E, hE⟩ : ∃ E : Bool, areP ps = E := ⟨_, rfl⟩
  rw [hE]
  have HE := Lib.hid hE
  have HP := Lib.hid hp
  clear hp hE
  go_enter Try.func41, Try.ntmps41
  go_wp2_with fail
  go_loopw [3] (fun i wr => ∃ k : Nat, k ≤ ps.length ∧ i = .int .i64 (k : Int) ∧ Hid (Below w.heap.size w wr) ∧ Hid ((ps.take k).all inR = true)) (fun i _ => ps.length - (intOf i).toNat)
  case atStart => exact ⟨0, by omega, rfl, Lib.hid (Below.refl _ _), Lib.hid rfl⟩
  case round =>
    obtain ⟨k, hk, rfl, HB, HK⟩ := hrel
    by_cases hlt : k < ps.length
    · have hd : decide ((k : Int) < (ps.length : Int)) = true := decide_eq_true (by omega)
      have hxw := HP.out.x k hlt
      have hyw := HP.out.y k hlt
      have HS := Lib.hid (show (ps.take (k + 1)).all inR = inR ps[k] by
        rw [List.take_succ_eq_append_getElem hlt, List.all_append, HK.out]; simp)
      have HF := Lib.hid (show inR ps[k] = false → E = false from fun h => by
        rw [← HE.out]; unfold areP
        rw [Bool.and_eq_false_iff]; right
        rw [List.all_eq_false]; exact ⟨ps[k], List.getElem_mem _, by simp [h]⟩)
      generalize ps[k] = p at *
      obtain ⟨p1, p2⟩ := p
      dsimp only at hxw hyw
      go_wp2_with fail
      go_loopw [4] (fun j wx => ∃ m : Nat, m ≤ 2 ∧ j = .int .i64 (m : Int) ∧ Hid (Below w.heap.size w wx) ∧ Hid (1 ≤ m → -20 ≤ p1 ∧ p1 ≤ 20) ∧ Hid (2 ≤ m → -20 ≤ p2 ∧ p2 ≤ 20)) (fun j _ => 2 - (intOf j).toNat)
      case atStart => exact ⟨0, by omega, rfl, HB, Lib.hid (fun h => by omega), Lib.hid (fun h => by omega)⟩
      case round =>
        clear HB
        obtain ⟨m, hm, rfl, HB, H1, H2⟩ := hrel
        have hx := below_at HB.out HP.out.lt hxw
        have hy := below_at HB.out HP.out.lt hyw
        obtain rfl | rfl | rfl : m = 0 ∨ m = 1 ∨ m = 2 := by omega
        · by_cases h1 : p1 < -20
          · have d1 : decide (p1 < -20) = true := decide_eq_true h1
            have HEE := Lib.hid (HF.out (inR_false (.inl h1)))
            go_wp2_with fail
            go_ret
            exact ⟨ret_bool HEE.out.symm, HB.out⟩
          · have d1 : decide (p1 < -20) = false := decide_eq_false h1
            by_cases h2 : 20 < p1
            · have d2 : decide (20 < p1) = true := decide_eq_true h2
              have HEE := Lib.hid (HF.out (inR_false (.inr (.inr (.inl h2)))))
              go_wp2_with fail
              go_ret
              exact ⟨ret_bool HEE.out.symm, HB.out⟩
            · have d2 : decide (20 < p1) = false := decide_eq_false h2
              go_wp2_with fail
              exact ⟨⟨1, by omega, by simp, HB, Lib.hid (fun _ => by omega), Lib.hid (fun h => by omega)⟩, by simp [intOf]⟩
        · by_cases h1 : p2 < -20
          · have d1 : decide (p2 < -20) = true := decide_eq_true h1
            have HEE := Lib.hid (HF.out (inR_false (.inr (.inl h1))))
            go_wp2_with fail
            go_ret
            exact ⟨ret_bool HEE.out.symm, HB.out⟩
          · have d1 : decide (p2 < -20) = false := decide_eq_false h1
            by_cases h2 : 20 < p2
            · have d2 : decide (20 < p2) = true := decide_eq_true h2
              have HEE := Lib.hid (HF.out (inR_false (.inr (.inr (.inr h2)))))
              go_wp2_with fail
              go_ret
              exact ⟨ret_bool HEE.out.symm, HB.out⟩
            · have d2 : decide (20 < p2) = false := decide_eq_false h2
              go_wp2_with fail
              exact ⟨⟨2, by omega, by simp, HB, Lib.hid (fun _ => H1.out (by omega)), Lib.hid (fun _ => by omega)⟩, by simp [intOf]⟩
        · have HG := Lib.hid (show (ps.take (k + 1)).all inR = true by
            rw [HS.out]
            have a := H1.out (by omega)
            have b := H2.out (by omega)
            exact inR_true a.1 a.2 b.1 b.2)
          go_wp2_with fail
          exact ⟨⟨k + 1, by omega, by simp, HB, HG⟩, by simp [intOf]; omega⟩
    · have hd : decide ((k : Int) < (ps.length : Int)) = false := decide_eq_false (by omega)
      obtain rfl : k = ps.length := by omega
      have HA := Lib.hid (show ps.all inR = true by have := HK.out; rwa [List.take_length] at this)
      by_cases g1 : 3 ≤ ps.length
      · have d1 : decide (3 ≤ (ps.length : Int)) = true := decide_eq_true (by omega)
        by_cases g2 : ps.length ≤ 12
        · have d2 : decide ((ps.length : Int) ≤ 12) = true := decide_eq_true (by omega)
          have HEE := Lib.hid (show E = true by rw [← HE.out]; unfold areP; rw [HA.out]; simp [g1, g2])
          go_wp2_with fail
          go_ret
          exact ⟨ret_bool HEE.out.symm, HB.out⟩
        · have d2 : decide ((ps.length : Int) ≤ 12) = false := decide_eq_false (by omega)
          have HEE := Lib.hid (show E = false by rw [← HE.out]; unfold areP; simp [g2])
          go_wp2_with fail
          go_ret
          exact ⟨ret_bool HEE.out.symm, HB.out⟩
      · have d1 : decide (3 ≤ (ps.length : Int)) = false := decide_eq_false (by omega)
        have HEE := Lib.hid (show E = false by rw [← HE.out]; unfold areP; simp [g1])
        go_wp2_with fail
        go_ret
        exact ⟨ret_bool HEE.out.symm, HB.out⟩
theorem Numbers_nil (a : Option Addr) (c : Nat) (w : World) :
    Calls Try.prog 41 #[.slice a 0 c] w fun e w' => e = .returned (.bool false) ∧ Below w.heap.size w w' := by
  go_enter Try.func41, Try.ntmps41
  go_wp2_with fail
  go_loopw [3] (fun i wr => i = .int .i64 0 ∧ Hid (Below w.heap.size w wr)) (fun i _ => 0)
  case atStart => exact ⟨rfl, Lib.hid (Below.refl _ _)⟩
  case round =>
    obtain ⟨rfl, HB⟩ := hrel
    go_wp2_with fail
    go_ret
    exact ⟨rfl, HB.out⟩
theorem Numbers_any (ps : List Pt) (a : Option Addr) (c : Nat) (w : World) (hp : PtsA w a ps c) (hl : ps.length ≤ 1000000) :
    Calls Try.prog 41 #[.slice a ps.length c] w fun e w' => e = .returned (.bool (areP ps)) ∧ Below w.heap.size w w' := by
  rcases hp with rfl | ⟨b, o, rfl, hp, _⟩
  · exact Numbers_nil a c w
  · exact Numbers_mid ps b o c w hp hl
end Go.Proofs.Ytlehddifcjklgaa
