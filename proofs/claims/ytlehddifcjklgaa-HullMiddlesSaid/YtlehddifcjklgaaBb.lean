import Derived.Test.YtlehddifcjklgaaBa
import Derived.Maps.OwnIn
import Derived.Maps.OwnSet
import Derived.Maps.AppendAt
import Derived.RangeFuncNested
import Derived.RangeFuncBound
import Derived.RangeFuncCalls
import Derived.RangeFuncLeaves
import Derived.Shelf.Abstract
import Derived.Shelf.RegionOpen
import Derived.WalkKit
import Derived.OwnWalkIn
import Derived.TacticsInMore
import Derived.LoopNIn
import Derived.LoopIn
import Derived.WalkMore
import Derived.Sort.QuietThIn
import Derived.Sort.QuietTacIn
import Derived.Sort.BigQuietIn
import Derived.WalkSpells
import Derived.WalkLawsBesides
import Derived.BigQuiet
import Derived.Deep.QuietTactic
import Derived.Lib.Hide
import Derived.Deep.RegionHeld3
import Derived.StillTailTactics
import Derived.Deep.LoopGhost
import Derived.Lib.IndexAny
namespace Go.Proofs.Ytlehddifcjklgaa
open Go.RowKit Go.Shelf
attribute [local go_sem] Oper.semAt_some
set_option maxHeartbeats 800000 in
theorem rgcd2_any (a b : Int) (w : World) (ha : Bd 4000000000000000000 a) (hb : Bd 4000000000000000000 b) :
    Calls Try.prog 80 #[.int .i64 a, .int .i64 b] w fun e w' => e = .returned (.int .i64 (gcdI a b)) ∧ ∃ n, w' = w.drewN n := by
  have e1 : IntKind.i64.wrap (-a) = -a := i64_bd ha.neg (by omega)
  have e2 : IntKind.i64.wrap (-b) = -b := i64_bd hb.neg (by omega)
  have HA := Lib.hid ha
  have HB := Lib.hid hb
  clear ha hb
  go_enter Try.func80, Try.ntmps80
  go_wp2_with fail
  all_goals
    clear e1 e2
    go_loopw [0, 1] (fun x y wr => ∃ p q : Int, 0 ≤ p ∧ 0 ≤ q ∧ p ≤ 4000000000000000000 ∧ q ≤ 4000000000000000000 ∧ Hid (Int.gcd p q = Int.gcd a b) ∧ x = .int .i64 p ∧ y = .int .i64 q ∧ ∃ n, wr = w.drewN n) (fun _ y _ => (intOf y).natAbs)
    case atStart =>
      have ha := HA.out
      have hb := HB.out
      unfold Bd at ha hb
      refine ⟨_, _, ?_, ?_, ?_, ?_, ?_, rfl, rfl, 0, rfl⟩
      · omega
      · omega
      · omega
      · omega
      · exact Lib.hid (by simp [Int.gcd])
    case round =>
      obtain ⟨p, q, hp, hq, hp2, hq2, hg, rfl, rfl, n, rfl⟩ := hrel
      by_cases hz : q = 0
      · subst hz
        have fin : gcdI a b = p := by unfold gcdI; rw [← hg.out]; simp; omega
        have Fin := Lib.hid fin
        clear fin hg
        go_wp2
        go_ret
        exact ⟨ret_int (by rw [Fin.out]), n, rfl⟩
      · have hb1 : decide (0 < q) = true := decide_eq_true (by omega)
        have e2 : ¬ (q = 0) := hz
        have em : p.tmod q = p % q := Int.tmod_eq_emod_of_nonneg hp
        have hm1 := Int.emod_nonneg p hz
        have hm2 := Int.emod_lt_of_pos p (show 0 < q by omega)
        have hg2 : Int.gcd q (p % q) = Int.gcd a b := by
          rw [← hg.out, ← em]; unfold Int.gcd; rw [Int.natAbs_tmod, Nat.gcd_comm p.natAbs, Nat.gcd_rec q.natAbs p.natAbs, Nat.gcd_comm]
        have HG := Lib.hid hg2
        clear hg2 hg
        go_wp2
        go_quiet (fail)
        go_wp2
        go_roundw
        case rel => exact ⟨q, _, hq, hm1, hq2, by omega, HG, rfl, rfl, _, drewN_drewN _ _ _⟩
        case measure => simp only [intOf]; omega
/-- the greatest right end of the first planks -/
def rch (ps : List Pt) : Nat → Int
  | 0 => (ptAt ps 0).1 + (ptAt ps 0).2
  | k + 1 => max (rch ps k) ((ptAt ps k).1 + (ptAt ps k).2)
theorem rch_one (ps : List Pt) : rch ps 1 = rch ps 0 := by simp [rch]
theorem rch_bd {ps : List Pt} (hbd : ∀ i (h : i < ps.length), Bd 1000 ps[i].1 ∧ 1 ≤ ps[i].2 ∧ ps[i].2 ≤ 100) (h1 : 1 ≤ ps.length) : ∀ k, k ≤ ps.length → Bd 2000 (rch ps k)
  | 0, _ => by
    have := hbd 0 (by omega)
    unfold rch; rw [ptAt_lt (by omega)]; unfold Bd at *; omega
  | k + 1, hk => by
    have := hbd k (by omega)
    have h2 := rch_bd hbd h1 k (by omega)
    unfold rch; rw [ptAt_lt (by omega)]; unfold Bd at *; omega
set_option maxHeartbeats 1000000 in
theorem rReach_any (ps : List Pt) (b c : Nat) (w : World) (hp : PtsAt w b 0 ps) (h1 : 1 ≤ ps.length) (h12 : ps.length ≤ 12) (hbd : ∀ i (h : i < ps.length), Bd 1000 ps[i].1 ∧ 1 ≤ ps[i].2 ∧ ps[i].2 ≤ 100) :
    Calls Try.prog 54 #[.slice (some ⟨b, 0, none⟩) ps.length c] w fun e w' => e = .returned (.int .i64 (rch ps ps.length)) ∧ Below w.heap.size w w' := by
  have HP := Lib.hid hp
  have HBD := Lib.hid hbd
  have x0 := hp.x 0 (by omega)
  have y0 := hp.y 0 (by omega)
  have b0 := hbd 0 (by omega)
  have r0 := Lib.hid (show rch ps 1 = ps[0].1 + ps[0].2 by rw [rch_one]; unfold rch; rw [ptAt_lt (by omega)])
  generalize ps[0] = q at *
  obtain ⟨q1, q2⟩ := q
  dsimp only at x0 y0 b0 r0
  have e0 : IntKind.i64.wrap (q1 + q2) = q1 + q2 := i64_of _ (by unfold Bd at b0; omega) (by unfold Bd at b0; omega)
  have dn : decide ((0 : Int) < (ps.length : Int)) = true := decide_eq_true (by omega)
  clear hp hbd b0
  rw [show 0 + 0 * 2 = 0 from rfl] at x0
  rw [show 0 + 0 * 2 + 1 = 1 from rfl] at y0
  go_enter Try.func54, Try.ntmps54
  go_wp2_with fail
  go_quiet (fail)
  go_wp2_with fail

  go_loopw [3, 4] (fun x i wr => ∃ k : Nat, 1 ≤ k ∧ k ≤ ps.length ∧ i = .int .i64 (k : Int) ∧ Hid (x = .int .i64 (rch ps k)) ∧ Hid (∃ n, wr = w.drewN n)) (fun _ i _ => ps.length - (intOf i).toNat)
  case atStart => exact ⟨1, by omega, by omega, rfl, Lib.hid (by rw [r0.out]), Lib.hid ⟨_, rfl⟩⟩
  case round =>
    obtain ⟨k, h1k, hk, rfl, HX, HN⟩ := hrel
    by_cases hlt : k < ps.length
    · have hd : decide ((k : Int) < (ps.length : Int)) = true := decide_eq_true (by omega)
      obtain ⟨n, hn⟩ := HN.out
      have hx : wr.cell? ⟨b, 0 + k * 2, none⟩ = some (.int .i64 ps[k].1) := by rw [hn]; exact HP.out.x k hlt
      have hy : wr.cell? ⟨b, 0 + k * 2 + 1, none⟩ = some (.int .i64 ps[k].2) := by rw [hn]; exact HP.out.y k hlt
      rw [Nat.zero_add] at hx hy
      have hb := HBD.out k hlt
      have hbr := rch_bd HBD.out h1 k (by omega)
      have hs : rch ps (k + 1) = max (rch ps k) (ps[k].1 + ps[k].2) := by rw [← ptAt_lt hlt]; rfl
      have hxv := HX.out
      generalize ps[k] = q at *
      obtain ⟨q1, q2⟩ := q
      generalize rch ps k = m at *
      dsimp only at hx hy hb hs
      subst hxv
      have e2 : IntKind.i64.wrap (q1 + q2) = q1 + q2 := i64_of _ (by unfold Bd at hb; omega) (by unfold Bd at hb; omega)
      have HS := Lib.hid hs
      have NN := Lib.hid hn
      clear hs hb hbr hn HX
      go_wp2_with fail
      go_quiet (fail)
      go_wp2_with fail
      all_goals
        go_roundw
        case rel =>
          refine ⟨k + 1, by omega, by omega, rfl, Lib.hid ?_, Lib.hid ⟨_, by rw [NN.out, drewN_drewN]⟩⟩
          rw [HS.out]
          first
            | rfl
            | (congr 1; omega)
        case measure => simp [intOf]; omega
    · have hd : decide ((k : Int) < (ps.length : Int)) = false := decide_eq_false (by omega)
      obtain rfl : k = ps.length := by omega
      have hxv := HX.out
      subst hxv
      obtain ⟨n, hn⟩ := HN.out
      have NN := Lib.hid hn
      clear hn HX
      go_wp2_with fail
      go_ret
      exact ⟨rfl, by rw [NN.out]; exact below_drewN (Below.refl _ _) _⟩
end Go.Proofs.Ytlehddifcjklgaa
