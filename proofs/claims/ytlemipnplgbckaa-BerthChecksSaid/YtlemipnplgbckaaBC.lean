import Derived.Test.YtlemipnplgbckaaBB
import Derived.Laws.AppendOwn
import Derived.ChangeKeysEq
import Derived.Maps.RangeWalk
import Derived.Maps.OwnIn
import Derived.Maps.AppendAt
import Derived.RangeFuncNested
import Derived.RangeFuncBound
import Derived.RangeFuncCalls
import Derived.RangeFuncLeaves
import Derived.Shelf.Abstract
import Derived.Shelf.RegionOpen
import Derived.WalkKit
import Derived.WalkMore
import Derived.OwnWalkIn
import Derived.TacticsInMore
import Derived.LoopNIn
import Derived.LoopIn
import Derived.WalkSpells
import Derived.WalkLawsBesides
import Derived.BigQuiet
import Derived.Deep.QuietTactic
import Derived.Lib.Hide
import Derived.Deep.RegionHeld3
import Derived.StillTailTactics
import Derived.Deep.LoopGhost
import Derived.Maps.OwnSet
import Derived.Lib.IndexAny
import Derived.Sort.QuietThIn
import Derived.Sort.QuietTacIn
import Derived.Sort.BigQuietIn
import Derived.Laws.OwnMore
import Derived.DeepKeys4
import Derived.Maps.Views
import Derived.Maps.OwnOps
import Derived.Laws.OwnMore
import Derived.Deep.DeepCutAuto
import Derived.ChangeKeysEq
namespace Go.Proofs.Ytlemipnplgbckaa
open Go.RowKit Go.Shelf
attribute [local go_sem] Oper.semAt_some
def cirV (X Y D R : Int) : Value := .agg #[.int .i64 X, .int .i64 Y, .int .i64 D, .int .i64 R]
/-- the square of a point's distance from the middle, times the square of D -/
def apF (X Y D : Int) (p : Pt) : Int := (p.1 * D - X) * (p.1 * D - X) + (p.2 * D - Y) * (p.2 * D - Y)
set_option maxHeartbeats 400000 in
theorem apart_any (X Y D R p q : Int) (w : World) (h1 : Bd 1000000 X) (h2 : Bd 1000000 Y) (h3 : Bd 1000000 D) (h4 : Bd 20 p) (h5 : Bd 20 q) :
    Calls Try.prog 95 #[.agg #[.int .i64 X, .int .i64 Y, .int .i64 D, .int .i64 R], .agg #[.int .i64 p, .int .i64 q]] w fun e w' => e = .returned (.int .i64 (apF X Y D (p, q))) ∧ Below w.heap.size w w' := by
  have m1 := h4.mul h3
  have m2 := h5.mul h3
  have b1 := m1.sub h1
  have b2 := m2.sub h2
  have e1 := i64_bd m1 (by omega)
  have e2 := i64_bd m2 (by omega)
  have e3 := i64_bd b1 (by omega)
  have e4 := i64_bd b2 (by omega)
  have B1 := Lib.hid (b1.mono (C := 1000000000) (by omega))
  have B2 := Lib.hid (b2.mono (C := 1000000000) (by omega))
  have HAP := Lib.hid (show apF X Y D (p, q) = (p * D - X) * (p * D - X) + (q * D - Y) * (q * D - Y) from rfl)
  clear m1 m2 b1 b2 h1 h2 h3 h4 h5
  go_enter Try.func95, Try.ntmps95
  go_wp2_with fail
  refine (sq_any (p * D - X) (q * D - Y) _ 0 2 _ (by simp [cell_al]) (by simp [cell_al]) (by omega) B1.out B2.out).mono ?_
  rintro e w1 ⟨rfl, rfl⟩
  go_wp2_with fail
  go_ret
  exact ⟨ret_int HAP.out.symm, (((Below.refl w.heap.size w).alloc (Nat.le_refl _) _).alloc (by simp) _).alloc (by simp; omega) _⟩
/-- the greatest number that divides all of three -/
def gcd3 (x y d : Int) : Int := (Nat.gcd (Nat.gcd x.natAbs y.natAbs) d.natAbs : Nat)
def gcdL : Nat → List Int → Nat
  | g, [] => g
  | g, x :: xs => gcdL (Nat.gcd g x.natAbs) xs
theorem gcdL_snoc : ∀ (xs : List Int) (g : Nat) (x : Int), gcdL g (xs ++ [x]) = Nat.gcd (gcdL g xs) x.natAbs
  | [], _, _ => rfl
  | _y :: ys, _g, x => gcdL_snoc ys _ x
set_option maxHeartbeats 1000000 in
theorem gcd_any (zs : List Int) (b o c : Nat) (w : World) (hz : IntsAt w b o zs) (hl : zs.length ≤ 1000) (hB : ∀ z ∈ zs, Bd 4000000000000000000 z) :
    Calls Try.prog 74 #[.slice (some ⟨b, o, none⟩) zs.length c] w fun e w' => e = .returned (.int .i64 (gcdL 0 zs : Nat)) ∧ Below w.heap.size w w' := by
  have HZ := Lib.hid hz
  have HB := Lib.hid hB
  clear hz hB
  go_enter Try.func74, Try.ntmps74
  go_wp2_with fail
  go_loopw [3, 8] (fun av iv wr => ∃ (k : Nat) (p : Int), k ≤ zs.length ∧ iv = .int .i64 (k : Int) ∧ av = .int .i64 p ∧ Bd 4000000000000000000 p ∧ Hid (p.natAbs = gcdL 0 (zs.take k)) ∧ ∃ n, wr = w.drewN n) (fun _ iv _ => (zs.length - intOf iv).toNat)
  case atStart => exact ⟨0, 0, by omega, rfl, rfl, by simp [Bd], Lib.hid rfl, 0, rfl⟩
  case round =>
    obtain ⟨k, p, hk, rfl, rfl, hp, HG, n, rfl⟩ := hrel
    have kw : IntKind.i64.wrap ((k : Int) + 1) = ((k + 1 : Nat) : Int) := by rw [i64_of _ (by omega) (by omega)]; omega
    by_cases hlt : k < zs.length
    · have hd : decide ((k : Int) < (zs.length : Int)) = true := decide_eq_true (by omega)
      have hdn : decide (k < zs.length) = true := decide_eq_true hlt
      have c0 : (w.drewN n).cell? ⟨b, o + k, none⟩ = some (.int .i64 zs[k]) := HZ.out.at_ k hlt
      have hz := HB.out _ (List.getElem_mem hlt)
      have HT := Lib.hid (show gcdL 0 (zs.take (k + 1)) = Nat.gcd (gcdL 0 (zs.take k)) zs[k].natAbs by rw [List.take_succ_eq_append_getElem hlt, gcdL_snoc])
      generalize zs[k] = z at *
      go_wp2_with fail
      go_loopw [3, 5] (fun av bv wx => ∃ (x y : Int), av = .int .i64 x ∧ bv = .int .i64 y ∧ Bd 4000000000000000000 x ∧ Bd 4000000000000000000 y ∧ Hid (Nat.gcd x.natAbs y.natAbs = Nat.gcd p.natAbs z.natAbs) ∧ ∃ n, wx = w.drewN n) (fun _ bv _ => (intOf bv).natAbs)
      case atStart => exact ⟨p, z, rfl, rfl, hp, hz, Lib.hid rfl, n, rfl⟩
      case round =>
        obtain ⟨x, y, rfl, rfl, hx, hy, HGG, n2, rfl⟩ := hrel
        by_cases hy0 : y = 0
        · subst hy0
          have HN := Lib.hid (show x.natAbs = gcdL 0 (zs.take (k + 1)) by
            rw [HT.out, ← HG.out, ← HGG.out]; simp)
          go_wp2_with fail
          exact ⟨⟨k + 1, x, by omega, by simp, rfl, hx, HN, n2, rfl⟩, by simp [intOf]; omega⟩
        · have hb1 : (y != 0) = true := by simp; omega
          have e2 : ¬ (y = 0) := by omega
          have hm : (x.tmod y).natAbs < y.natAbs := by
            rw [Int.natAbs_tmod]; exact Nat.mod_lt _ (by omega)
          have hg2 : Nat.gcd y.natAbs (x.tmod y).natAbs = Nat.gcd p.natAbs z.natAbs := by
            rw [← HGG.out, Int.natAbs_tmod, Nat.gcd_comm x.natAbs, Nat.gcd_rec y.natAbs x.natAbs, Nat.gcd_comm]
          have hbq : Bd 4000000000000000000 (x.tmod y) := by unfold Bd at *; omega
          have HG2 := Lib.hid hg2
          have HM := Lib.hid hm
          clear hg2 hm
          go_wp2_with fail
          go_quiet (fail)
          go_wp2_with fail
          exact ⟨⟨y, _, rfl, rfl, hy, hbq, HG2, _, drewN_drewN _ _ _⟩, by simp only [intOf]; exact HM.out⟩
    · have hd : decide ((k : Int) < (zs.length : Int)) = false := decide_eq_false (by omega)
      have hdn : decide (k < zs.length) = false := decide_eq_false hlt
      obtain rfl : k = zs.length := by omega
      have e1 : IntKind.i64.wrap (-p) = -p := i64_bd hp.neg (by omega)
      have HF := Lib.hid (show ((gcdL 0 zs : Nat) : Int) = if p < -p then -p else p by
        have := HG.out
        rw [List.take_length] at this
        rw [← this]; split <;> omega)
      go_wp2_with fail
      all_goals
        go_ret
        refine ⟨ret_int ?_, below_drewN (Below.refl _ _) n⟩
        rw [HF.out]
        split <;> omega
end Go.Proofs.Ytlemipnplgbckaa
