import Derived.Test.YtlamppplnojpbaaME
import Derived.Laws.AppendOwn
import Derived.ChangeKeysEq
import Derived.Maps.RangeWalk
import Derived.Maps.OwnIn
import Derived.Maps.AppendAt
import Derived.RangeFuncNested
import Derived.RangeFuncBound
import Derived.RangeFuncCalls
import Derived.RangeFuncLeaves
import Derived.Shelf.Abstract
import Derived.Shelf.RegionOpen
import Derived.WalkKit
import Derived.WalkMore
import Derived.OwnWalkIn
import Derived.TacticsInMore
import Derived.LoopNIn
import Derived.LoopIn
import Derived.WalkSpells
import Derived.WalkLawsBesides
import Derived.BigQuiet
import Derived.Deep.QuietTactic
import Derived.Lib.Hide
import Derived.Deep.RegionHeld3
import Derived.StillTailTactics
import Derived.Deep.LoopGhost
import Derived.Maps.OwnSet
import Derived.Lib.IndexAny
import Derived.Sort.QuietThIn
import Derived.Sort.QuietTacIn
import Derived.Sort.BigQuietIn
import Derived.Laws.OwnMore
namespace Go.Proofs.Ytlamppplnojpbaa
open Go.RowKit Go.Shelf
attribute [local go_sem] Oper.semAt_some
theorem multL_len (ss : List Int) : (multL ss).length = maxF ss / gcdF ss + 1 := by simp [multL]
theorem multL_get (ss : List Int) (i : Nat) (h : i < (multL ss).length) : (multL ss)[i] = ((i * gcdF ss : Nat) : Int) := by simp [multL]
theorem take_one {ss : List Int} {i : Nat} (h : i < ss.length) : gcdF (ss.take (i + 1)) = Nat.gcd (gcdF (ss.take i)) ss[i].toNat ∧ maxF (ss.take (i + 1)) = max (maxF (ss.take i)) ss[i].toNat := by
  rw [List.take_succ_eq_append_getElem h]; exact ⟨gcdF_snoc _ _, maxF_snoc _ _⟩
theorem take_bd {ss : List Int} (hj : jugsB ss = true) (i : Nat) : gcdF (ss.take i) ≤ 12 ∧ maxF (ss.take i) ≤ 12 := by
  have hz : ∀ z ∈ ss.take i, 1 ≤ z ∧ z ≤ 12 := fun z h => jugsB_in hj (List.mem_of_mem_take h)
  obtain ⟨a1, a2⟩ := fold_gcd_dvd (ss.take i) 0
  obtain ⟨b1, b2, b3⟩ := fold_max (ss.take i) 0
  constructor
  · rcases Nat.eq_zero_or_pos (ss.take i).length with h | h
    · rw [List.eq_nil_of_length_eq_zero h]; decide
    · have hm := List.getElem_mem h
      have := Nat.le_of_dvd (by have := hz _ hm; omega) (a2 _ hm)
      have := hz _ hm
      unfold gcdF; omega
  · rcases b3 with h | ⟨z, hm, h⟩
    · unfold maxF; omega
    · have := hz z hm
      unfold maxF; omega
set_option maxRecDepth 100000 in
set_option maxHeartbeats 2000000 in
theorem JugBezout_any (zs : List Int) (v : Value) (w : World) (hv : SlI w v zs) (h1 : zs.length ≤ 9223372036854775807) :
    Calls Try.prog 11 #[v] w fun e w' => e = .returned (.bool true) ∧ Below w.heap.size w w' := by
  have HT := Lib.hid (tame_any zs v 4 (by omega) w hv h1)
  have hj0 := tameF_jugs zs 4 (by omega)
  generalize tameF zs 4 = ss at *
  have HJ := Lib.hid hj0
  clear hj0 hv
  go_enter Try.func11, Try.ntmps11
  go_wp2_with fail
  refine HT.out.mono ?_
  rintro e w1 ⟨x, rfl, hx, hb1⟩
  obtain ⟨hn1, hn4⟩ := jugsB_len HJ.out
  obtain ⟨gx, cx, rfl, hgx, hix⟩ := own_ints hx (by intro h; rw [h] at hn1; simp at hn1)
  have HX1 := Lib.hid (sli_own hx)
  have HB1 := Lib.hid hb1
  have HI1 := Lib.hid hix
  have HG1 := Lib.hid hgx
  clear hx hb1 HT hgx hix
  go_wp2_with fail
  have hres0 : ∃ res, srch (padF ss) glN (ssF false ss.length) 28562 (padF []) = some res := by
    refine srch_ends (padF ss) glN (-1) (ss.length + 1) (.inl rfl) (by omega) _ ?_
    obtain ⟨_, _, _, hall, _⟩ := ss_facts HJ.out
    refine ⟨rfl, fun i hi => ?_⟩
    have e : (padF []).getD i 0 = 0 := by rw [padF_getD _ _ hi]; simp
    rw [e, padF_getD _ _ hi]
    by_cases h : i < ss.length
    · have := hall i h
      have := jugsB_in HJ.out (List.getElem_mem h)
      rw [getD_lt h]; omega
    · rw [List.getD_eq_getElem?_getD, List.getElem?_eq_none (by omega)]; simp
  obtain ⟨res, hres⟩ := hres0
  have HA := Lib.hid (Amounts_ok ss _ w1 HX1.out HJ.out res hres)
  rw [amounts_mult HJ.out hres] at HA
  clear hres
  refine HA.out.mono ?_
  rintro e w2 ⟨a, rfl, ha, hb2⟩
  obtain ⟨ga, ca, rfl, hga, hia⟩ := own_ints ha (by intro h; have := multL_len ss; rw [h] at this; simp at this)
  have HB2 := Lib.hid (Below.andThen HB1.out hb2 (Nat.le_refl _))
  have HI2 := Lib.hid (HI1.out.below hb2 HG1.out)
  have HG2 := Lib.hid (Nat.lt_of_lt_of_le HG1.out hb2.size)
  have HIA := Lib.hid hia
  have HGA := Lib.hid hga
  clear ha hb2 hga hia HA HB1 HI1 HG1 HX1
  have hML := multL_len ss
  have HMG := Lib.hid (multL_get ss)
  obtain ⟨⟨hgp1, hgp2⟩, ⟨hmp1, hmp2⟩, _, _, _⟩ := ss_facts HJ.out
  have HML := Lib.hid hML
  generalize multL ss = ML at *
  have hlen13 : ML.length ≤ 13 := by
    have := HML.out
    have h2 : maxF ss / gcdF ss ≤ maxF ss := Nat.div_le_self _ _
    omega
  clear hML
  go_wp2_with fail
  go_loopw [6, 7, 8] (fun gv mv iv wr => ∃ i : Nat, i ≤ ss.length ∧ iv = .int .i64 (i : Int) ∧ gv = .int .i64 (gcdF (ss.take i) : Int) ∧ mv = .int .i64 (maxF (ss.take i) : Int) ∧ Hid (Below w2.heap.size w2 wr)) (fun _ _ iv _ => (4 - intOf iv).toNat)
  case atStart => exact ⟨0, by omega, rfl, rfl, rfl, Lib.hid (Below.refl _ _)⟩
  case round =>
    obtain ⟨i, hi, rfl, rfl, rfl, HBR⟩ := hrel
    have kw : IntKind.i64.wrap ((i : Int) + 1) = ((i + 1 : Nat) : Int) := by rw [i64_of _ (by omega) (by omega)]; omega
    obtain ⟨bg, bm⟩ := take_bd HJ.out i
    by_cases hlt : i < ss.length
    · have hd1 : decide ((i : Int) < (ss.length : Int)) = true := decide_eq_true (by omega)
      have hd1n : decide (i < ss.length) = true := decide_eq_true hlt
      have cx0 := (HI2.out.below HBR.out HG2.out).at_ i hlt
      rw [Nat.zero_add] at cx0
      obtain ⟨n1, n2⟩ := take_one hlt
      obtain ⟨z1, z2⟩ := jugsB_in HJ.out (List.getElem_mem hlt)
      have N1 := Lib.hid n1
      have N2 := Lib.hid n2
      clear n1 n2
      obtain ⟨xn, hxn⟩ : ∃ xn : Nat, ss[i] = (xn : Int) := ⟨ss[i].toNat, by omega⟩
      rw [hxn] at cx0 N1 N2 z1 z2
      rw [Int.toNat_natCast] at N1 N2
      clear hxn
      generalize gcdF (ss.take i) = G at *
      generalize maxF (ss.take i) = M at *
      go_wp2_with fail
      all_goals
        go_loopw [6, 9] (fun gv yv wx => ∃ g y : Nat, g ≤ 12 ∧ y ≤ 12 ∧ gv = .int .i64 (g : Int) ∧ yv = .int .i64 (y : Int) ∧ Hid (Nat.gcd g y = Nat.gcd G xn) ∧ Hid (Below w2.heap.size w2 wx)) (fun _ yv _ => (intOf yv).toNat)
        case atStart => exact ⟨G, xn, by omega, by omega, rfl, rfl, Lib.hid rfl, HBR⟩
        case round =>
          obtain ⟨g, y, hg, hy, rfl, rfl, HGC, HBX⟩ := hrel
          by_cases hy0 : 0 < y
          · have hd2 : decide (0 < (y : Int)) = true := decide_eq_true (by omega)
            have hd2n : decide (0 < y) = true := decide_eq_true hy0
            have ht : (g : Int).tmod (y : Int) = ((g % y : Nat) : Int) := by rw [Int.tmod_eq_emod_of_nonneg (by omega)]; omega
            have hml := Nat.mod_lt g hy0
            have HN := Lib.hid (show Nat.gcd y (g % y) = Nat.gcd G xn by rw [← HGC.out, Nat.gcd_comm g y, Nat.gcd_rec y g, Nat.gcd_comm])
            go_wp2_with fail
            go_quiet (fail)
            go_wp2_with fail
            go_roundw
            case rel => exact ⟨y, g % y, by omega, by omega, rfl, by rw [Int.natCast_emod], HN, Lib.hid (below_drewN HBX.out _)⟩
            case measure => simp [intOf]; omega
          · have hd2 : decide (0 < (y : Int)) = false := decide_eq_false (by omega)
            have hd2n : decide (0 < y) = false := decide_eq_false hy0
            obtain rfl : y = 0 := by omega
            have HG0 := Lib.hid (show g = Nat.gcd G xn by rw [← HGC.out, Nat.gcd_zero_right])
            clear HGC
            go_wp2_with fail
            go_roundw
            case rel => exact ⟨i + 1, by omega, by simp, by rw [HG0.out, N1.out], by rw [N2.out]; exact congrArg _ (by omega), HBX⟩
            case measure => simp [intOf]; omega
    · have hd1 : decide ((i : Int) < (ss.length : Int)) = false := decide_eq_false (by omega)
      have hd1n : decide (i < ss.length) = false := decide_eq_false hlt
      obtain rfl : i = ss.length := by omega
      rw [List.take_length]
      have hq : maxF ss / gcdF ss ≤ maxF ss := Nat.div_le_self _ _
      have hdv : (maxF ss : Int) / (gcdF ss : Int) = ((maxF ss / gcdF ss : Nat) : Int) := by omega
      have HLQ := HML.out
      clear HML
      generalize maxF ss / gcdF ss = q at *
      generalize gcdF ss = G at *
      generalize maxF ss = M at *
      have hne : ((ML.length : Int) != (q : Int) + 1) = false := by simp; omega
      have HLQ := Lib.hid HLQ
      go_wp2_with fail
      clear hdv hne
      go_loopw [10] (fun iv wx => ∃ i : Nat, i ≤ ML.length ∧ iv = .int .i64 (i : Int) ∧ Hid (Below w2.heap.size w2 wx)) (fun iv _ => (13 - intOf iv).toNat)
      case atStart => exact ⟨0, by omega, rfl, HBR⟩
      case round =>
        obtain ⟨k, hk, rfl, HBX⟩ := hrel
        have kw : IntKind.i64.wrap ((k : Int) + 1) = ((k + 1 : Nat) : Int) := by rw [i64_of _ (by omega) (by omega)]; omega
        by_cases hkl : k < ML.length
        · have hd2 : decide ((k : Int) < (ML.length : Int)) = true := decide_eq_true (by omega)
          have hd2n : decide (k < ML.length) = true := decide_eq_true hkl
          have ca0 := (HIA.out.below HBX.out HGA.out).at_ k hkl
          rw [Nat.zero_add, HMG.out k hkl] at ca0
          have hkg : k * G ≤ 13 * 13 := Nat.mul_le_mul (by omega) (by omega)
          have hkG : (k : Int) * (G : Int) = ((k * G : Nat) : Int) := by simp
          generalize k * G = kG at *
          have hne2 : ((kG : Int) != (kG : Int)) = false := by simp
          go_wp2_with fail
          exact ⟨⟨k + 1, by omega, by simp, HBX⟩, by simp [intOf]; omega⟩
        · have hd2 : decide ((k : Int) < (ML.length : Int)) = false := decide_eq_false (by omega)
          have hd2n : decide (k < ML.length) = false := decide_eq_false hkl
          go_wp2_with fail
          refine (awake_any _).mono ?_
          rintro e w3 ⟨rfl, hb⟩
          have HE := Lib.hid (Below.andThen (Below.andThen HB2.out HBX.out (Nat.le_refl _)) hb (Nat.le_refl _))
          clear hb
          go_wp2_with fail
          go_ret
          exact ⟨rfl, HE.out⟩
end Go.Proofs.Ytlamppplnojpbaa
