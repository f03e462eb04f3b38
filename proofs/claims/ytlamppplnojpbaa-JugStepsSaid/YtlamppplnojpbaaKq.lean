import Derived.Test.YtlamppplnojpbaaKp
import Derived.Laws.AppendOwn
import Derived.ChangeKeysEq
import Derived.Maps.RangeWalk
import Derived.Laws.OwnMore
import Derived.Maps.OwnIn
import Derived.Maps.AppendAt
import Derived.RangeFuncNested
import Derived.RangeFuncBound
import Derived.RangeFuncCalls
import Derived.RangeFuncLeaves
import Derived.Shelf.Abstract
import Derived.Shelf.RegionOpen
import Derived.WalkKit
import Derived.WalkMore
import Derived.OwnWalkIn
import Derived.TacticsInMore
import Derived.LoopNIn
import Derived.LoopIn
import Derived.WalkSpells
import Derived.WalkLawsBesides
import Derived.BigQuiet
import Derived.Deep.QuietTactic
import Derived.Lib.Hide
import Derived.Deep.RegionHeld3
import Derived.StillTailTactics
import Derived.Deep.LoopGhost
import Derived.Maps.OwnSet
import Derived.Lib.IndexAny
import Derived.Sort.QuietThIn
import Derived.Sort.QuietTacIn
import Derived.Sort.BigQuietIn
namespace Go.Proofs.Ytlamppplnojpbaa
open Go.RowKit Go.Shelf
attribute [local go_sem] Oper.semAt_some
theorem part20 (a b : Int) (W : World) : (part 3 #[.int .i64 a, .int .i64 b] 0).run Try.prog W = .ok (.int .i64 a) W := by kernel_rfl
theorem part21 (a b : Int) (W : World) : (part 3 #[.int .i64 a, .int .i64 b] 1).run Try.prog W = .ok (.int .i64 b) W := by kernel_rfl
theorem eq48s (x y : Int) (W : World) : (Op.equalIn 10000 48 (.agg #[.int .i64 x, .int .i64 y]) (.agg #[.int .i64 x, .int .i64 y])).run Try.prog W = .ok true W := by
  obtain ⟨i, hi⟩ := info3i
  refine (run_equalIn_array (P := Try.prog) W 9999 _ _ Try.underlying48 hi).trans ?_
  rw [cells3]
  simp only [List.range, List.range.loop, Op.eqItems, Sem.run_bind, Nat.zero_mul, Nat.one_mul, Nat.mul_one, part20, part21, Result.andThen_ok, eqI3]
  simp [go_sem, part20, part21, eqI3]
set_option maxRecDepth 100000 in
set_option maxHeartbeats 2000000 in
theorem JugSteps_any (zs ms : List Int) (v u : Value) (w : World) (hv : SlI w v zs) (hu : SlI w u ms) (h1 : zs.length ≤ 9223372036854775807) (h2 : ms.length ≤ 9223372036854775807) :
    Calls Try.prog 4 #[v, u] w fun e w' => e = .returned (.bool true) ∧ Below w.heap.size w w' := by
  have HT := Lib.hid (tame_any zs v 4 (by omega) w hv h1)
  have hj0 := tameF_jugs zs 4 (by omega)
  have hF := fun (x : Value) (W : World) (hx : SlI W x (tameF zs 4)) (hb : Below w.heap.size w W) => filled_any (tameF zs 4) ms x u W hx (hu.grow hb) hj0 h2
  have hfit0 := filF_fits ms hj0
  generalize tameF zs 4 = ss at *
  generalize filF ss ms = fs at *
  have HJ := Lib.hid hj0
  have HFI := Lib.hid hfit0
  have HF := Lib.hid hF
  clear hj0 hfit0 hF hv hu
  go_enter Try.func4, Try.ntmps4
  go_wp2_with fail
  refine HT.out.mono ?_
  rintro e w1 ⟨x, rfl, hx, hb1⟩
  have HX1 := Lib.hid (sli_own hx)
  have HB1 := Lib.hid hb1
  clear hx hb1 HT
  go_wp2_with fail
  refine (HF.out x w1 HX1.out HB1.out).mono ?_
  rintro e w2 ⟨f, rfl, hf, hb2⟩
  have hne : fs ≠ [] := fun h => by
    have a := HFI.out; have b := HJ.out
    unfold fitsB at a; unfold jugsB at b
    simp only [Bool.and_eq_true, decide_eq_true_eq] at a b
    have := a.1; rw [h, List.length_nil] at this; omega
  obtain ⟨gf, cf, rfl, hgf, hfi⟩ := own_ints hf hne
  have hfc : fs.length ≤ cf := by
    obtain ⟨a, c, e, hc, _⟩ := sli_own hf
    cases e; exact hc
  have HX2 := Lib.hid (HX1.out.grow hb2)
  have HG2 := Lib.hid hgf
  have HI2 := Lib.hid hfi
  have HFC := Lib.hid hfc
  have HF2 := Lib.hid (sli_own hf)
  have HB2 := Lib.hid (Below.andThen HB1.out hb2 (Nat.le_refl _))
  clear hgf hfi hfc hf hb2 hne HF HX1 HB1
  go_wp2_with fail
  go_loopw [7] (fun kv wr => ∃ k : Nat, k ≤ 2 ∧ kv = .int .i64 (k : Int) ∧ Hid (Below w2.heap.size w2 wr)) (fun kv _ => (2 - intOf kv).toNat)
  case atStart => exact ⟨0, by omega, by simp, Lib.hid (Below.refl _ _)⟩
  case round =>
    obtain ⟨k, hk, rfl, HBR⟩ := hrel
    have kw : IntKind.i64.wrap ((k : Int) + 1) = ((k + 1 : Nat) : Int) := by rw [i64_of _ (by omega) (by omega)]; omega
    by_cases hk2 : k < 2
    · have hd1 : decide ((k : Int) < 2) = true := decide_eq_true (by omega)
      have hd1n : decide (k < 2) = true := decide_eq_true hk2
      obtain ⟨cl, hcl⟩ : ∃ cl, ((k : Int) == 0) = cl := ⟨_, rfl⟩
      go_wp2_with fail
      refine (Steps_ok ss fs x _ cl wr (HX2.out.grow HBR.out) (by have := jugsB_len HJ.out; omega) (HF2.out.grow HBR.out) (errA_fits HJ.out HFI.out)).mono ?_
      rintro e w3 ⟨s, rfl, hs, hb3⟩
      have HS3 := Lib.hid hs
      have HB3 := Lib.hid (Below.andThen HBR.out hb3 (Nat.le_refl _))
      clear hs hb3
      go_wp2_with fail
      refine (refSteps_any ss fs x gf cf cl w3 (HX2.out.grow HB3.out) (Nat.lt_of_lt_of_le HG2.out HB3.out.size) (HI2.out.below HB3.out HG2.out) HFC.out HJ.out HFI.out).mono ?_
      rw [refL_steps ss fs cl HJ.out HFI.out]
      rintro e w4 ⟨r, rfl, hr, hb4⟩
      have hs4 : OwnP w4 wr.heap.size s (stepsF (padF ss) (padF fs) (ssF cl ss.length)) := own_grow HS3.out hb4
      have hLB : (stepsF (padF ss) (padF fs) (ssF cl ss.length)).length ≤ 30 := by
        rw [← refL_steps ss fs cl HJ.out HFI.out]
        have := jugsB_len HJ.out
        exact refL_len ss fs cl _ _ 0 (by omega) (by omega) (by omega)
      generalize stepsF (padF ss) (padF fs) (ssF cl ss.length) = L at *
      obtain ⟨sa, sc, rfl, hsa⟩ := hs4.open
      obtain ⟨ra, rc, rfl, hra⟩ := hr.open
      have HB4 := Lib.hid (Below.andThen HB3.out hb4 (Nat.le_refl _))
      have HSA := Lib.hid hsa
      have HRA := Lib.hid hra
      clear hs4 hr hb4 hsa hra HS3 HB3 HBR
      go_wp2_with fail
      go_loopw [11] (fun iv wx => ∃ i : Nat, i ≤ L.length ∧ iv = .int .i64 (i : Int) ∧ Hid (Below w4.heap.size w4 wx)) (fun iv _ => ((L.length : Int) - intOf iv).toNat)
      case atStart => exact ⟨0, by omega, by simp, Lib.hid (Below.refl _ _)⟩
      case round =>
        obtain ⟨i, hi, rfl, HBX⟩ := hrel
        have iw : IntKind.i64.wrap ((i : Int) + 1) = ((i + 1 : Nat) : Int) := by rw [i64_of _ (by omega) (by omega)]; omega
        by_cases hil : i < L.length
        · have hd2 : decide ((i : Int) < (L.length : Int)) = true := decide_eq_true (by omega)
          have hd2n : decide (i < L.length) = true := decide_eq_true hil
          obtain ⟨gs, rfl, hps⟩ : ∃ gs, sa = some ⟨gs, 0, none⟩ ∧ PtsAt w4 gs 0 L := by
            rcases HSA.out with ⟨_, _, h⟩ | ⟨g, _, h, h2, _⟩
            · rw [h] at hil; exact absurd hil (by simp)
            · exact ⟨g, h, h2⟩
          obtain ⟨gr, rfl, hpr⟩ : ∃ gr, ra = some ⟨gr, 0, none⟩ ∧ PtsAt w4 gr 0 L := by
            rcases HRA.out with ⟨_, _, h⟩ | ⟨g, _, h, h2, _⟩
            · rw [h] at hil; exact absurd hil (by simp)
            · exact ⟨g, h, h2⟩
          have hcs : ∀ W, Below wr.heap.size wr W → W.cell? ⟨gs, i * 2, none⟩ = some (.int .i64 L[i].1) ∧ W.cell? ⟨gs, i * 2 + 1, none⟩ = some (.int .i64 L[i].2) := fun W hb => by
            have h := (hps.grow HBX.out).grow hb
            exact ⟨by simpa using h.x i hil, by simpa using h.y i hil⟩
          have hcr : ∀ W, Below wr.heap.size wr W → W.cell? ⟨gr, i * 2, none⟩ = some (.int .i64 L[i].1) ∧ W.cell? ⟨gr, i * 2 + 1, none⟩ = some (.int .i64 L[i].2) := fun W hb => by
            have h := (hpr.grow HBX.out).grow hb
            exact ⟨by simpa using h.x i hil, by simpa using h.y i hil⟩
          generalize L[i].1 = px at *
          generalize L[i].2 = py at *
          have HCS := Lib.hid hcs
          have HCR := Lib.hid hcr
          clear hcs hcr hps hpr HSA HRA
          go_wp2_with fail
          refine wp_region_rel (by kernel_rfl) (by kernel_rfl) [49, 50, 51, 52, 53, 54, 55, 56, 57] [LitR (.slice (some ⟨gs, 0, none⟩) L.length sc), LitR (.int .i64 (i : Int)), LitR (.pointer (some ⟨gs, i * 2, none⟩)), LitR (.agg #[.int .i64 px, .int .i64 py]), LitR (.slice (some ⟨gr, 0, none⟩) L.length rc), LitR (.int .i64 (i : Int)), LitR (.pointer (some ⟨gr, i * 2, none⟩)), LitR (.agg #[.int .i64 px, .int .i64 py]), LitR (.bool false)] 9 rfl (List.forall_mem_cons.2 ⟨LitR.stab _, (List.forall_mem_cons.2 ⟨LitR.stab _, (List.forall_mem_cons.2 ⟨LitR.stab _, (List.forall_mem_cons.2 ⟨LitR.stab _, (List.forall_mem_cons.2 ⟨LitR.stab _, (List.forall_mem_cons.2 ⟨LitR.stab _, (List.forall_mem_cons.2 ⟨LitR.stab _, (List.forall_mem_cons.2 ⟨LitR.stab _, (List.forall_mem_cons.2 ⟨LitR.stab _, (fun _ h => nomatch h)⟩)⟩)⟩)⟩)⟩)⟩)⟩)⟩)⟩) ⟨[u49, u50, u51, u52, u53, u54, u55, u56, u57], by simp only [putAll, Act.put, List.setIfInBounds_toArray, List.set_cons_succ, List.set_cons_zero], rfl⟩ ?steps ?fin
          case steps =>
            simp only [relSteps]
            refine ⟨?_, ?_, ?_, ?_, ?_, ?_, ?_, ?_, ?_, trivial⟩
            · rintro vs W K hc hvl hw hK
              obtain ⟨x0, x1, x2, x3, x4, x5, x6, x7, x8, rfl⟩ := len9 hvl
              have HK := Lib.hid hK
              have HC := Lib.hid hc
              have HW := Lib.hid hw
              clear hK hc hw hvl
              simp only [putAll, Act.put, List.setIfInBounds_toArray, List.set_cons_succ, List.set_cons_zero]
              clear HW
              go_wp2_with fail
              have fin := HK.out (.slice (some ⟨gs, 0, none⟩) L.length sc) W (Below.refl _ _) rfl
              simp only [putAll, Act.put, List.setIfInBounds_toArray, List.set_cons_succ, List.set_cons_zero] at fin
              exact fin
            · rintro vs W K hc hvl hw hK
              obtain ⟨x0, x1, x2, x3, x4, x5, x6, x7, x8, rfl⟩ := len9 hvl
              have HK := Lib.hid hK
              have HC := Lib.hid hc
              have HW := Lib.hid hw
              clear hK hc hw hvl
              simp only [putAll, Act.put, List.setIfInBounds_toArray, List.set_cons_succ, List.set_cons_zero]
              clear HW
              go_wp2_with fail
              have fin := HK.out (.int .i64 (i : Int)) W (Below.refl _ _) rfl
              simp only [putAll, Act.put, List.setIfInBounds_toArray, List.set_cons_succ, List.set_cons_zero] at fin
              exact fin
            · rintro vs W K hc hvl hw hK
              obtain ⟨x0, x1, x2, x3, x4, x5, x6, x7, x8, rfl⟩ := len9 hvl
              have HK := Lib.hid hK
              have HC := Lib.hid hc
              have HW := Lib.hid hw
              clear hK hc hw hvl
              have hd0 := HW.out ⟨0, .data⟩ (by simp) rfl
              obtain rfl : x0 = .slice (some ⟨gs, 0, none⟩) L.length sc := rel_get hd0 rfl
              have hd1 := HW.out ⟨1, .data⟩ (by simp) rfl
              obtain rfl : x1 = .int .i64 (i : Int) := rel_get hd1 rfl
              simp only [putAll, Act.put, List.setIfInBounds_toArray, List.set_cons_succ, List.set_cons_zero]
              clear HW hd0 hd1
              go_wp2_with fail
              have fin := HK.out (.pointer (some ⟨gs, i * 2, none⟩)) W (Below.refl _ _) rfl
              simp only [putAll, Act.put, List.setIfInBounds_toArray, List.set_cons_succ, List.set_cons_zero] at fin
              exact fin
            · rintro vs W K hc hvl hw hK
              obtain ⟨x0, x1, x2, x3, x4, x5, x6, x7, x8, rfl⟩ := len9 hvl
              have HK := Lib.hid hK
              have HC := Lib.hid hc
              have HW := Lib.hid hw
              clear hK hc hw hvl
              have hd2 := HW.out ⟨2, .data⟩ (by simp) rfl
              obtain rfl : x2 = .pointer (some ⟨gs, i * 2, none⟩) := rel_get hd2 rfl
              simp only [putAll, Act.put, List.setIfInBounds_toArray, List.set_cons_succ, List.set_cons_zero]
              obtain ⟨c0, c1⟩ := HCS.out W HC.out
              clear HW hd2
              go_wp2_with fail
              have fin := HK.out (.agg #[.int .i64 px, .int .i64 py]) W (Below.refl _ _) rfl
              simp only [putAll, Act.put, List.setIfInBounds_toArray, List.set_cons_succ, List.set_cons_zero] at fin
              exact fin
            · rintro vs W K hc hvl hw hK
              obtain ⟨x0, x1, x2, x3, x4, x5, x6, x7, x8, rfl⟩ := len9 hvl
              have HK := Lib.hid hK
              have HC := Lib.hid hc
              have HW := Lib.hid hw
              clear hK hc hw hvl
              simp only [putAll, Act.put, List.setIfInBounds_toArray, List.set_cons_succ, List.set_cons_zero]
              clear HW
              go_wp2_with fail
              have fin := HK.out (.slice (some ⟨gr, 0, none⟩) L.length rc) W (Below.refl _ _) rfl
              simp only [putAll, Act.put, List.setIfInBounds_toArray, List.set_cons_succ, List.set_cons_zero] at fin
              exact fin
            · rintro vs W K hc hvl hw hK
              obtain ⟨x0, x1, x2, x3, x4, x5, x6, x7, x8, rfl⟩ := len9 hvl
              have HK := Lib.hid hK
              have HC := Lib.hid hc
              have HW := Lib.hid hw
              clear hK hc hw hvl
              simp only [putAll, Act.put, List.setIfInBounds_toArray, List.set_cons_succ, List.set_cons_zero]
              clear HW
              go_wp2_with fail
              have fin := HK.out (.int .i64 (i : Int)) W (Below.refl _ _) rfl
              simp only [putAll, Act.put, List.setIfInBounds_toArray, List.set_cons_succ, List.set_cons_zero] at fin
              exact fin
            · rintro vs W K hc hvl hw hK
              obtain ⟨x0, x1, x2, x3, x4, x5, x6, x7, x8, rfl⟩ := len9 hvl
              have HK := Lib.hid hK
              have HC := Lib.hid hc
              have HW := Lib.hid hw
              clear hK hc hw hvl
              have hd4 := HW.out ⟨4, .data⟩ (by simp) rfl
              obtain rfl : x4 = .slice (some ⟨gr, 0, none⟩) L.length rc := rel_get hd4 rfl
              have hd5 := HW.out ⟨5, .data⟩ (by simp) rfl
              obtain rfl : x5 = .int .i64 (i : Int) := rel_get hd5 rfl
              simp only [putAll, Act.put, List.setIfInBounds_toArray, List.set_cons_succ, List.set_cons_zero]
              clear HW hd4 hd5
              go_wp2_with fail
              have fin := HK.out (.pointer (some ⟨gr, i * 2, none⟩)) W (Below.refl _ _) rfl
              simp only [putAll, Act.put, List.setIfInBounds_toArray, List.set_cons_succ, List.set_cons_zero] at fin
              exact fin
            · rintro vs W K hc hvl hw hK
              obtain ⟨x0, x1, x2, x3, x4, x5, x6, x7, x8, rfl⟩ := len9 hvl
              have HK := Lib.hid hK
              have HC := Lib.hid hc
              have HW := Lib.hid hw
              clear hK hc hw hvl
              have hd6 := HW.out ⟨6, .data⟩ (by simp) rfl
              obtain rfl : x6 = .pointer (some ⟨gr, i * 2, none⟩) := rel_get hd6 rfl
              simp only [putAll, Act.put, List.setIfInBounds_toArray, List.set_cons_succ, List.set_cons_zero]
              obtain ⟨c0, c1⟩ := HCR.out W HC.out
              clear HW hd6
              go_wp2_with fail
              have fin := HK.out (.agg #[.int .i64 px, .int .i64 py]) W (Below.refl _ _) rfl
              simp only [putAll, Act.put, List.setIfInBounds_toArray, List.set_cons_succ, List.set_cons_zero] at fin
              exact fin
            · rintro vs W K hc hvl hw hK
              obtain ⟨x0, x1, x2, x3, x4, x5, x6, x7, x8, rfl⟩ := len9 hvl
              have HK := Lib.hid hK
              have HC := Lib.hid hc
              have HW := Lib.hid hw
              clear hK hc hw hvl
              have hd3 := HW.out ⟨3, .data⟩ (by simp) rfl
              obtain rfl : x3 = .agg #[.int .i64 px, .int .i64 py] := rel_get hd3 rfl
              have hd7 := HW.out ⟨7, .data⟩ (by simp) rfl
              obtain rfl : x7 = .agg #[.int .i64 px, .int .i64 py] := rel_get hd7 rfl
              simp only [putAll, Act.put, List.setIfInBounds_toArray, List.set_cons_succ, List.set_cons_zero]
              have HE := eq48s px py W
              clear HW hd3 hd7
              go_wp2_with fail
              have fin := HK.out (.bool false) W (Below.refl _ _) rfl
              simp only [putAll, Act.put, List.setIfInBounds_toArray, List.set_cons_succ, List.set_cons_zero] at fin
              exact fin
          case fin =>
            intro vs W hc hvl hv
            obtain ⟨x0, x1, x2, x3, x4, x5, x6, x7, x8, rfl⟩ := len9 hvl
            have hd8 := hv 8 (by omega)
            obtain rfl : x8 = .bool false := rel_get hd8 rfl
            clear hd8
            simp only [putAll, Act.put, List.setIfInBounds_toArray, List.set_cons_succ, List.set_cons_zero]
            have HW2 := Lib.hid hc
            clear hc
            go_wp2_with fail
            exact ⟨⟨i + 1, by omega, by simp, Lib.hid (Below.andThen HBX.out HW2.out (Nat.le_refl _))⟩, by simp [intOf]; omega⟩
        · have hd2 : decide ((i : Int) < (L.length : Int)) = false := decide_eq_false (by omega)
          have hd2n : decide (i < L.length) = false := decide_eq_false hil
          go_wp2_with fail
          exact ⟨⟨k + 1, by omega, by simp, Lib.hid (Below.andThen HB4.out HBX.out (Nat.le_refl _))⟩, by simp [intOf]; omega⟩
    · have hd1 : decide ((k : Int) < 2) = false := decide_eq_false (by omega)
      have hd1n : decide (k < 2) = false := decide_eq_false (by omega)
      obtain rfl : k = 2 := by omega
      go_wp2_with fail
      refine (awake_any _).mono ?_
      rintro e w3 ⟨rfl, hb⟩
      have HE := Lib.hid (Below.andThen (Below.andThen HB2.out HBR.out (Nat.le_refl _)) hb (Nat.le_refl _))
      clear hb
      go_wp2_with fail
      go_ret
      exact ⟨rfl, HE.out⟩
end Go.Proofs.Ytlamppplnojpbaa
