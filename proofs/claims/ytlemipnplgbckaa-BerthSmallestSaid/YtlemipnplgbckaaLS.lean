import Derived.Test.YtlemipnplgbckaaJB
import Derived.Test.YtlemipnplgbckaaMF
import Derived.Laws.AppendOwn
import Derived.ChangeKeysEq
import Derived.Maps.RangeWalk
import Derived.Maps.OwnIn
import Derived.Maps.AppendAt
import Derived.RangeFuncNested
import Derived.RangeFuncBound
import Derived.RangeFuncCalls
import Derived.RangeFuncLeaves
import Derived.Shelf.Abstract
import Derived.Shelf.RegionOpen
import Derived.WalkKit
import Derived.WalkMore
import Derived.OwnWalkIn
import Derived.TacticsInMore
import Derived.LoopNIn
import Derived.LoopIn
import Derived.WalkSpells
import Derived.WalkLawsBesides
import Derived.BigQuiet
import Derived.Deep.QuietTactic
import Derived.Lib.Hide
import Derived.Deep.RegionHeld3
import Derived.StillTailTactics
import Derived.Deep.LoopGhost
import Derived.Maps.OwnSet
import Derived.Lib.IndexAny
import Derived.Sort.QuietThIn
import Derived.Sort.QuietTacIn
import Derived.Sort.BigQuietIn
import Derived.Laws.OwnMore
import Derived.DeepKeys4
import Derived.Maps.Views
import Derived.Maps.OwnOps
import Derived.Deep.DeepCutAuto
import Derived.Shelf.Bits.Mul64
import Derived.Shelf.LaysM
namespace Go.Proofs.Ytlemipnplgbckaa
open Go.RowKit Go.Shelf
attribute [local go_sem] Oper.semAt_some
set_option maxRecDepth 100000 in
set_option maxHeartbeats 1000000 in
theorem BerthSmallest_any (zs : List Pt) (v : Value) (w : World) (hv : SlP w v zs) (hl : zs.length ≤ 9223372036854775807) :
    Calls Try.prog 6 #[v] w fun e w' => e = .returned (.bool true) ∧ Below w.heap.size w w' := by
  have HT := Lib.hid (tame_any zs v w hv hl)
  have HOK := Lib.hid (tameF_ok zs)
  clear hv hl
  generalize tameF zs = X at *
  go_enter Try.func6, Try.ntmps6
  go_wp2_with fail
  refine HT.out.mono ?_
  rintro e w1 ⟨s, rfl, ho, h1⟩
  have HS1 := Lib.hid (slp_own ho)
  obtain ⟨a1, c1, rfl, _⟩ := OwnP.open ho
  have B1 := Lib.hid h1
  have HSM := Lib.hid (Smallest_ok X _ w1 HS1.out HOK.out)
  have HRS := Lib.hid (fun W (h : SlP W (.slice a1 X.length c1) X) => rSmallest_any X _ W h HOK.out)
  obtain ⟨C, hC⟩ : ∃ C, smC X = C := ⟨_, rfl⟩
  have HC := Lib.hid hC
  rw [hC] at HSM HRS
  obtain ⟨m1, m2, m3, m4⟩ := C
  unfold Cir.V cirV at HSM HRS
  dsimp only at HSM HRS
  have HFO := Lib.hid (fun W (h : SlP W (.slice a1 X.length c1) X) => Force_ok X _ W h HOK.out)
  have HRI := Lib.hid (fun (vf : Value) (zs : List Int) W (h : SlP W (.slice a1 X.length c1) X) (hf : SlI W vf zs) (hz : zs.length ≤ 1000) => rIsForce_any X _ vf zs W h HOK.out hf hz)
  clear ho h1 hC HT
  obtain ⟨n, hn⟩ : ∃ n, X.length = n := ⟨_, rfl⟩
  rw [hn] at HS1 HSM HRS HFO HRI ⊢
  have HN := Lib.hid hn
  clear hn
  go_wp2_with fail
  refine HSM.out.mono ?_
  rintro e w2 ⟨rfl, h2⟩
  obtain ⟨bb, rb⟩ := box_start w2 30 [.int .i64 m1, .int .i64 m2, .int .i64 m3, .int .i64 m4]
  have h2b := Below.andThen h2 bb (Nat.le_refl _)
  have HS2 := Lib.hid (HS1.out.grow h2b)
  have B2 := Lib.hid (Below.andThen B1.out h2b (Nat.le_refl _))
  have R2 := Lib.hid rb
  clear h2 bb h2b rb HSM HS1 B1
  go_wp2_with fail
  refine (HFO.out _ HS2.out).mono ?_
  rintro e w3 ⟨i, j, k, s3, rfl, hijk, hfb, ho3, h3⟩
  obtain ⟨a3, c3, rfl⟩ := own_sl2 ho3
  have HRIF := Lib.hid (show riF X ((cmp3 i j k).map natI) = true from force_ri hijk.1 hijk.2.1 (by have := hijk.2.2; rw [HN.out]; omega) (by rw [HC.out] at *; exact hfb))
  have HS3 := Lib.hid (HS2.out.grow h3)
  have B3 := Lib.hid (Below.andThen B2.out h3 (Nat.le_refl _))
  have R3 := Lib.hid (R2.out.below h3 R2.out.lt)
  have HSF := Lib.hid (sli_idx ho3)
  have HFL := Lib.hid (show ((cmp3 i j k).map natI).length ≤ 1000 by rw [List.length_map]; have := cmp3_len i j k; omega)
  have rr := R3.out
  have k0 := rr.cell 0
  have k1 := rr.cell 1
  have k2 := rr.cell 2
  have k3 := rr.cell 3
  simp only [List.getElem?_cons_zero, List.getElem?_cons_succ] at k0 k1 k2 k3
  clear hijk hfb ho3 h3 rr HS2 B2 R2
  go_wp2_with fail
  refine (circle_any m1 m2 m3 m4 w3).mono ?_
  rintro e w4 ⟨rfl, h4⟩
  have HS4 := Lib.hid (HS3.out.grow h4)
  have B4 := Lib.hid (Below.andThen B3.out h4 (Nat.le_refl _))
  have HSF4 := Lib.hid (HSF.out.grow h4)
  clear h4 k0 k1 k2 k3 HS3 B3 R3 HSF
  go_wp2_with fail
  refine (HRS.out w4 HS4.out).mono ?_
  rintro e w5 ⟨rfl, h5⟩
  have HS5 := Lib.hid (HS4.out.grow h5)
  have B5 := Lib.hid (Below.andThen B4.out h5 (Nat.le_refl _))
  have HSF5 := Lib.hid (HSF4.out.grow h5)
  clear h5 HS4 B4 HSF4
  have HCALL := HRI.out _ _ w5 HS5.out HSF5.out HFL.out
  rw [HRIF.out] at HCALL
  have HCALL := Lib.hid HCALL
  go_wp2_with fail
  refine HCALL.out.mono ?_
  rintro e w6 ⟨rfl, h6⟩
  have B6 := Lib.hid (Below.andThen B5.out h6 (Nat.le_refl _))
  clear h6
  go_wp2_with fail
  refine (awake_any w6).mono ?_
  rintro e w7 ⟨rfl, h7⟩
  have B7 := Lib.hid (Below.andThen B6.out h7 (Nat.le_refl _))
  clear h7
  go_wp2_with fail
  go_ret
  exact ⟨rfl, B7.out⟩
end Go.Proofs.Ytlemipnplgbckaa
