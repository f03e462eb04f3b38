import Derived.Test.YtlamppplnojpbaaLt
import Derived.Test.YtlamppplnojpbaaLu
import Derived.Laws.AppendOwn
import Derived.ChangeKeysEq
import Derived.Maps.RangeWalk
import Derived.Maps.OwnIn
import Derived.Maps.AppendAt
import Derived.RangeFuncNested
import Derived.RangeFuncBound
import Derived.RangeFuncCalls
import Derived.RangeFuncLeaves
import Derived.Shelf.Abstract
import Derived.Shelf.RegionOpen
import Derived.WalkKit
import Derived.WalkMore
import Derived.OwnWalkIn
import Derived.TacticsInMore
import Derived.LoopNIn
import Derived.LoopIn
import Derived.WalkSpells
import Derived.WalkLawsBesides
import Derived.BigQuiet
import Derived.Deep.QuietTactic
import Derived.Lib.Hide
import Derived.Deep.DeepCutAuto
import Derived.Deep.RegionHeld3
import Derived.StillTailTactics
import Derived.Deep.LoopGhost
import Derived.Maps.OwnSet
import Derived.Lib.IndexAny
import Derived.Sort.QuietThIn
import Derived.Sort.QuietTacIn
import Derived.Sort.BigQuietIn
import Derived.Laws.OwnMore
namespace Go.Proofs.Ytlamppplnojpbaa
open Go.RowKit Go.Shelf
attribute [local go_sem] Oper.semAt_some
set_option maxRecDepth 100000 in
set_option maxHeartbeats 4000000 in
theorem JugLower_any (zs m1 m2 : List Int) (v u1 u2 : Value) (w : World) (hv : SlI w v zs) (hu1 : SlI w u1 m1) (hu2 : SlI w u2 m2) (h1 : zs.length ≤ 9223372036854775807) (h2 : m1.length ≤ 9223372036854775807) (h3 : m2.length ≤ 9223372036854775807) :
    Calls Try.prog 14 #[v, .agg #[u1, u2]] w fun e w' => e = .returned (.bool true) ∧ Below w.heap.size w w' := by
  have ba := Below.al (Below.refl w.heap.size w) (Nat.le_refl _) (.cells #[u1, u2] 53)
  have r0 := Row.new w 53 [u1, u2]
  have HT := Lib.hid (tame_any zs v 3 (by omega) _ (hv.grow ba) h1)
  have hj0 := tameF_jugs zs 3 (by omega)
  have hF1 := fun (x : Value) (W : World) (hx : SlI W x (tameF zs 3)) (hb : Below w.heap.size w W) => filled_any (tameF zs 3) m1 x u1 W hx (hu1.grow hb) hj0 h2
  have hF2 := fun (x : Value) (W : World) (hx : SlI W x (tameF zs 3)) (hb : Below w.heap.size w W) => filled_any (tameF zs 3) m2 x u2 W hx (hu2.grow hb) hj0 h3
  have hfit1 := filF_fits m1 hj0
  have hfit2 := filF_fits m2 hj0
  generalize tameF zs 3 = ss at *
  generalize filF ss m1 = fs1 at *
  generalize filF ss m2 = fs2 at *
  have hn := jugsB_len hj0
  have HJ := Lib.hid hj0
  have HFI1 := Lib.hid hfit1
  have HFI2 := Lib.hid hfit2
  have HF1 := Lib.hid hF1
  have HF2 := Lib.hid hF2
  obtain ⟨res, hres⟩ := ex_srch HJ.out HFI1.out (glG (padF fs2)) false
  have hgood := way_good hn.2 (fits_pad HJ.out HFI1.out).1 hres
  have hwf := fun (G : List Int) (r2 : Sn × Option (List Int)) (h : srch (padF ss) (glG G) (ssF false ss.length) 28562 (padF fs1) = some r2) => way_good hn.2 (fits_pad HJ.out HFI1.out).1 h
  have hwl : (wayF res).length ≤ 28561 := by
    rcases h : res.2 with _ | g
    · unfold wayF; rw [h]; simp
    · have hm := mF_ok false ss.length
      obtain ⟨ht, _, hf⟩ := srch_tree _ _ (lsF false) (mF false ss.length) (lsF_ok false) (by omega) _ (fits_pad HJ.out HFI1.out).1 28562 res hres
      obtain ⟨c, hc⟩ := Option.isSome_iff_exists.1 (hf g h).1
      have k1 := ht.knn hc
      have k2 := ht.size
      have hcm : cmOf res.1 g = c := by unfold cmOf; rw [hc]; rfl
      unfold wayF; rw [h]; dsimp only; rw [List.length_reverse, trc_len, hcm]; omega
  have HRES := Lib.hid hres
  have HGOOD := Lib.hid hgood
  clear hres hgood hwf
  obtain ⟨a1, c1, e1⟩ : ∃ a1 c1, u1 = .slice a1 m1.length c1 := by obtain ⟨a, c, h, _⟩ := hu1; exact ⟨a, c, h⟩
  obtain ⟨a2, c2, e2⟩ : ∃ a2 c2, u2 = .slice a2 m2.length c2 := by obtain ⟨a, c, h, _⟩ := hu2; exact ⟨a, c, h⟩
  have BA := Lib.hid ba
  have RR := Lib.hid r0
  clear hj0 hfit1 hfit2 hF1 hF2 hv hu1 hu2 h1 h2 h3 ba r0
  generalize m1.length = l1 at *
  generalize m2.length = l2 at *
  subst e1 e2
  go_enter Try.func14, Try.ntmps14
  go_wp2_with fail
  refine HT.out.mono ?_
  rintro e w1 ⟨xv, rfl, hx, hb1⟩
  have HX1 := Lib.hid (sli_own hx)
  have HB1 := Lib.hid (Below.andThen BA.out hb1 (Nat.le_refl _))
  have R0 := Lib.hid (RR.out.below hb1 RR.out.lt)
  clear hx hb1 HT RR BA
  have HF1 := Lib.hid (fun (W : World) (hb : Below w1.heap.size w1 W) => show Calls Try.prog 32 #[xv, .slice a1 l1 c1] W fun e w' => ∃ s, e = .returned s ∧ SlI w' s fs1 ∧ Below W.heap.size W w' from (HF1.out xv W (HX1.out.grow hb) (Below.andThen HB1.out hb (Nat.le_refl _))).mono fun e w' ⟨s, b1, b2, b3⟩ => ⟨s, b1, sli_own b2, b3⟩)
  have HF2 := Lib.hid (fun (W : World) (hb : Below w1.heap.size w1 W) => show Calls Try.prog 32 #[xv, .slice a2 l2 c2] W fun e w' => ∃ s, e = .returned s ∧ SlI w' s fs2 ∧ Below W.heap.size W w' from (HF2.out xv W (HX1.out.grow hb) (Below.andThen HB1.out hb (Nat.le_refl _))).mono fun e w' ⟨s, b1, b2, b3⟩ => ⟨s, b1, sli_own b2, b3⟩)
  go_wp2_with fail
  refine wp_region_rel (by kernel_rfl) (by kernel_rfl) [28, 29, 30, 31, 32, 33, 34, 35, 6, 7] [LitR (xv), LitR (.pointer (some ⟨w.heap.size, 0, none⟩)), LitR ((.slice a1 l1 c1)), (SliV fs1), LitR (xv), LitR (.pointer (some ⟨w.heap.size, 1, none⟩)), LitR ((.slice a2 l2 c2)), (SliV fs2), (SliV fs1), (SliV fs2)] 10 rfl (List.forall_mem_cons.2 ⟨LitR.stab _, (List.forall_mem_cons.2 ⟨LitR.stab _, (List.forall_mem_cons.2 ⟨LitR.stab _, (List.forall_mem_cons.2 ⟨SliV.stab _, (List.forall_mem_cons.2 ⟨LitR.stab _, (List.forall_mem_cons.2 ⟨LitR.stab _, (List.forall_mem_cons.2 ⟨LitR.stab _, (List.forall_mem_cons.2 ⟨SliV.stab _, (List.forall_mem_cons.2 ⟨SliV.stab _, (List.forall_mem_cons.2 ⟨SliV.stab _, (fun _ h => nomatch h)⟩)⟩)⟩)⟩)⟩)⟩)⟩)⟩)⟩)⟩) ⟨[undef, undef, undef, undef, undef, undef, undef, undef, undef, undef], by simp only [putAll, Act.put, List.setIfInBounds_toArray, List.set_cons_succ, List.set_cons_zero], rfl⟩ ?steps ?fin
  case steps =>
    simp only [relSteps]
    refine ⟨?_, ?_, ?_, ?_, ?_, ?_, ?_, ?_, ?_, ?_, trivial⟩
    · rintro vs W K hc hvl hw hK
      obtain ⟨x0, x1, x2, x3, x4, x5, x6, x7, x8, x9, rfl⟩ := len10 hvl
      have HK := Lib.hid hK
      have HC := Lib.hid hc
      have HW := Lib.hid hw
      clear hK hc hw hvl
      simp only [putAll, Act.put, List.setIfInBounds_toArray, List.set_cons_succ, List.set_cons_zero]
      clear HW
      go_wp2_with fail
      have fin := HK.out (xv) W (Below.refl _ _) rfl
      simp only [putAll, Act.put, List.setIfInBounds_toArray, List.set_cons_succ, List.set_cons_zero] at fin
      exact fin
    · rintro vs W K hc hvl hw hK
      obtain ⟨x0, x1, x2, x3, x4, x5, x6, x7, x8, x9, rfl⟩ := len10 hvl
      have HK := Lib.hid hK
      have HC := Lib.hid hc
      have HW := Lib.hid hw
      clear hK hc hw hvl
      simp only [putAll, Act.put, List.setIfInBounds_toArray, List.set_cons_succ, List.set_cons_zero]
      clear HW
      go_wp2_with fail
      have fin := HK.out (.pointer (some ⟨w.heap.size, 0, none⟩)) W (Below.refl _ _) rfl
      simp only [putAll, Act.put, List.setIfInBounds_toArray, List.set_cons_succ, List.set_cons_zero] at fin
      exact fin
    · rintro vs W K hc hvl hw hK
      obtain ⟨x0, x1, x2, x3, x4, x5, x6, x7, x8, x9, rfl⟩ := len10 hvl
      have HK := Lib.hid hK
      have HC := Lib.hid hc
      have HW := Lib.hid hw
      clear hK hc hw hvl
      have hd1 := HW.out ⟨1, .data⟩ (by simp) rfl
      obtain rfl : x1 = .pointer (some ⟨w.heap.size, 0, none⟩) := rel_get hd1 rfl
      simp only [putAll, Act.put, List.setIfInBounds_toArray, List.set_cons_succ, List.set_cons_zero]
      have r0 := R0.out.below HC.out R0.out.lt
      have k0 : W.cell? ⟨w.heap.size, 0, none⟩ = some (.slice a1 l1 c1) := r0.cell 0
      clear r0
      clear HW hd1
      go_wp2_with fail
      have fin := HK.out ((.slice a1 l1 c1)) W (Below.refl _ _) rfl
      simp only [putAll, Act.put, List.setIfInBounds_toArray, List.set_cons_succ, List.set_cons_zero] at fin
      exact fin
    · rintro vs W K hc hvl hw hK
      obtain ⟨x0, x1, x2, x3, x4, x5, x6, x7, x8, x9, rfl⟩ := len10 hvl
      have HK := Lib.hid hK
      have HC := Lib.hid hc
      have HW := Lib.hid hw
      clear hK hc hw hvl
      have hd0 := HW.out ⟨0, .data⟩ (by simp) rfl
      obtain rfl : x0 = xv := rel_get hd0 rfl
      have hd2 := HW.out ⟨2, .data⟩ (by simp) rfl
      obtain rfl : x2 = (.slice a1 l1 c1) := rel_get hd2 rfl
      simp only [putAll, Act.put, List.setIfInBounds_toArray, List.set_cons_succ, List.set_cons_zero]
      clear HW hd0 hd2
      go_wp2_with fail
      refine (HF1.out W HC.out).mono ?_
      rintro e W' ⟨x, rfl, hx, hb1⟩
      have HB' := Lib.hid hb1
      have HX := Lib.hid (show SliV fs1 x W' from hx)
      clear hb1 hx
      go_wp2_with fail
      have fin := HK.out (x) W' HB'.out HX.out
      simp only [putAll, Act.put, List.setIfInBounds_toArray, List.set_cons_succ, List.set_cons_zero] at fin
      exact fin
    · rintro vs W K hc hvl hw hK
      obtain ⟨x0, x1, x2, x3, x4, x5, x6, x7, x8, x9, rfl⟩ := len10 hvl
      have HK := Lib.hid hK
      have HC := Lib.hid hc
      have HW := Lib.hid hw
      clear hK hc hw hvl
      simp only [putAll, Act.put, List.setIfInBounds_toArray, List.set_cons_succ, List.set_cons_zero]
      clear HW
      go_wp2_with fail
      have fin := HK.out (xv) W (Below.refl _ _) rfl
      simp only [putAll, Act.put, List.setIfInBounds_toArray, List.set_cons_succ, List.set_cons_zero] at fin
      exact fin
    · rintro vs W K hc hvl hw hK
      obtain ⟨x0, x1, x2, x3, x4, x5, x6, x7, x8, x9, rfl⟩ := len10 hvl
      have HK := Lib.hid hK
      have HC := Lib.hid hc
      have HW := Lib.hid hw
      clear hK hc hw hvl
      simp only [putAll, Act.put, List.setIfInBounds_toArray, List.set_cons_succ, List.set_cons_zero]
      clear HW
      go_wp2_with fail
      have fin := HK.out (.pointer (some ⟨w.heap.size, 1, none⟩)) W (Below.refl _ _) rfl
      simp only [putAll, Act.put, List.setIfInBounds_toArray, List.set_cons_succ, List.set_cons_zero] at fin
      exact fin
    · rintro vs W K hc hvl hw hK
      obtain ⟨x0, x1, x2, x3, x4, x5, x6, x7, x8, x9, rfl⟩ := len10 hvl
      have HK := Lib.hid hK
      have HC := Lib.hid hc
      have HW := Lib.hid hw
      clear hK hc hw hvl
      have hd5 := HW.out ⟨5, .data⟩ (by simp) rfl
      obtain rfl : x5 = .pointer (some ⟨w.heap.size, 1, none⟩) := rel_get hd5 rfl
      simp only [putAll, Act.put, List.setIfInBounds_toArray, List.set_cons_succ, List.set_cons_zero]
      have r0 := R0.out.below HC.out R0.out.lt
      have k1 : W.cell? ⟨w.heap.size, 1, none⟩ = some (.slice a2 l2 c2) := r0.cell 1
      clear r0
      clear HW hd5
      go_wp2_with fail
      have fin := HK.out ((.slice a2 l2 c2)) W (Below.refl _ _) rfl
      simp only [putAll, Act.put, List.setIfInBounds_toArray, List.set_cons_succ, List.set_cons_zero] at fin
      exact fin
    · rintro vs W K hc hvl hw hK
      obtain ⟨x0, x1, x2, x3, x4, x5, x6, x7, x8, x9, rfl⟩ := len10 hvl
      have HK := Lib.hid hK
      have HC := Lib.hid hc
      have HW := Lib.hid hw
      clear hK hc hw hvl
      have hd4 := HW.out ⟨4, .data⟩ (by simp) rfl
      obtain rfl : x4 = xv := rel_get hd4 rfl
      have hd6 := HW.out ⟨6, .data⟩ (by simp) rfl
      obtain rfl : x6 = (.slice a2 l2 c2) := rel_get hd6 rfl
      simp only [putAll, Act.put, List.setIfInBounds_toArray, List.set_cons_succ, List.set_cons_zero]
      clear HW hd4 hd6
      go_wp2_with fail
      refine (HF2.out W HC.out).mono ?_
      rintro e W' ⟨x, rfl, hx, hb1⟩
      have HB' := Lib.hid hb1
      have HX := Lib.hid (show SliV fs2 x W' from hx)
      clear hb1 hx
      go_wp2_with fail
      have fin := HK.out (x) W' HB'.out HX.out
      simp only [putAll, Act.put, List.setIfInBounds_toArray, List.set_cons_succ, List.set_cons_zero] at fin
      exact fin
    · rintro vs W K hc hvl hw hK
      obtain ⟨x0, x1, x2, x3, x4, x5, x6, x7, x8, x9, rfl⟩ := len10 hvl
      have HK := Lib.hid hK
      have HC := Lib.hid hc
      have HW := Lib.hid hw
      clear hK hc hw hvl
      have hd3 := HW.out ⟨3, .data⟩ (by simp) rfl
      have hr := rel_get (x := x3) hd3 rfl
      have HO3 := Lib.hid (show SlI W x3 fs1 from hr)
      clear hr
      simp only [putAll, Act.put, List.setIfInBounds_toArray, List.set_cons_succ, List.set_cons_zero]
      clear HW hd3
      go_wp2_with fail
      have fin := HK.out (x3) W (Below.refl _ _) HO3.out
      simp only [putAll, Act.put, List.setIfInBounds_toArray, List.set_cons_succ, List.set_cons_zero] at fin
      exact fin
    · rintro vs W K hc hvl hw hK
      obtain ⟨x0, x1, x2, x3, x4, x5, x6, x7, x8, x9, rfl⟩ := len10 hvl
      have HK := Lib.hid hK
      have HC := Lib.hid hc
      have HW := Lib.hid hw
      clear hK hc hw hvl
      have hd7 := HW.out ⟨7, .data⟩ (by simp) rfl
      have hr := rel_get (x := x7) hd7 rfl
      have HO7 := Lib.hid (show SlI W x7 fs2 from hr)
      clear hr
      simp only [putAll, Act.put, List.setIfInBounds_toArray, List.set_cons_succ, List.set_cons_zero]
      clear HW hd7
      go_wp2_with fail
      have fin := HK.out (x7) W (Below.refl _ _) HO7.out
      simp only [putAll, Act.put, List.setIfInBounds_toArray, List.set_cons_succ, List.set_cons_zero] at fin
      exact fin
  case fin =>
    intro vs W hc hvl hv
    obtain ⟨x0, x1, x2, x3, x4, x5, x6, x7, x8, x9, rfl⟩ := len10 hvl
    have hd8 := hv 8 (by omega)
    have hr := rel_get (x := x8) hd8 rfl
    have HO3 := Lib.hid (show SlI W x8 fs1 from hr)
    clear hr
    clear hd8
    have hd9 := hv 9 (by omega)
    have hr := rel_get (x := x9) hd9 rfl
    have HO7 := Lib.hid (show SlI W x9 fs2 from hr)
    clear hr
    clear hd9
    simp only [putAll, Act.put, List.setIfInBounds_toArray, List.set_cons_succ, List.set_cons_zero]
    have HB2 := Lib.hid (Below.andThen HB1.out hc (Nat.le_refl _))
    have HX2 := Lib.hid (HX1.out.grow hc)
    clear hv hc hvl
    have HA2 := Lib.hid (show SlI W x8 fs1 from HO3.out)
    have HC2 := Lib.hid (show SlI W x9 fs2 from HO7.out)
    have HE12 := Lib.hid (show errA ss [fs1, fs2] = 0 by unfold errA; rw [if_pos HJ.out, if_pos (by simp [HFI1.out, HFI2.out])])
    clear HO3 HO7 HX1 R0 HF1 HF2 HB1
    go_wp2_with fail
    refine (Way_ok ss fs1 fs2 _ _ _ false _ HX2.out (by omega) HA2.out HC2.out HE12.out res HRES.out).mono ?_
    rintro e w3 ⟨s, rfl, hs, hb3⟩
    obtain ⟨sa, sc, rfl, _⟩ := OwnP.open hs
    have HS3 := Lib.hid (slp_own hs)
    have HX3 := Lib.hid (HX2.out.grow hb3)
    have HA3 := Lib.hid (HA2.out.grow hb3)
    have HC3 := Lib.hid (HC2.out.grow hb3)
    have HB3 := Lib.hid (Below.andThen HB2.out hb3 (Nat.le_refl _))
    clear hs hb3 HX2 HA2 HC2 HB2 HRES HE12
    generalize wayF res = wl at *
    generalize res.2.isSome = ok at *
    cases ok with
    | false =>
      go_wp2_with fail
      refine (awake_any _).mono ?_
      rintro e w10 ⟨rfl, hb⟩
      have HE := Lib.hid (Below.andThen HB3.out hb (Nat.le_refl _))
      clear hb
      go_wp2_with fail
      go_ret
      exact ⟨rfl, HE.out⟩
    | true =>
      have HG := Lib.hid (HGOOD.out rfl)
      clear HGOOD
      obtain ⟨M, hM⟩ : ∃ M, wl.length = M := ⟨_, rfl⟩
      have HML := Lib.hid hM
      rw [hM] at hwl
      rw [hM]
      clear hM
      obtain ⟨pos, hpos⟩ : ∃ pos, decide (0 < (M : Int)) = pos := ⟨_, rfl⟩
      have hpos2 : decide (0 < M) = pos := by rw [← hpos, Bool.eq_iff_iff, decide_eq_true_eq, decide_eq_true_eq]; omega
      have HPOS := Lib.hid hpos2
      go_upto_if 57 with fail
      clear hpos hpos2
      go_cut [11, 12, 13, 14, 15, 16] (fun t11 t12 t13 t14 t15 t16 wx => Hid (Below w3.heap.size w3 wx))
      case first =>
        cases pos with
        | false =>
          go_wp2_with fail
          go_meet
          exact Lib.hid (Below.refl _ _)
        | true =>
          have hM0 : 0 < M := of_decide_eq_true HPOS.out
          obtain ⟨m, rfl⟩ : ∃ m, M = m + 1 := ⟨M - 1, by omega⟩
          obtain ⟨sa', sc', es, hsc, hsp⟩ := HS3.out
          cases es
          obtain ⟨g, o, rfl, hpt⟩ := hsp.resolve_left (fun e => by have := HML.out; rw [e] at this; simp at this)
          have hbef := way_before HG.out (by have := HML.out; omega)
          have hok : ∀ p ∈ wl.take m, okP ss.length p = true := fun p hp => by
            have := (ssF_in (by omega)).1 (HG.out.steps p (List.mem_of_mem_take hp))
            exact okP_iff.2 ⟨this.2.2, by simp [lsF] at this; omega, by simp [lsF] at this; omega⟩
          have htk : (wl.take m).length = m := by rw [List.length_take]; have := HML.out; omega
          have hsl : SlP w3 (.slice (some ⟨g, o, none⟩) m m) (wl.take m) := ⟨_, m, by rw [htk], by omega, .inr ⟨g, o, rfl, hpt.lt, fun i hi => by rw [List.getElem_take]; exact hpt.x i (by have := HML.out; omega), fun i hi => by rw [List.getElem_take]; exact hpt.y i (by have := HML.out; omega)⟩⟩
          have HPO := Lib.hid (Pour_ok ss fs1 (wl.take m) _ _ _ w3 HX3.out HA3.out hsl HJ.out HFI1.out (by rw [htk]; omega))
          rw [takeW_all hok, htk] at HPO
          have hpd := pad_goF ss hn.2 (wl.take m) fs1 (fits_pad HJ.out HFI1.out).2.1 hok
          have hfc := fits_goF HJ.out (wl.take m) fs1 HFI1.out hok
          rw [show wl.length - 1 = m by have := HML.out; omega, hpd] at hbef
          obtain ⟨r2, hr2⟩ := ex_srch HJ.out HFI1.out (glG (padF (goF ss fs1 (wl.take m)))) false
          obtain ⟨hok2, hle2⟩ := way_found hn.2 (fits_pad HJ.out HFI1.out).1 hr2 hbef.1
          have hg2 := way_good hn.2 (fits_pad HJ.out HFI1.out).1 hr2 hok2
          have hge2 : m ≤ (wayF r2).length := by
            have h0 : Rch (padF ss) (ssF false ss.length) (padF fs1) 0 (padF fs1) := rfl
            have := rch_go h0 (wayF r2) hg2.steps
            rw [hg2.goes, Nat.zero_add] at this
            exact hbef.2 _ this
          have hlen2 : (wayF r2).length = m := by omega
          have HE2 := Lib.hid (show errA ss [fs1, goF ss fs1 (wl.take m)] = 0 by unfold errA; rw [if_pos HJ.out, if_pos (by simp [HFI1.out, hfc])])
          have HW2 := Lib.hid (fun (V : World) (cv : Value) (hb : Below w3.heap.size w3 V) (hc : SlI V cv (goF ss fs1 (wl.take m))) => Way_ok ss fs1 (goF ss fs1 (wl.take m)) _ _ cv false V (HX3.out.grow hb) (by omega) (HA3.out.grow hb) hc HE2.out r2 hr2)
          have HOK2 := Lib.hid hok2
          have HLEN2 := Lib.hid hlen2
          have e1 : ((m + 1 : Nat) : Int) - 1 = (m : Int) := by omega
          have hsc2 : m ≤ sc := by have := HML.out; omega
          have e2 : (((m : Nat) : Int) != (m : Int)) = false := by simp
          clear hbef hok htk hsl hpd hfc hr2 hok2 hle2 hg2 hge2 hlen2 hsp hpt hM0
          go_wp2_with fail
          refine HPO.out.mono ?_
          rintro e w4 ⟨cv, rfl, hcv, hb4⟩
          have HB4 := Lib.hid hb4
          have HCV := Lib.hid (sli_own hcv)
          clear hb4 hcv HPO hsc2 e1
          go_wp2_with fail
          refine (HW2.out w4 cv HB4.out HCV.out).mono ?_
          rintro e w5 ⟨s2, rfl, hs2, hb5⟩
          obtain ⟨sa2, sc2, rfl, _⟩ := OwnP.open hs2
          rw [HOK2.out, HLEN2.out]
          have HB5 := Lib.hid (Below.andThen HB4.out hb5 (Nat.le_refl _))
          have e1 : ((m + 1 : Nat) : Int) - 1 = (m : Int) := by omega
          clear hs2 hb5
          go_wp2_with fail
          go_meet
          exact HB5
      case rest =>
        have HB4 := hcut
        have HX4 := Lib.hid (HX3.out.grow HB4.out)
        have HA4 := Lib.hid (HA3.out.grow HB4.out)
        have HC4 := Lib.hid (HC3.out.grow HB4.out)
        have HB5 := Lib.hid (Below.andThen HB3.out HB4.out (Nat.le_refl _))
        clear hcut HX3 HA3 HC3 HS3 HB3 HB4 HPOS
        go_wp2_with fail
        refine (Steps_ok ss fs2 _ _ false wc HX4.out (by omega) HC4.out (errA_fits HJ.out HFI2.out)).mono ?_
        rintro e w5 ⟨s, rfl, hs, hb5⟩
        have hin : ∀ p ∈ stepsF (padF ss) (padF fs2) (ssF false ss.length), p ∈ ssF false ss.length := fun p hp => (List.mem_filter.1 hp).1
        have hLB : (stepsF (padF ss) (padF fs2) (ssF false ss.length)).length ≤ 30 := by
          rw [← refL_steps ss fs2 false HJ.out HFI2.out]
          exact refL_len ss fs2 false _ _ 0 (by omega) (by omega) (by omega)
        generalize stepsF (padF ss) (padF fs2) (ssF false ss.length) = L at *
        obtain ⟨sa2, sc2, rfl, hso⟩ := OwnP.open hs
        have HSO := Lib.hid hso
        have HIN := Lib.hid hin
        have HX5 := Lib.hid (HX4.out.grow hb5)
        have HA5 := Lib.hid (HA4.out.grow hb5)
        have HC5 := Lib.hid (HC4.out.grow hb5)
        have HB6 := Lib.hid (Below.andThen HB5.out hb5 (Nat.le_refl _))
        clear hs hb5 hso hin HX4 HA4 HC4 HB5
        go_wp2_with fail
        go_loopw [19] (fun iv wr => ∃ i : Nat, i ≤ L.length ∧ iv = .int .i64 (i : Int) ∧ Hid (Below w5.heap.size w5 wr)) (fun iv _ => (L.length - intOf iv).toNat)
        case atStart => exact ⟨0, by omega, rfl, Lib.hid (Below.refl _ _)⟩
        case round =>
          obtain ⟨i, hi, rfl, HBR⟩ := hrel
          have kw : IntKind.i64.wrap ((i : Int) + 1) = ((i + 1 : Nat) : Int) := by rw [i64_of _ (by omega) (by omega)]; omega
          by_cases hlt : i < L.length
          · have hd1 : decide ((i : Int) < (L.length : Int)) = true := decide_eq_true (by omega)
            have hd1n : decide (i < L.length) = true := decide_eq_true hlt
            obtain ⟨g, rfl, hpt, hcap⟩ : ∃ g, sa2 = some ⟨g, 0, none⟩ ∧ PtsAt w5 g 0 L ∧ L.length ≤ sc2 := by
              rcases HSO.out with ⟨_, _, h⟩ | ⟨g, _, h, h2, h3⟩
              · rw [h] at hlt; exact absurd hlt (by simp)
              · exact ⟨g, h, h2, h3⟩
            have hstep := (ssF_in (cl := false) hn.1).1 (HIN.out _ (List.getElem_mem hlt))
            have hokp : okP ss.length L[i] = true := okP_iff.2 ⟨hstep.2.2, by simp [lsF] at hstep; omega, by simp [lsF] at hstep; omega⟩
            have hok1 : ∀ p ∈ [L[i]], okP ss.length p = true := fun p hp => by rw [List.mem_singleton.1 hp]; exact hokp
            have hpt2 := hpt.grow HBR.out
            have hsl : SlP wr (.slice (some ⟨g, i * 2, none⟩) 1 1) [L[i]] := ⟨_, 1, rfl, Nat.le_refl _, .inr ⟨g, i * 2, rfl, hpt2.lt, fun j hj => by
              have : j = 0 := by simpa using hj
              subst this
              simpa using hpt2.x i hlt, fun j hj => by
              have : j = 0 := by simpa using hj
              subst this
              simpa using hpt2.y i hlt⟩⟩
            have HPO := Lib.hid (Pour_ok ss fs2 [L[i]] _ _ _ wr (HX5.out.grow HBR.out) (HC5.out.grow HBR.out) hsl HJ.out HFI2.out (by simp))
            rw [takeW_all hok1] at HPO
            have hpd := pad_goF ss hn.2 [L[i]] fs2 (fits_pad HJ.out HFI2.out).2.1 hok1
            have hfc := fits_goF HJ.out [L[i]] fs2 HFI2.out hok1
            obtain ⟨r2, hr2⟩ := ex_srch HJ.out HFI1.out (glG (padF (goF ss fs2 [L[i]]))) false
            have hrb : Rch (padF ss) (ssF false ss.length) (padF fs1) M (padF fs2) := by
              have h0 : Rch (padF ss) (ssF false ss.length) (padF fs1) 0 (padF fs1) := rfl
              have := rch_go h0 wl HG.out.steps
              rw [HG.out.goes, Nat.zero_add, HML.out] at this
              exact this
            have hrc : Rch (padF ss) (ssF false ss.length) (padF fs1) (M + 1) (padF (goF ss fs2 [L[i]])) := ⟨_, L[i], hrb, HIN.out _ (List.getElem_mem hlt), by rw [← hpd]; rfl⟩
            obtain ⟨hok2, hle2⟩ := way_found hn.2 (fits_pad HJ.out HFI1.out).1 hr2 hrc
            have HE2 := Lib.hid (show errA ss [fs1, goF ss fs2 [L[i]]] = 0 by unfold errA; rw [if_pos HJ.out, if_pos (by simp [HFI1.out, hfc])])
            have HW2 := Lib.hid (fun (V : World) (cv : Value) (hb : Below wr.heap.size wr V) (hc : SlI V cv (goF ss fs2 [L[i]])) => Way_ok ss fs1 (goF ss fs2 [L[i]]) _ _ cv false V ((HX5.out.grow HBR.out).grow hb) (by omega) ((HA5.out.grow HBR.out).grow hb) hc HE2.out r2 hr2)
            have HOK2 := Lib.hid hok2
            have hl1 : ([L[i]] : List Pt).length = 1 := rfl
            rw [hl1] at HPO
            clear hstep hokp hok1 hpt2 hsl hpd hfc hr2 hrb hrc hok2 hl1 hpt
            have hsc3 : i + 1 ≤ sc2 := by omega
            go_wp2_with fail
            refine HPO.out.mono ?_
            rintro e w6 ⟨cv, rfl, hcv, hb6⟩
            have HB7 := Lib.hid hb6
            have HCV := Lib.hid (sli_own hcv)
            clear hb6 hcv HPO hsc3
            go_wp2_with fail
            refine (HW2.out w6 cv HB7.out HCV.out).mono ?_
            rintro e w7 ⟨s2, rfl, hs2, hb7⟩
            obtain ⟨sa3, sc3, rfl, _⟩ := OwnP.open hs2
            rw [HOK2.out]
            have HB8 := Lib.hid (Below.andThen HBR.out (Below.andThen HB7.out hb7 (Nat.le_refl _)) (Nat.le_refl _))
            clear hs2 hb7
            generalize hlw : (wayF r2).length = l2' at *
            have hle3 : l2' ≤ M + 1 := by omega
            have e3 : decide ((l2' : Int) > (M : Int) + 1) = false := decide_eq_false (by omega)
            have e3' : decide ((M : Int) + 1 < (l2' : Int)) = false := decide_eq_false (by omega)
            have e3n : decide (M + 1 < l2') = false := decide_eq_false (by omega)
            clear hlw
            go_wp2_with fail
            exact ⟨⟨i + 1, by omega, by simp, HB8⟩, by simp [intOf]; omega⟩
          · have hd1 : decide ((i : Int) < (L.length : Int)) = false := decide_eq_false (by omega)
            have hd1n : decide (i < L.length) = false := decide_eq_false hlt
            go_wp2_with fail
            refine (awake_any _).mono ?_
            rintro e w10 ⟨rfl, hb⟩
            have HE := Lib.hid (Below.andThen (Below.andThen HB6.out HBR.out (Nat.le_refl _)) hb (Nat.le_refl _))
            clear hb
            go_wp2_with fail
            go_ret
            exact ⟨rfl, HE.out⟩
end Go.Proofs.Ytlamppplnojpbaa
