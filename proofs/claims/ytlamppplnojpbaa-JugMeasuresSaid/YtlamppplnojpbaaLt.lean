import Derived.Test.YtlamppplnojpbaaLs
import Derived.Test.YtlamppplnojpbaaLk
import Derived.Test.YtlamppplnojpbaaLo
import Derived.Laws.AppendOwn
import Derived.ChangeKeysEq
import Derived.Maps.RangeWalk
import Derived.Maps.OwnIn
import Derived.Maps.AppendAt
import Derived.RangeFuncNested
import Derived.RangeFuncBound
import Derived.RangeFuncCalls
import Derived.RangeFuncLeaves
import Derived.Shelf.Abstract
import Derived.Shelf.RegionOpen
import Derived.WalkKit
import Derived.WalkMore
import Derived.OwnWalkIn
import Derived.TacticsInMore
import Derived.LoopNIn
import Derived.LoopIn
import Derived.WalkSpells
import Derived.WalkLawsBesides
import Derived.BigQuiet
import Derived.Deep.QuietTactic
import Derived.Lib.Hide
import Derived.Deep.RegionHeld3
import Derived.StillTailTactics
import Derived.Deep.LoopGhost
import Derived.Maps.OwnSet
import Derived.Lib.IndexAny
import Derived.Sort.QuietThIn
import Derived.Sort.QuietTacIn
import Derived.Sort.BigQuietIn
import Derived.Laws.OwnMore
namespace Go.Proofs.Ytlamppplnojpbaa
open Go.RowKit Go.Shelf
attribute [local go_sem] Oper.semAt_some
def SliV (L : List Int) : Value → World → Prop := fun v W => SlI W v L
theorem SliV.stab (L : List Int) : ∀ (v : Value) (W W' : World), SliV L v W → Below W.heap.size W W' → SliV L v W' := fun _ _ _ h hb => SlI.grow h hb
def sm (F : List Int) : Nat → Int
  | 0 => 0
  | i + 1 => sm F i + F.getD i 0
theorem sm_pad {F : List Int} (h : F.length ≤ 4) : ∀ n, F.length ≤ n → n ≤ 4 → sm F n = sumF (padF F) := fun n h1 h2 => by
  have e : ∀ i, i < 4 → (padF F).getD i 0 = F.getD i 0 := fun i hi => padF_getD F i hi
  have z : ∀ i, F.length ≤ i → F.getD i 0 = 0 := fun i hi => by rw [List.getD_eq_getElem?_getD, List.getElem?_eq_none (by omega)]; rfl
  unfold sumF
  rw [e 0 (by omega), e 1 (by omega), e 2 (by omega), e 3 (by omega)]
  rcases (show n = 0 ∨ n = 1 ∨ n = 2 ∨ n = 3 ∨ n = 4 by omega) with rfl | rfl | rfl | rfl | rfl
  · rw [z 0 (by omega), z 1 (by omega), z 2 (by omega), z 3 (by omega)]; rfl
  · rw [z 1 (by omega), z 2 (by omega), z 3 (by omega)]; simp [sm]
  · rw [z 2 (by omega), z 3 (by omega)]; simp [sm]
  · rw [z 3 (by omega)]; simp [sm]
  · simp [sm]
theorem sm_bd {F : List Int} (h : ∀ i, 0 ≤ F.getD i 0 ∧ F.getD i 0 ≤ 12) : ∀ n : Nat, 0 ≤ sm F n ∧ sm F n ≤ 12 * (n : Int)
  | 0 => by simp [sm]
  | n + 1 => by
    have := sm_bd h n
    have := h n
    rw [sm]; omega
theorem fit_all {zs fs : List Int} (hj : jugsB zs = true) (hf : fitsB zs fs = true) (i : Nat) : 0 ≤ fs.getD i 0 ∧ fs.getD i 0 ≤ 12 := by
  obtain ⟨hfit, hl, h4⟩ := fits_pad hj hf
  by_cases h : i < 4
  · have := hfit.2 i h
    rw [padF_getD _ _ h] at this
    omega
  · rw [List.getD_eq_getElem?_getD, List.getElem?_eq_none (by omega)]; simp
theorem ex_srch {zs fs : List Int} (hj : jugsB zs = true) (hf : fitsB zs fs = true) (gl : List Int → Bool) (cl : Bool) : ∃ res, srch (padF zs) gl (ssF cl zs.length) 28562 (padF fs) = some res :=
  srch_ends _ gl (lsF cl) (mF cl zs.length) (lsF_ok cl) (by have := mF_ok cl zs.length; have := jugsB_len hj; omega) _ (fits_pad hj hf).1
theorem zeros_fit {zs : List Int} (hj : jugsB zs = true) : fitsB zs (List.replicate zs.length 0) = true := by
  unfold fitsB
  rw [Bool.and_eq_true, decide_eq_true_eq, List.all_eq_true]
  refine ⟨List.length_replicate, fun i hi => ?_⟩
  have hi := List.mem_range.1 hi
  rw [List.length_replicate] at hi
  have h := jugsB_in hj (List.getElem_mem hi)
  rw [getD_lt hi, List.getD_eq_getElem?_getD, List.getElem?_replicate, if_pos hi]
  simp only [Option.getD_some, Bool.and_eq_true, decide_eq_true_eq]
  omega
theorem ht_size {zs fs : List Int} (hf : fitsB zs fs = true) (hj : jugsB zs = true) {res : Sn × Option (List Int)} {cl : Bool} (h : srch (padF zs) glN (ssF cl zs.length) 28562 (padF fs) = some res) : res.1.length ≤ 28561 :=
  (srch_tree _ _ (lsF cl) (mF cl zs.length) (lsF_ok cl) (by have := mF_ok cl zs.length; have := jugsB_len hj; omega) _ (fits_pad hj hf).1 28562 res h).1.size
set_option maxRecDepth 100000 in
set_option maxHeartbeats 4000000 in
theorem JugCloses_any (zs m1 m2 : List Int) (v u1 u2 : Value) (w : World) (hv : SlI w v zs) (hu1 : SlI w u1 m1) (hu2 : SlI w u2 m2) (h1 : zs.length ≤ 9223372036854775807) (h2 : m1.length ≤ 9223372036854775807) (h3 : m2.length ≤ 9223372036854775807) :
    Calls Try.prog 13 #[v, .agg #[u1, u2]] w fun e w' => e = .returned (.bool true) ∧ Below w.heap.size w w' := by
  have ba := Below.al (Below.refl w.heap.size w) (Nat.le_refl _) (.cells #[u1, u2] 53)
  have r0 := Row.new w 53 [u1, u2]
  have HT := Lib.hid (tame_any zs v 3 (by omega) _ (hv.grow ba) h1)
  have hj0 := tameF_jugs zs 3 (by omega)
  have hF1 := fun (x : Value) (W : World) (hx : SlI W x (tameF zs 3)) (hb : Below w.heap.size w W) => filled_any (tameF zs 3) m1 x u1 W hx (hu1.grow hb) hj0 h2
  have hF2 := fun (x : Value) (W : World) (hx : SlI W x (tameF zs 3)) (hb : Below w.heap.size w W) => filled_any (tameF zs 3) m2 x u2 W hx (hu2.grow hb) hj0 h3
  have hfit1 := filF_fits m1 hj0
  have hfit2 := filF_fits m2 hj0
  generalize tameF zs 3 = ss at *
  generalize filF ss m1 = fs1 at *
  generalize filF ss m2 = fs2 at *
  have hn := jugsB_len hj0
  have HJ := Lib.hid hj0
  have HFI1 := Lib.hid hfit1
  have HFI2 := Lib.hid hfit2
  have HF1 := Lib.hid hF1
  have HF2 := Lib.hid hF2
  obtain ⟨resW, hrw⟩ := ex_srch HJ.out HFI1.out (glG (padF fs2)) true
  obtain ⟨farA, hfa⟩ := ex_srch HJ.out HFI1.out glN true
  obtain ⟨resZ, hrz⟩ := ex_srch HJ.out (zeros_fit HJ.out) (glG (padF fs2)) false
  obtain ⟨farZ, hfz⟩ := ex_srch HJ.out (zeros_fit HJ.out) glN false
  obtain ⟨recB, hrb⟩ := ex_srch HJ.out HFI2.out glN false
  have hsum : resW.2.isSome = true → sm fs1 ss.length = sm fs2 ss.length := fun h => by
    obtain ⟨f1, l1, g1⟩ := fits_pad HJ.out HFI1.out
    obtain ⟨f2, l2, g2⟩ := fits_pad HJ.out HFI2.out
    have hm := mF_ok true ss.length
    obtain ⟨ht, _, _⟩ := srch_tree _ _ (lsF true) (mF true ss.length) (lsF_ok true) (by omega) _ f1 28562 resW hrw
    have hL := srch_least _ _ _ _ _ _ hrw
    obtain ⟨g, hg⟩ := Option.isSome_iff_exists.1 h
    obtain ⟨h1, c, hc, _⟩ := hL.got g hg
    have hgG : g = padF fs2 := of_decide_eq_true h1
    subst hgG
    have := rch_sum hn.1 hn.2 f1 (ht.rch hc)
    rw [sm_pad g1 _ (by omega) hn.2, sm_pad g2 _ (by omega) hn.2, this]
  have hwl : resW.2.isSome = true → ∀ K, FarK farA.1 K → ((wayF resW).length : Int) ≤ K := fun h K hK => (way_le hn.2 (fits_pad HJ.out HFI1.out).1 hrw hfa hK h).1
  have hzl : resZ.2.isSome = true → ∀ K, FarK farZ.1 K → ((wayF resZ).length : Int) ≤ K := fun h K hK => (way_le hn.2 (fits_pad HJ.out (zeros_fit HJ.out)).1 hrz hfz hK h).1
  have hzi := way_iff hn.2 (fits_pad HJ.out (zeros_fit HJ.out)).1 hrz hfz
  have hbz := back_zero HJ.out HFI2.out hrb
  have hr2 : 2 ≤ farZ.1.length := reach_two HJ.out (by rw [← zeros_pad ss.length hn.2]; exact hfz) (by rw [← zeros_pad ss.length hn.2]; exact (fits_pad HJ.out (zeros_fit HJ.out)).1)
  have HRW := Lib.hid hrw
  have HFA := Lib.hid hfa
  have HRZ := Lib.hid hrz
  have HFZ := Lib.hid hfz
  have HRB := Lib.hid hrb
  have HSUM := Lib.hid hsum
  have HWL := Lib.hid hwl
  have HZL := Lib.hid hzl
  have HZI := Lib.hid hzi
  have HBZ := Lib.hid hbz
  have hszz := (ht_size (zeros_fit HJ.out) HJ.out hfz)
  clear hrw hfa hrz hfz hrb hsum hwl hzl hzi hbz
  obtain ⟨a1, c1, e1⟩ : ∃ a1 c1, u1 = .slice a1 m1.length c1 := by obtain ⟨a, c, h, _⟩ := hu1; exact ⟨a, c, h⟩
  obtain ⟨a2, c2, e2⟩ : ∃ a2 c2, u2 = .slice a2 m2.length c2 := by obtain ⟨a, c, h, _⟩ := hu2; exact ⟨a, c, h⟩
  have BA := Lib.hid ba
  have RR := Lib.hid r0
  clear hj0 hfit1 hfit2 hF1 hF2 hv hu1 hu2 h1 h2 h3 ba r0
  generalize m1.length = l1 at *
  generalize m2.length = l2 at *
  subst e1 e2
  go_enter Try.func13, Try.ntmps13
  go_wp2_with fail
  refine HT.out.mono ?_
  rintro e w1 ⟨xv, rfl, hx, hb1⟩
  have HX1 := Lib.hid (sli_own hx)
  have HB1 := Lib.hid (Below.andThen BA.out hb1 (Nat.le_refl _))
  have R0 := Lib.hid (RR.out.below hb1 RR.out.lt)
  clear hx hb1 HT RR BA
  have HF1 := Lib.hid (fun (W : World) (hb : Below w1.heap.size w1 W) => show Calls Try.prog 32 #[xv, .slice a1 l1 c1] W fun e w' => ∃ s, e = .returned s ∧ SlI w' s fs1 ∧ Below W.heap.size W w' from (HF1.out xv W (HX1.out.grow hb) (Below.andThen HB1.out hb (Nat.le_refl _))).mono fun e w' ⟨s, b1, b2, b3⟩ => ⟨s, b1, sli_own b2, b3⟩)
  have HF2 := Lib.hid (fun (W : World) (hb : Below w1.heap.size w1 W) => show Calls Try.prog 32 #[xv, .slice a2 l2 c2] W fun e w' => ∃ s, e = .returned s ∧ SlI w' s fs2 ∧ Below W.heap.size W w' from (HF2.out xv W (HX1.out.grow hb) (Below.andThen HB1.out hb (Nat.le_refl _))).mono fun e w' ⟨s, b1, b2, b3⟩ => ⟨s, b1, sli_own b2, b3⟩)
  go_wp2_with fail
  refine wp_region_rel (by kernel_rfl) (by kernel_rfl) [28, 29, 30, 31, 32, 33, 34, 35, 6, 7] [LitR (xv), LitR (.pointer (some ⟨w.heap.size, 0, none⟩)), LitR ((.slice a1 l1 c1)), (SliV fs1), LitR (xv), LitR (.pointer (some ⟨w.heap.size, 1, none⟩)), LitR ((.slice a2 l2 c2)), (SliV fs2), (SliV fs1), (SliV fs2)] 10 rfl (List.forall_mem_cons.2 ⟨LitR.stab _, (List.forall_mem_cons.2 ⟨LitR.stab _, (List.forall_mem_cons.2 ⟨LitR.stab _, (List.forall_mem_cons.2 ⟨SliV.stab _, (List.forall_mem_cons.2 ⟨LitR.stab _, (List.forall_mem_cons.2 ⟨LitR.stab _, (List.forall_mem_cons.2 ⟨LitR.stab _, (List.forall_mem_cons.2 ⟨SliV.stab _, (List.forall_mem_cons.2 ⟨SliV.stab _, (List.forall_mem_cons.2 ⟨SliV.stab _, (fun _ h => nomatch h)⟩)⟩)⟩)⟩)⟩)⟩)⟩)⟩)⟩)⟩) ⟨[undef, undef, undef, undef, undef, undef, undef, undef, undef, undef], by simp only [putAll, Act.put, List.setIfInBounds_toArray, List.set_cons_succ, List.set_cons_zero], rfl⟩ ?steps ?fin
  case steps =>
    simp only [relSteps]
    refine ⟨?_, ?_, ?_, ?_, ?_, ?_, ?_, ?_, ?_, ?_, trivial⟩
    · rintro vs W K hc hvl hw hK
      obtain ⟨x0, x1, x2, x3, x4, x5, x6, x7, x8, x9, rfl⟩ := len10 hvl
      have HK := Lib.hid hK
      have HC := Lib.hid hc
      have HW := Lib.hid hw
      clear hK hc hw hvl
      simp only [putAll, Act.put, List.setIfInBounds_toArray, List.set_cons_succ, List.set_cons_zero]
      clear HW
      go_wp2_with fail
      have fin := HK.out (xv) W (Below.refl _ _) rfl
      simp only [putAll, Act.put, List.setIfInBounds_toArray, List.set_cons_succ, List.set_cons_zero] at fin
      exact fin
    · rintro vs W K hc hvl hw hK
      obtain ⟨x0, x1, x2, x3, x4, x5, x6, x7, x8, x9, rfl⟩ := len10 hvl
      have HK := Lib.hid hK
      have HC := Lib.hid hc
      have HW := Lib.hid hw
      clear hK hc hw hvl
      simp only [putAll, Act.put, List.setIfInBounds_toArray, List.set_cons_succ, List.set_cons_zero]
      clear HW
      go_wp2_with fail
      have fin := HK.out (.pointer (some ⟨w.heap.size, 0, none⟩)) W (Below.refl _ _) rfl
      simp only [putAll, Act.put, List.setIfInBounds_toArray, List.set_cons_succ, List.set_cons_zero] at fin
      exact fin
    · rintro vs W K hc hvl hw hK
      obtain ⟨x0, x1, x2, x3, x4, x5, x6, x7, x8, x9, rfl⟩ := len10 hvl
      have HK := Lib.hid hK
      have HC := Lib.hid hc
      have HW := Lib.hid hw
      clear hK hc hw hvl
      have hd1 := HW.out ⟨1, .data⟩ (by simp) rfl
      obtain rfl : x1 = .pointer (some ⟨w.heap.size, 0, none⟩) := rel_get hd1 rfl
      simp only [putAll, Act.put, List.setIfInBounds_toArray, List.set_cons_succ, List.set_cons_zero]
      have r0 := R0.out.below HC.out R0.out.lt
      have k0 : W.cell? ⟨w.heap.size, 0, none⟩ = some (.slice a1 l1 c1) := r0.cell 0
      clear r0
      clear HW hd1
      go_wp2_with fail
      have fin := HK.out ((.slice a1 l1 c1)) W (Below.refl _ _) rfl
      simp only [putAll, Act.put, List.setIfInBounds_toArray, List.set_cons_succ, List.set_cons_zero] at fin
      exact fin
    · rintro vs W K hc hvl hw hK
      obtain ⟨x0, x1, x2, x3, x4, x5, x6, x7, x8, x9, rfl⟩ := len10 hvl
      have HK := Lib.hid hK
      have HC := Lib.hid hc
      have HW := Lib.hid hw
      clear hK hc hw hvl
      have hd0 := HW.out ⟨0, .data⟩ (by simp) rfl
      obtain rfl : x0 = xv := rel_get hd0 rfl
      have hd2 := HW.out ⟨2, .data⟩ (by simp) rfl
      obtain rfl : x2 = (.slice a1 l1 c1) := rel_get hd2 rfl
      simp only [putAll, Act.put, List.setIfInBounds_toArray, List.set_cons_succ, List.set_cons_zero]
      clear HW hd0 hd2
      go_wp2_with fail
      refine (HF1.out W HC.out).mono ?_
      rintro e W' ⟨x, rfl, hx, hb1⟩
      have HB' := Lib.hid hb1
      have HX := Lib.hid (show SliV fs1 x W' from hx)
      clear hb1 hx
      go_wp2_with fail
      have fin := HK.out (x) W' HB'.out HX.out
      simp only [putAll, Act.put, List.setIfInBounds_toArray, List.set_cons_succ, List.set_cons_zero] at fin
      exact fin
    · rintro vs W K hc hvl hw hK
      obtain ⟨x0, x1, x2, x3, x4, x5, x6, x7, x8, x9, rfl⟩ := len10 hvl
      have HK := Lib.hid hK
      have HC := Lib.hid hc
      have HW := Lib.hid hw
      clear hK hc hw hvl
      simp only [putAll, Act.put, List.setIfInBounds_toArray, List.set_cons_succ, List.set_cons_zero]
      clear HW
      go_wp2_with fail
      have fin := HK.out (xv) W (Below.refl _ _) rfl
      simp only [putAll, Act.put, List.setIfInBounds_toArray, List.set_cons_succ, List.set_cons_zero] at fin
      exact fin
    · rintro vs W K hc hvl hw hK
      obtain ⟨x0, x1, x2, x3, x4, x5, x6, x7, x8, x9, rfl⟩ := len10 hvl
      have HK := Lib.hid hK
      have HC := Lib.hid hc
      have HW := Lib.hid hw
      clear hK hc hw hvl
      simp only [putAll, Act.put, List.setIfInBounds_toArray, List.set_cons_succ, List.set_cons_zero]
      clear HW
      go_wp2_with fail
      have fin := HK.out (.pointer (some ⟨w.heap.size, 1, none⟩)) W (Below.refl _ _) rfl
      simp only [putAll, Act.put, List.setIfInBounds_toArray, List.set_cons_succ, List.set_cons_zero] at fin
      exact fin
    · rintro vs W K hc hvl hw hK
      obtain ⟨x0, x1, x2, x3, x4, x5, x6, x7, x8, x9, rfl⟩ := len10 hvl
      have HK := Lib.hid hK
      have HC := Lib.hid hc
      have HW := Lib.hid hw
      clear hK hc hw hvl
      have hd5 := HW.out ⟨5, .data⟩ (by simp) rfl
      obtain rfl : x5 = .pointer (some ⟨w.heap.size, 1, none⟩) := rel_get hd5 rfl
      simp only [putAll, Act.put, List.setIfInBounds_toArray, List.set_cons_succ, List.set_cons_zero]
      have r0 := R0.out.below HC.out R0.out.lt
      have k1 : W.cell? ⟨w.heap.size, 1, none⟩ = some (.slice a2 l2 c2) := r0.cell 1
      clear r0
      clear HW hd5
      go_wp2_with fail
      have fin := HK.out ((.slice a2 l2 c2)) W (Below.refl _ _) rfl
      simp only [putAll, Act.put, List.setIfInBounds_toArray, List.set_cons_succ, List.set_cons_zero] at fin
      exact fin
    · rintro vs W K hc hvl hw hK
      obtain ⟨x0, x1, x2, x3, x4, x5, x6, x7, x8, x9, rfl⟩ := len10 hvl
      have HK := Lib.hid hK
      have HC := Lib.hid hc
      have HW := Lib.hid hw
      clear hK hc hw hvl
      have hd4 := HW.out ⟨4, .data⟩ (by simp) rfl
      obtain rfl : x4 = xv := rel_get hd4 rfl
      have hd6 := HW.out ⟨6, .data⟩ (by simp) rfl
      obtain rfl : x6 = (.slice a2 l2 c2) := rel_get hd6 rfl
      simp only [putAll, Act.put, List.setIfInBounds_toArray, List.set_cons_succ, List.set_cons_zero]
      clear HW hd4 hd6
      go_wp2_with fail
      refine (HF2.out W HC.out).mono ?_
      rintro e W' ⟨x, rfl, hx, hb1⟩
      have HB' := Lib.hid hb1
      have HX := Lib.hid (show SliV fs2 x W' from hx)
      clear hb1 hx
      go_wp2_with fail
      have fin := HK.out (x) W' HB'.out HX.out
      simp only [putAll, Act.put, List.setIfInBounds_toArray, List.set_cons_succ, List.set_cons_zero] at fin
      exact fin
    · rintro vs W K hc hvl hw hK
      obtain ⟨x0, x1, x2, x3, x4, x5, x6, x7, x8, x9, rfl⟩ := len10 hvl
      have HK := Lib.hid hK
      have HC := Lib.hid hc
      have HW := Lib.hid hw
      clear hK hc hw hvl
      have hd3 := HW.out ⟨3, .data⟩ (by simp) rfl
      have hr := rel_get (x := x3) hd3 rfl
      have HO3 := Lib.hid (show SlI W x3 fs1 from hr)
      clear hr
      simp only [putAll, Act.put, List.setIfInBounds_toArray, List.set_cons_succ, List.set_cons_zero]
      clear HW hd3
      go_wp2_with fail
      have fin := HK.out (x3) W (Below.refl _ _) HO3.out
      simp only [putAll, Act.put, List.setIfInBounds_toArray, List.set_cons_succ, List.set_cons_zero] at fin
      exact fin
    · rintro vs W K hc hvl hw hK
      obtain ⟨x0, x1, x2, x3, x4, x5, x6, x7, x8, x9, rfl⟩ := len10 hvl
      have HK := Lib.hid hK
      have HC := Lib.hid hc
      have HW := Lib.hid hw
      clear hK hc hw hvl
      have hd7 := HW.out ⟨7, .data⟩ (by simp) rfl
      have hr := rel_get (x := x7) hd7 rfl
      have HO7 := Lib.hid (show SlI W x7 fs2 from hr)
      clear hr
      simp only [putAll, Act.put, List.setIfInBounds_toArray, List.set_cons_succ, List.set_cons_zero]
      clear HW hd7
      go_wp2_with fail
      have fin := HK.out (x7) W (Below.refl _ _) HO7.out
      simp only [putAll, Act.put, List.setIfInBounds_toArray, List.set_cons_succ, List.set_cons_zero] at fin
      exact fin
  case fin =>
    intro vs W hc hvl hv
    obtain ⟨x0, x1, x2, x3, x4, x5, x6, x7, x8, x9, rfl⟩ := len10 hvl
    have hd8 := hv 8 (by omega)
    have hr := rel_get (x := x8) hd8 rfl
    have HO3 := Lib.hid (show SlI W x8 fs1 from hr)
    clear hr
    clear hd8
    have hd9 := hv 9 (by omega)
    have hr := rel_get (x := x9) hd9 rfl
    have HO7 := Lib.hid (show SlI W x9 fs2 from hr)
    clear hr
    clear hd9
    simp only [putAll, Act.put, List.setIfInBounds_toArray, List.set_cons_succ, List.set_cons_zero]
    have HB2 := Lib.hid (Below.andThen HB1.out hc (Nat.le_refl _))
    have HX2 := Lib.hid (HX1.out.grow hc)
    clear hv hc hvl
    have HA2 := Lib.hid (show SlI W x8 fs1 from HO3.out)
    have HC2 := Lib.hid (show SlI W x9 fs2 from HO7.out)
    obtain ⟨xa, xc, hxv⟩ : ∃ a c, xv = .slice a ss.length c := by obtain ⟨a, c, h, _⟩ := HX2.out; exact ⟨a, c, h⟩
    obtain ⟨aa, ac, hav⟩ : ∃ a c, x8 = .slice a fs1.length c := by obtain ⟨a, c, h, _⟩ := HA2.out; exact ⟨a, c, h⟩
    obtain ⟨ba, bc, hbv⟩ : ∃ a c, x9 = .slice a fs2.length c := by obtain ⟨a, c, h, _⟩ := HC2.out; exact ⟨a, c, h⟩
    subst hxv hav hbv
    have BZ := Below.al (Below.refl W.heap.size W) (Nat.le_refl _) (.cells (List.replicate ss.length (.int .i64 0)).toArray 3)
    have HZ0 := Lib.hid (sli_zero W ss.length)
    have HX0 := Lib.hid (HX2.out.grow BZ)
    have HA0 := Lib.hid (HA2.out.grow BZ)
    have HC0 := Lib.hid (HC2.out.grow BZ)
    have HB0 := Lib.hid (Below.andThen HB2.out BZ (Nat.le_refl _))
    have hmk := make_ints ss.length (by omega)
    clear BZ HO3 HO7 HA2 HC2 HX2 HX1 R0 HF1 HF2 HB1
    go_wp2_with fail
    clear hmk
    have HE12 := Lib.hid (show errA ss [fs1, fs2] = 0 by unfold errA; rw [if_pos HJ.out, if_pos (by simp [HFI1.out, HFI2.out])])
    have HEZ2 := Lib.hid (show errA ss [List.replicate ss.length 0, fs2] = 0 by unfold errA; rw [if_pos HJ.out, if_pos (by simp [HFI2.out, zeros_fit HJ.out])])
    refine (Way_ok ss fs1 fs2 _ _ _ true _ HX0.out (by omega) HA0.out HC0.out HE12.out resW HRW.out).mono ?_
    rintro e w3 ⟨s, rfl, hs, hb3⟩
    obtain ⟨sa, sc, rfl, _⟩ := OwnP.open hs
    have HX3 := Lib.hid (HX0.out.grow hb3)
    have HA3 := Lib.hid (HA0.out.grow hb3)
    have HC3 := Lib.hid (HC0.out.grow hb3)
    have HZ3 := Lib.hid (HZ0.out.grow hb3)
    have HB3 := Lib.hid (Below.andThen HB0.out hb3 (Nat.le_refl _))
    clear hs hb3 HX0 HA0 HC0 HZ0 HB0 HRW
    go_wp2_with fail
    refine (Farthest_ok ss fs1 _ _ true w3 HX3.out HA3.out HJ.out HFI1.out farA HFA.out).mono ?_
    rintro e w4 ⟨K, rfl, hK, hb4⟩
    have HX4 := Lib.hid (HX3.out.grow hb4)
    have HA4 := Lib.hid (HA3.out.grow hb4)
    have HC4 := Lib.hid (HC3.out.grow hb4)
    have HZ4 := Lib.hid (HZ3.out.grow hb4)
    have HB4 := Lib.hid (Below.andThen HB3.out hb4 (Nat.le_refl _))
    have HKW := Lib.hid (show resW.2.isSome = true → ((wayF resW).length : Int) ≤ K from fun h => HWL.out h K hK)
    clear hK hb4 HX3 HA3 HC3 HZ3 HB3 HFA HWL
    generalize (wayF resW).length = lw at *
    generalize resW.2.isSome = ok at *
    go_wp2_with fail
    go_loopw [14, 15, 16] (fun pv qv iv wr => ∃ i : Nat, i ≤ ss.length ∧ iv = .int .i64 (i : Int) ∧ pv = .int .i64 (sm fs1 i) ∧ qv = .int .i64 (sm fs2 i) ∧ Hid (Below w4.heap.size w4 wr)) (fun _ _ iv _ => (ss.length - intOf iv).toNat)
    case atStart => exact ⟨0, by omega, rfl, rfl, rfl, Lib.hid (Below.refl _ _)⟩
    case round =>
      obtain ⟨i, hi, rfl, rfl, rfl, HBR⟩ := hrel
      have kw : IntKind.i64.wrap ((i : Int) + 1) = ((i + 1 : Nat) : Int) := by rw [i64_of _ (by omega) (by omega)]; omega
      by_cases hlt : i < ss.length
      · have hd1 : decide ((i : Int) < (ss.length : Int)) = true := decide_eq_true (by omega)
        have hd1n : decide (i < ss.length) = true := decide_eq_true hlt
        have hl1 : fs1.length = ss.length := (fits_pad HJ.out HFI1.out).2.1
        have hl2 : fs2.length = ss.length := (fits_pad HJ.out HFI2.out).2.1
        have b1 := sm_bd (fit_all HJ.out HFI1.out) i
        have b2 := sm_bd (fit_all HJ.out HFI2.out) i
        have e1 := fit_all HJ.out HFI1.out i
        have e2 := fit_all HJ.out HFI2.out i
        obtain ⟨g1, o1, cc1, ev1, _, hg1, hi1⟩ := sli_cells (HA4.out.grow HBR.out) (by intro h; rw [h] at hl1; simp at hl1; omega)
        obtain ⟨g2, o2, cc2, ev2, _, hg2, hi2⟩ := sli_cells (HC4.out.grow HBR.out) (by intro h; rw [h] at hl2; simp at hl2; omega)
        cases ev1
        cases ev2
        have k1 := hi1.at_ i (by omega)
        have k2 := hi2.at_ i (by omega)
        rw [← getD_lt (by omega)] at k1 k2
        have S1 := Lib.hid (show sm fs1 (i + 1) = sm fs1 i + fs1.getD i 0 from rfl)
        have S2 := Lib.hid (show sm fs2 (i + 1) = sm fs2 i + fs2.getD i 0 from rfl)
        rw [hl1, hl2]
        have HL1 := Lib.hid hl1
        have HL2 := Lib.hid hl2
        clear hi1 hi2 hl1 hl2 hg1 hg2
        generalize fs1.getD i 0 = z1 at *
        generalize fs2.getD i 0 = z2 at *
        generalize sm fs1 i = t1 at *
        generalize sm fs2 i = t2 at *
        have n1 : IntKind.i64.wrap (t1 + z1) = t1 + z1 := i64_of _ (by omega) (by omega)
        have n2 : IntKind.i64.wrap (t2 + z2) = t2 + z2 := i64_of _ (by omega) (by omega)
        go_wp2_with fail
        exact ⟨⟨i + 1, by omega, by simp, by rw [S1.out], by rw [S2.out], HBR⟩, by simp [intOf]; omega⟩
      · have hd1 : decide ((i : Int) < (ss.length : Int)) = false := decide_eq_false (by omega)
        have hd1n : decide (i < ss.length) = false := decide_eq_false hlt
        obtain rfl : i = ss.length := by omega
        have HPQ := Lib.hid HSUM.out
        clear HSUM
        generalize sm fs1 ss.length = P at *
        generalize sm fs2 ss.length = Q at *
        cases ok with
        | false =>
          clear HPQ HKW
          go_wp2_with fail
          have HX5 := Lib.hid (HX4.out.grow HBR.out)
          have HA5 := Lib.hid (HA4.out.grow HBR.out)
          have HC5 := Lib.hid (HC4.out.grow HBR.out)
          have HZ5 := Lib.hid (HZ4.out.grow HBR.out)
          have HB5 := Lib.hid (Below.andThen HB4.out HBR.out (Nat.le_refl _))
          clear HX4 HA4 HC4 HZ4 HB4 HBR
          refine (Way_ok ss (List.replicate ss.length 0) fs2 _ _ _ false wr HX5.out (by omega) HZ5.out HC5.out HEZ2.out resZ HRZ.out).mono ?_
          rintro e w6 ⟨t, rfl, ht, hb6⟩
          obtain ⟨ta, tc, rfl, _⟩ := OwnP.open ht
          have HX6 := Lib.hid (HX5.out.grow hb6)
          have HC6 := Lib.hid (HC5.out.grow hb6)
          have HZ6 := Lib.hid (HZ5.out.grow hb6)
          have HB6 := Lib.hid (Below.andThen HB5.out hb6 (Nat.le_refl _))
          clear ht hb6 HX5 HA5 HC5 HZ5 HB5 HRZ
          go_wp2_with fail
          refine (Back_ok ss (List.replicate ss.length 0) fs2 _ _ _ w6 HX6.out HZ6.out HC6.out HJ.out (zeros_fit HJ.out) HFI2.out farZ recB HFZ.out HRB.out).mono ?_
          rw [zeros_pad ss.length hn.2, HBZ.out, Bool.and_true]
          rintro e w7 ⟨rfl, hb7⟩
          have HX7 := Lib.hid (HX6.out.grow hb7)
          have HZ7 := Lib.hid (HZ6.out.grow hb7)
          have HB7 := Lib.hid (Below.andThen HB6.out hb7 (Nat.le_refl _))
          have HZE := Lib.hid (show (lookA farZ.1 (padF fs2)).isSome = resZ.2.isSome from HZI.out.symm)
          clear hb7 HX6 HC6 HZ6 HB6 HRB
          rw [HZE.out]
          have HKZ := Lib.hid (fun (K : Int) (h : FarK farZ.1 K) (h2 : resZ.2.isSome = true) => HZL.out h2 K h)
          clear HZL HZI HZE
          generalize (wayF resZ).length = lz at *
          generalize resZ.2.isSome = A at *
          cases A with
          | false =>
            simp only [if_true, Bool.false_eq_true, if_false]
            go_wp2_with fail
            refine (Farthest_ok ss (List.replicate ss.length 0) _ _ false w7 HX7.out HZ7.out HJ.out (zeros_fit HJ.out) farZ HFZ.out).mono ?_
            rintro e w8 ⟨K2, rfl, hK2, hb8⟩
            have HX8 := Lib.hid (HX7.out.grow hb8)
            have HZ8 := Lib.hid (HZ7.out.grow hb8)
            have HB8 := Lib.hid (Below.andThen HB7.out hb8 (Nat.le_refl _))
            clear hK2 hb8 HX7 HZ7 HB7 HKZ
            go_wp2_with fail
            refine (Reached_ok ss (List.replicate ss.length 0) _ _ false w8 HX8.out HZ8.out HJ.out (zeros_fit HJ.out) farZ HFZ.out).mono ?_
            rintro e w9 ⟨rfl, hb9⟩
            have HB9 := Lib.hid (Below.andThen HB8.out hb9 (Nat.le_refl _))
            have d2 : decide ((farZ.1.length : Int) ≥ 2) = true := decide_eq_true (by omega)
            have d2n : decide (2 ≤ farZ.1.length) = true := decide_eq_true hr2
            clear hb9 HX8 HZ8 HB8
            go_wp2_with fail
            refine (awake_any _).mono ?_
            rintro e w10 ⟨rfl, hb⟩
            have HE := Lib.hid (Below.andThen HB9.out hb (Nat.le_refl _))
            clear hb
            go_wp2_with fail
            go_ret
            exact ⟨rfl, HE.out⟩
          | true =>
            simp only [if_true, Bool.false_eq_true, if_false]
            go_wp2_with fail
            refine (Farthest_ok ss (List.replicate ss.length 0) _ _ false w7 HX7.out HZ7.out HJ.out (zeros_fit HJ.out) farZ HFZ.out).mono ?_
            rintro e w8 ⟨K2, rfl, hK2, hb8⟩
            have dk2 : decide (K2 < (lz : Int)) = false := decide_eq_false (by have := HKZ.out K2 hK2 (by trivial); omega)
            have HX8 := Lib.hid (HX7.out.grow hb8)
            have HZ8 := Lib.hid (HZ7.out.grow hb8)
            have HB8 := Lib.hid (Below.andThen HB7.out hb8 (Nat.le_refl _))
            clear hK2 hb8 HX7 HZ7 HB7 HKZ
            go_wp2_with fail
            refine (Reached_ok ss (List.replicate ss.length 0) _ _ false w8 HX8.out HZ8.out HJ.out (zeros_fit HJ.out) farZ HFZ.out).mono ?_
            rintro e w9 ⟨rfl, hb9⟩
            have HB9 := Lib.hid (Below.andThen HB8.out hb9 (Nat.le_refl _))
            have d2 : decide ((farZ.1.length : Int) ≥ 2) = true := decide_eq_true (by omega)
            have d2n : decide (2 ≤ farZ.1.length) = true := decide_eq_true hr2
            clear hb9 HX8 HZ8 HB8
            go_wp2_with fail
            refine (awake_any _).mono ?_
            rintro e w10 ⟨rfl, hb⟩
            have HE := Lib.hid (Below.andThen HB9.out hb (Nat.le_refl _))
            clear hb
            go_wp2_with fail
            go_ret
            exact ⟨rfl, HE.out⟩
        | true =>
          have hPQ : P = Q := HPQ.out rfl
          subst hPQ
          have dk : decide (K < (lw : Int)) = false := decide_eq_false (by have := HKW.out rfl; omega)
          have dp : (P != P) = false := by simp
          clear HPQ HKW
          go_wp2_with fail
          have HX5 := Lib.hid (HX4.out.grow HBR.out)
          have HA5 := Lib.hid (HA4.out.grow HBR.out)
          have HC5 := Lib.hid (HC4.out.grow HBR.out)
          have HZ5 := Lib.hid (HZ4.out.grow HBR.out)
          have HB5 := Lib.hid (Below.andThen HB4.out HBR.out (Nat.le_refl _))
          clear HX4 HA4 HC4 HZ4 HB4 HBR
          refine (Way_ok ss (List.replicate ss.length 0) fs2 _ _ _ false wr HX5.out (by omega) HZ5.out HC5.out HEZ2.out resZ HRZ.out).mono ?_
          rintro e w6 ⟨t, rfl, ht, hb6⟩
          obtain ⟨ta, tc, rfl, _⟩ := OwnP.open ht
          have HX6 := Lib.hid (HX5.out.grow hb6)
          have HC6 := Lib.hid (HC5.out.grow hb6)
          have HZ6 := Lib.hid (HZ5.out.grow hb6)
          have HB6 := Lib.hid (Below.andThen HB5.out hb6 (Nat.le_refl _))
          clear ht hb6 HX5 HA5 HC5 HZ5 HB5 HRZ
          go_wp2_with fail
          refine (Back_ok ss (List.replicate ss.length 0) fs2 _ _ _ w6 HX6.out HZ6.out HC6.out HJ.out (zeros_fit HJ.out) HFI2.out farZ recB HFZ.out HRB.out).mono ?_
          rw [zeros_pad ss.length hn.2, HBZ.out, Bool.and_true]
          rintro e w7 ⟨rfl, hb7⟩
          have HX7 := Lib.hid (HX6.out.grow hb7)
          have HZ7 := Lib.hid (HZ6.out.grow hb7)
          have HB7 := Lib.hid (Below.andThen HB6.out hb7 (Nat.le_refl _))
          have HZE := Lib.hid (show (lookA farZ.1 (padF fs2)).isSome = resZ.2.isSome from HZI.out.symm)
          clear hb7 HX6 HC6 HZ6 HB6 HRB
          rw [HZE.out]
          have HKZ := Lib.hid (fun (K : Int) (h : FarK farZ.1 K) (h2 : resZ.2.isSome = true) => HZL.out h2 K h)
          clear HZL HZI HZE
          generalize (wayF resZ).length = lz at *
          generalize resZ.2.isSome = A at *
          cases A with
          | false =>
            simp only [if_true, Bool.false_eq_true, if_false]
            go_wp2_with fail
            refine (Farthest_ok ss (List.replicate ss.length 0) _ _ false w7 HX7.out HZ7.out HJ.out (zeros_fit HJ.out) farZ HFZ.out).mono ?_
            rintro e w8 ⟨K2, rfl, hK2, hb8⟩
            have HX8 := Lib.hid (HX7.out.grow hb8)
            have HZ8 := Lib.hid (HZ7.out.grow hb8)
            have HB8 := Lib.hid (Below.andThen HB7.out hb8 (Nat.le_refl _))
            clear hK2 hb8 HX7 HZ7 HB7 HKZ
            go_wp2_with fail
            refine (Reached_ok ss (List.replicate ss.length 0) _ _ false w8 HX8.out HZ8.out HJ.out (zeros_fit HJ.out) farZ HFZ.out).mono ?_
            rintro e w9 ⟨rfl, hb9⟩
            have HB9 := Lib.hid (Below.andThen HB8.out hb9 (Nat.le_refl _))
            have d2 : decide ((farZ.1.length : Int) ≥ 2) = true := decide_eq_true (by omega)
            have d2n : decide (2 ≤ farZ.1.length) = true := decide_eq_true hr2
            clear hb9 HX8 HZ8 HB8
            go_wp2_with fail
            refine (awake_any _).mono ?_
            rintro e w10 ⟨rfl, hb⟩
            have HE := Lib.hid (Below.andThen HB9.out hb (Nat.le_refl _))
            clear hb
            go_wp2_with fail
            go_ret
            exact ⟨rfl, HE.out⟩
          | true =>
            simp only [if_true, Bool.false_eq_true, if_false]
            go_wp2_with fail
            refine (Farthest_ok ss (List.replicate ss.length 0) _ _ false w7 HX7.out HZ7.out HJ.out (zeros_fit HJ.out) farZ HFZ.out).mono ?_
            rintro e w8 ⟨K2, rfl, hK2, hb8⟩
            have dk2 : decide (K2 < (lz : Int)) = false := decide_eq_false (by have := HKZ.out K2 hK2 (by trivial); omega)
            have HX8 := Lib.hid (HX7.out.grow hb8)
            have HZ8 := Lib.hid (HZ7.out.grow hb8)
            have HB8 := Lib.hid (Below.andThen HB7.out hb8 (Nat.le_refl _))
            clear hK2 hb8 HX7 HZ7 HB7 HKZ
            go_wp2_with fail
            refine (Reached_ok ss (List.replicate ss.length 0) _ _ false w8 HX8.out HZ8.out HJ.out (zeros_fit HJ.out) farZ HFZ.out).mono ?_
            rintro e w9 ⟨rfl, hb9⟩
            have HB9 := Lib.hid (Below.andThen HB8.out hb9 (Nat.le_refl _))
            have d2 : decide ((farZ.1.length : Int) ≥ 2) = true := decide_eq_true (by omega)
            have d2n : decide (2 ≤ farZ.1.length) = true := decide_eq_true hr2
            clear hb9 HX8 HZ8 HB8
            go_wp2_with fail
            refine (awake_any _).mono ?_
            rintro e w10 ⟨rfl, hb⟩
            have HE := Lib.hid (Below.andThen HB9.out hb (Nat.le_refl _))
            clear hb
            go_wp2_with fail
            go_ret
            exact ⟨rfl, HE.out⟩
end Go.Proofs.Ytlamppplnojpbaa
