import Derived.Test.YtlamppplnojpbaaNa
import Derived.Test.YtlamppplnojpbaaLt
import Derived.Test.YtlamppplnojpbaaLv
import Derived.Laws.AppendOwn
import Derived.ChangeKeysEq
import Derived.Maps.RangeWalk
import Derived.Maps.OwnIn
import Derived.Maps.AppendAt
import Derived.RangeFuncNested
import Derived.RangeFuncBound
import Derived.RangeFuncCalls
import Derived.RangeFuncLeaves
import Derived.Shelf.Abstract
import Derived.Shelf.RegionOpen
import Derived.WalkKit
import Derived.WalkMore
import Derived.OwnWalkIn
import Derived.TacticsInMore
import Derived.LoopNIn
import Derived.LoopIn
import Derived.WalkSpells
import Derived.WalkLawsBesides
import Derived.BigQuiet
import Derived.Deep.QuietTactic
import Derived.Lib.Hide
import Derived.Deep.RegionHeld3
import Derived.StillTailTactics
import Derived.Deep.LoopGhost
import Derived.Maps.OwnSet
import Derived.Lib.IndexAny
import Derived.Sort.QuietThIn
import Derived.Sort.QuietTacIn
import Derived.Sort.BigQuietIn
import Derived.Laws.OwnMore
namespace Go.Proofs.Ytlamppplnojpbaa
open Go.RowKit Go.Shelf
attribute [local go_sem] Oper.semAt_some
/-- a slice of numbers at its block's start -/
def RowI (L : List Int) : Value → World → Prop := fun v W => ∃ g c, v = .slice (some ⟨g, 0, none⟩) L.length c ∧ L.length ≤ c ∧ IntsAt W g 0 L ∧ g < W.heap.size
theorem RowI.stab (L : List Int) : ∀ (v : Value) (W W' : World), RowI L v W → Below W.heap.size W W' → RowI L v W' := fun _ _ _ ⟨g, c, h1, h2, h3, h4⟩ hb => ⟨g, c, h1, h2, h3.below hb h4, Nat.lt_of_lt_of_le h4 hb.size⟩
theorem RowI.grow {L : List Int} {v : Value} {W W' : World} (h : RowI L v W) (hb : Below W.heap.size W W') : RowI L v W' := RowI.stab L v W W' h hb
theorem RowI.sli {L : List Int} {v : Value} {W : World} (h : RowI L v W) : SlI W v L := by
  obtain ⟨g, c, rfl, h2, h3, h4⟩ := h
  exact ⟨_, c, rfl, h2, .inr ⟨g, 0, rfl, h4, h3⟩⟩
theorem row_own {W : World} {n0 k : Nat} {L : List Int} {v : Value} (h : W.ownsRow n0 3 1 v k (L.map encI)) (hL : L ≠ []) : RowI L v W := by
  obtain ⟨g, c, rfl, h1, h2⟩ := own_ints h hL
  refine ⟨g, c, rfl, ?_, h2, h1⟩
  have hl := h.1
  rw [List.length_map] at hl
  rcases h.2 with ⟨e, _⟩ | ⟨g', cap, cur, e, _, _, h5, _⟩
  · cases e
  · cases e; omega
theorem Ent.row {n0 bo : Nat} {W : World} {u : Value} {f : List Int} (h : Ent n0 bo W u f) : RowI f u W := by
  obtain ⟨b, c, e, h2, h3, h4, _⟩ := h
  exact ⟨b, c, e, h2, h3, h4⟩
/-- the table, read at the code of a filling -/
theorem tab_open {ss : List Int} {A : Sn} (hj : jugsB ss = true) (hA : ∀ p ∈ A, FitP (padF ss) p.1) {W : World} {s : Value} (hs : SlI W s (tabL ss A (prodR ss ss.length).toNat)) :
    ∃ b o N c, s = .slice (some ⟨b, o, none⟩) N c ∧ N ≤ c ∧ N ≤ 28561 ∧ b < W.heap.size ∧ ∀ G, fitsB ss G = true → ∃ d, d < N ∧ codR ss G ss.length = ((d : Nat) : Int) ∧ W.cell? ⟨b, o + d, none⟩ = some (.int .i64 (((lookA A (padF G)).map Cm.k).getD (-1))) := by
  have hn := jugsB_len hj
  have hz : FitP (padF ss) (padF (List.replicate ss.length 0)) := (fits_pad hj (zeros_fit hj)).1
  have hb := cdF_bd hj hz
  obtain ⟨N, hN⟩ : ∃ N : Nat, prodR ss ss.length = (N : Int) := ⟨(prodR ss ss.length).toNat, by omega⟩
  rw [hN, Int.toNat_natCast] at hs
  obtain ⟨a1, c1, rfl, hc1, hs1⟩ := hs
  rw [tabL_len] at hc1 ⊢
  have hlen := tabL_len ss A N
  obtain ⟨bt, ot, rfl, hbt, hti⟩ := hs1.resolve_left (fun e => by rw [e] at hlen; simp at hlen; omega)
  refine ⟨bt, ot, N, c1, rfl, hc1, by omega, hbt, fun G hG => ?_⟩
  have hp := (fits_pad hj hG).1
  have hcb := cdF_bd hj hp
  have htl := tab_look hj hp A hA
  rw [← cdF_pad hn.2]
  obtain ⟨d, hd⟩ : ∃ d : Nat, cdF ss (padF G) = (d : Int) := ⟨(cdF ss (padF G)).toNat, by omega⟩
  have hdN : d < N := by omega
  rw [hd] at htl ⊢
  have htg := tabL_get ss A N d hdN
  rw [htl] at htg
  have hct := hti.at_ d (by rw [hlen]; exact hdN)
  rw [← getD_lt (by rw [hlen]; exact hdN), htg] at hct
  exact ⟨d, hdN, rfl, hct⟩
set_option maxRecDepth 100000 in
set_option maxHeartbeats 1000000 in
theorem JugBacks_any (zs m1 m2 : List Int) (v u1 u2 : Value) (w : World) (hv : SlI w v zs) (hu1 : SlI w u1 m1) (hu2 : SlI w u2 m2) (h1 : zs.length ≤ 9223372036854775807) (h2 : m1.length ≤ 9223372036854775807) (h3 : m2.length ≤ 9223372036854775807) :
    Calls Try.prog 10 #[v, .agg #[u1, u2]] w fun e w' => e = .returned (.bool true) ∧ Below w.heap.size w w' := by
  have ba := Below.al (Below.refl w.heap.size w) (Nat.le_refl _) (.cells #[u1, u2] 53)
  have r0 := Row.new w 53 [u1, u2]
  have HT := Lib.hid (tame_any zs v 3 (by omega) _ (hv.grow ba) h1)
  have hj0 := tameF_jugs zs 3 (by omega)
  have hF1 := fun (x : Value) (W : World) (hx : SlI W x (tameF zs 3)) (hb : Below w.heap.size w W) => filled_any (tameF zs 3) m1 x u1 W hx (hu1.grow hb) hj0 h2
  have hF2 := fun (x : Value) (W : World) (hx : SlI W x (tameF zs 3)) (hb : Below w.heap.size w W) => filled_any (tameF zs 3) m2 x u2 W hx (hu2.grow hb) hj0 h3
  have hfit1 := filF_fits m1 hj0
  have hfit2 := filF_fits m2 hj0
  generalize tameF zs 3 = ss at *
  generalize filF ss m1 = fs1 at *
  generalize filF ss m2 = fs2 at *
  have hn := jugsB_len hj0
  have HJ := Lib.hid hj0
  have HFI1 := Lib.hid hfit1
  have HFI2 := Lib.hid hfit2
  have HF1 := Lib.hid hF1
  have HF2 := Lib.hid hF2
  have HNE1 := Lib.hid (show fs1 ≠ [] from fun e => by have := (fits_pad HJ.out HFI1.out).2.1; rw [e, List.length_nil] at this; omega)
  have HNE2 := Lib.hid (show fs2 ≠ [] from fun e => by have := (fits_pad HJ.out HFI2.out).2.1; rw [e, List.length_nil] at this; omega)
  obtain ⟨res, hres⟩ := ex_srch HJ.out HFI1.out glN false
  have hst := srch_tree _ _ (lsF false) (mF false ss.length) (lsF_ok false) (by have := mF_ok false ss.length; omega) _ (fits_pad HJ.out HFI1.out).1 _ res hres
  have HRES := Lib.hid hres
  have HTR := Lib.hid hst.1
  have HS0 := Lib.hid hst.2.1
  clear hres hst
  obtain ⟨a1, c1, e1⟩ : ∃ a1 c1, u1 = .slice a1 m1.length c1 := by obtain ⟨a, c, h, _⟩ := hu1; exact ⟨a, c, h⟩
  obtain ⟨a2, c2, e2⟩ : ∃ a2 c2, u2 = .slice a2 m2.length c2 := by obtain ⟨a, c, h, _⟩ := hu2; exact ⟨a, c, h⟩
  have BA := Lib.hid ba
  have RR := Lib.hid r0
  clear hj0 hfit1 hfit2 hF1 hF2 hv hu1 hu2 h1 h2 h3 ba r0
  generalize m1.length = l1 at *
  generalize m2.length = l2 at *
  subst e1 e2
  go_enter Try.func10, Try.ntmps10
  go_wp2_with fail
  refine HT.out.mono ?_
  rintro e w1 ⟨xv, rfl, hx, hb1⟩
  have HX1 := Lib.hid (sli_own hx)
  have HB1 := Lib.hid (Below.andThen BA.out hb1 (Nat.le_refl _))
  have R0 := Lib.hid (RR.out.below hb1 RR.out.lt)
  clear hx hb1 HT RR BA
  have HF1 := Lib.hid (fun (W : World) (hb : Below w1.heap.size w1 W) => show Calls Try.prog 32 #[xv, .slice a1 l1 c1] W fun e w' => ∃ s, e = .returned s ∧ RowI fs1 s w' ∧ Below W.heap.size W w' from (HF1.out xv W (HX1.out.grow hb) (Below.andThen HB1.out hb (Nat.le_refl _))).mono fun e w' ⟨s, b1, b2, b3⟩ => ⟨s, b1, row_own b2 HNE1.out, b3⟩)
  have HF2 := Lib.hid (fun (W : World) (hb : Below w1.heap.size w1 W) => show Calls Try.prog 32 #[xv, .slice a2 l2 c2] W fun e w' => ∃ s, e = .returned s ∧ RowI fs2 s w' ∧ Below W.heap.size W w' from (HF2.out xv W (HX1.out.grow hb) (Below.andThen HB1.out hb (Nat.le_refl _))).mono fun e w' ⟨s, b1, b2, b3⟩ => ⟨s, b1, row_own b2 HNE2.out, b3⟩)
  go_wp2_with fail
  refine wp_region_rel (by kernel_rfl) (by kernel_rfl) [17, 18, 19, 20, 21, 22, 23, 24, 6, 7] [LitR (xv), LitR (.pointer (some ⟨w.heap.size, 0, none⟩)), LitR ((.slice a1 l1 c1)), (RowI fs1), LitR (xv), LitR (.pointer (some ⟨w.heap.size, 1, none⟩)), LitR ((.slice a2 l2 c2)), (RowI fs2), (RowI fs1), (RowI fs2)] 10 rfl (List.forall_mem_cons.2 ⟨LitR.stab _, (List.forall_mem_cons.2 ⟨LitR.stab _, (List.forall_mem_cons.2 ⟨LitR.stab _, (List.forall_mem_cons.2 ⟨RowI.stab _, (List.forall_mem_cons.2 ⟨LitR.stab _, (List.forall_mem_cons.2 ⟨LitR.stab _, (List.forall_mem_cons.2 ⟨LitR.stab _, (List.forall_mem_cons.2 ⟨RowI.stab _, (List.forall_mem_cons.2 ⟨RowI.stab _, (List.forall_mem_cons.2 ⟨RowI.stab _, (fun _ h => nomatch h)⟩)⟩)⟩)⟩)⟩)⟩)⟩)⟩)⟩)⟩) ⟨[undef, undef, undef, undef, undef, undef, undef, undef, undef, undef], by simp only [putAll, Act.put, List.setIfInBounds_toArray, List.set_cons_succ, List.set_cons_zero], rfl⟩ ?steps ?fin
  case steps =>
    simp only [relSteps]
    refine ⟨?_, ?_, ?_, ?_, ?_, ?_, ?_, ?_, ?_, ?_, trivial⟩
    · rintro vs W K hc hvl hw hK
      obtain ⟨x0, x1, x2, x3, x4, x5, x6, x7, x8, x9, rfl⟩ := len10 hvl
      have HK := Lib.hid hK
      have HC := Lib.hid hc
      have HW := Lib.hid hw
      clear hK hc hw hvl
      simp only [putAll, Act.put, List.setIfInBounds_toArray, List.set_cons_succ, List.set_cons_zero]
      clear HW
      go_wp2_with fail
      have fin := HK.out (xv) W (Below.refl _ _) rfl
      simp only [putAll, Act.put, List.setIfInBounds_toArray, List.set_cons_succ, List.set_cons_zero] at fin
      exact fin
    · rintro vs W K hc hvl hw hK
      obtain ⟨x0, x1, x2, x3, x4, x5, x6, x7, x8, x9, rfl⟩ := len10 hvl
      have HK := Lib.hid hK
      have HC := Lib.hid hc
      have HW := Lib.hid hw
      clear hK hc hw hvl
      simp only [putAll, Act.put, List.setIfInBounds_toArray, List.set_cons_succ, List.set_cons_zero]
      clear HW
      go_wp2_with fail
      have fin := HK.out (.pointer (some ⟨w.heap.size, 0, none⟩)) W (Below.refl _ _) rfl
      simp only [putAll, Act.put, List.setIfInBounds_toArray, List.set_cons_succ, List.set_cons_zero] at fin
      exact fin
    · rintro vs W K hc hvl hw hK
      obtain ⟨x0, x1, x2, x3, x4, x5, x6, x7, x8, x9, rfl⟩ := len10 hvl
      have HK := Lib.hid hK
      have HC := Lib.hid hc
      have HW := Lib.hid hw
      clear hK hc hw hvl
      have hd1 := HW.out ⟨1, .data⟩ (by simp) rfl
      obtain rfl : x1 = .pointer (some ⟨w.heap.size, 0, none⟩) := rel_get hd1 rfl
      simp only [putAll, Act.put, List.setIfInBounds_toArray, List.set_cons_succ, List.set_cons_zero]
      have r0 := R0.out.below HC.out R0.out.lt
      have k0 : W.cell? ⟨w.heap.size, 0, none⟩ = some (.slice a1 l1 c1) := r0.cell 0
      clear r0
      clear HW hd1
      go_wp2_with fail
      have fin := HK.out ((.slice a1 l1 c1)) W (Below.refl _ _) rfl
      simp only [putAll, Act.put, List.setIfInBounds_toArray, List.set_cons_succ, List.set_cons_zero] at fin
      exact fin
    · rintro vs W K hc hvl hw hK
      obtain ⟨x0, x1, x2, x3, x4, x5, x6, x7, x8, x9, rfl⟩ := len10 hvl
      have HK := Lib.hid hK
      have HC := Lib.hid hc
      have HW := Lib.hid hw
      clear hK hc hw hvl
      have hd0 := HW.out ⟨0, .data⟩ (by simp) rfl
      obtain rfl : x0 = xv := rel_get hd0 rfl
      have hd2 := HW.out ⟨2, .data⟩ (by simp) rfl
      obtain rfl : x2 = (.slice a1 l1 c1) := rel_get hd2 rfl
      simp only [putAll, Act.put, List.setIfInBounds_toArray, List.set_cons_succ, List.set_cons_zero]
      clear HW hd0 hd2
      go_wp2_with fail
      refine (HF1.out W HC.out).mono ?_
      rintro e W' ⟨x, rfl, hx, hb1⟩
      have HB' := Lib.hid hb1
      have HX := Lib.hid (show RowI fs1 x W' from hx)
      clear hb1 hx
      go_wp2_with fail
      have fin := HK.out (x) W' HB'.out HX.out
      simp only [putAll, Act.put, List.setIfInBounds_toArray, List.set_cons_succ, List.set_cons_zero] at fin
      exact fin
    · rintro vs W K hc hvl hw hK
      obtain ⟨x0, x1, x2, x3, x4, x5, x6, x7, x8, x9, rfl⟩ := len10 hvl
      have HK := Lib.hid hK
      have HC := Lib.hid hc
      have HW := Lib.hid hw
      clear hK hc hw hvl
      simp only [putAll, Act.put, List.setIfInBounds_toArray, List.set_cons_succ, List.set_cons_zero]
      clear HW
      go_wp2_with fail
      have fin := HK.out (xv) W (Below.refl _ _) rfl
      simp only [putAll, Act.put, List.setIfInBounds_toArray, List.set_cons_succ, List.set_cons_zero] at fin
      exact fin
    · rintro vs W K hc hvl hw hK
      obtain ⟨x0, x1, x2, x3, x4, x5, x6, x7, x8, x9, rfl⟩ := len10 hvl
      have HK := Lib.hid hK
      have HC := Lib.hid hc
      have HW := Lib.hid hw
      clear hK hc hw hvl
      simp only [putAll, Act.put, List.setIfInBounds_toArray, List.set_cons_succ, List.set_cons_zero]
      clear HW
      go_wp2_with fail
      have fin := HK.out (.pointer (some ⟨w.heap.size, 1, none⟩)) W (Below.refl _ _) rfl
      simp only [putAll, Act.put, List.setIfInBounds_toArray, List.set_cons_succ, List.set_cons_zero] at fin
      exact fin
    · rintro vs W K hc hvl hw hK
      obtain ⟨x0, x1, x2, x3, x4, x5, x6, x7, x8, x9, rfl⟩ := len10 hvl
      have HK := Lib.hid hK
      have HC := Lib.hid hc
      have HW := Lib.hid hw
      clear hK hc hw hvl
      have hd5 := HW.out ⟨5, .data⟩ (by simp) rfl
      obtain rfl : x5 = .pointer (some ⟨w.heap.size, 1, none⟩) := rel_get hd5 rfl
      simp only [putAll, Act.put, List.setIfInBounds_toArray, List.set_cons_succ, List.set_cons_zero]
      have r0 := R0.out.below HC.out R0.out.lt
      have k1 : W.cell? ⟨w.heap.size, 1, none⟩ = some (.slice a2 l2 c2) := r0.cell 1
      clear r0
      clear HW hd5
      go_wp2_with fail
      have fin := HK.out ((.slice a2 l2 c2)) W (Below.refl _ _) rfl
      simp only [putAll, Act.put, List.setIfInBounds_toArray, List.set_cons_succ, List.set_cons_zero] at fin
      exact fin
    · rintro vs W K hc hvl hw hK
      obtain ⟨x0, x1, x2, x3, x4, x5, x6, x7, x8, x9, rfl⟩ := len10 hvl
      have HK := Lib.hid hK
      have HC := Lib.hid hc
      have HW := Lib.hid hw
      clear hK hc hw hvl
      have hd4 := HW.out ⟨4, .data⟩ (by simp) rfl
      obtain rfl : x4 = xv := rel_get hd4 rfl
      have hd6 := HW.out ⟨6, .data⟩ (by simp) rfl
      obtain rfl : x6 = (.slice a2 l2 c2) := rel_get hd6 rfl
      simp only [putAll, Act.put, List.setIfInBounds_toArray, List.set_cons_succ, List.set_cons_zero]
      clear HW hd4 hd6
      go_wp2_with fail
      refine (HF2.out W HC.out).mono ?_
      rintro e W' ⟨x, rfl, hx, hb1⟩
      have HB' := Lib.hid hb1
      have HX := Lib.hid (show RowI fs2 x W' from hx)
      clear hb1 hx
      go_wp2_with fail
      have fin := HK.out (x) W' HB'.out HX.out
      simp only [putAll, Act.put, List.setIfInBounds_toArray, List.set_cons_succ, List.set_cons_zero] at fin
      exact fin
    · rintro vs W K hc hvl hw hK
      obtain ⟨x0, x1, x2, x3, x4, x5, x6, x7, x8, x9, rfl⟩ := len10 hvl
      have HK := Lib.hid hK
      have HC := Lib.hid hc
      have HW := Lib.hid hw
      clear hK hc hw hvl
      have hd3 := HW.out ⟨3, .data⟩ (by simp) rfl
      have hr := rel_get (x := x3) hd3 rfl
      have HO3 := Lib.hid (show RowI fs1 x3 W from hr)
      clear hr
      simp only [putAll, Act.put, List.setIfInBounds_toArray, List.set_cons_succ, List.set_cons_zero]
      clear HW hd3
      go_wp2_with fail
      have fin := HK.out (x3) W (Below.refl _ _) HO3.out
      simp only [putAll, Act.put, List.setIfInBounds_toArray, List.set_cons_succ, List.set_cons_zero] at fin
      exact fin
    · rintro vs W K hc hvl hw hK
      obtain ⟨x0, x1, x2, x3, x4, x5, x6, x7, x8, x9, rfl⟩ := len10 hvl
      have HK := Lib.hid hK
      have HC := Lib.hid hc
      have HW := Lib.hid hw
      clear hK hc hw hvl
      have hd7 := HW.out ⟨7, .data⟩ (by simp) rfl
      have hr := rel_get (x := x7) hd7 rfl
      have HO7 := Lib.hid (show RowI fs2 x7 W from hr)
      clear hr
      simp only [putAll, Act.put, List.setIfInBounds_toArray, List.set_cons_succ, List.set_cons_zero]
      clear HW hd7
      go_wp2_with fail
      have fin := HK.out (x7) W (Below.refl _ _) HO7.out
      simp only [putAll, Act.put, List.setIfInBounds_toArray, List.set_cons_succ, List.set_cons_zero] at fin
      exact fin
  case fin =>
    intro vs W hc hvl hv
    obtain ⟨x0, x1, x2, x3, x4, x5, x6, x7, x8, x9, rfl⟩ := len10 hvl
    have hd8 := hv 8 (by omega)
    have hr := rel_get (x := x8) hd8 rfl
    have HO3 := Lib.hid (show RowI fs1 x8 W from hr)
    clear hr
    clear hd8
    have hd9 := hv 9 (by omega)
    have hr := rel_get (x := x9) hd9 rfl
    have HO7 := Lib.hid (show RowI fs2 x9 W from hr)
    clear hr
    clear hd9
    simp only [putAll, Act.put, List.setIfInBounds_toArray, List.set_cons_succ, List.set_cons_zero]
    have HB2 := Lib.hid (Below.andThen HB1.out hc (Nat.le_refl _))
    have HX2 := Lib.hid (HX1.out.grow hc)
    clear hv hc hvl
    have HA2 := Lib.hid (show RowI fs1 x8 W from HO3.out)
    have HC2 := Lib.hid (show RowI fs2 x9 W from HO7.out)
    obtain ⟨ga, ca, rfl, hca, hia, hga⟩ := HO3.out
    have HG1 := Lib.hid (refAll_any ss fs1 xv ga ca false W HX2.out hga hia hca HJ.out HFI1.out res HRES.out)
    clear HO3 HO7 HX1 R0 HF1 HF2 HB1 hca hia hga
    go_wp2_with fail
    refine HG1.out.mono ?_
    rintro e w3 ⟨s1, s2, L, rfl, hs1, hs2, hk, hfits, hb3⟩
    have hll : res.1.length = L.length := by have := congrArg List.length hk; simpa using this
    have hL0 : 0 < L.length := by
      have := List.length_pos_of_mem (lookA_mem _ _ _ HS0.out); omega
    obtain ⟨r, cap, rfl, hcap⟩ := hs2.open hL0
    have hL1 : L.length ≤ 28561 := by have := HTR.out.size; omega
    obtain ⟨bt, ot, N, ct, rfl, hcN, hN2, hbt, htab⟩ := tab_open HJ.out HTR.out.fits hs1
    have HTB := Lib.hid htab
    have HBT := Lib.hid hbt
    have HS2 := Lib.hid hs2
    have HFT := Lib.hid hfits
    have HX3 := Lib.hid (HX2.out.grow hb3)
    have HA3 := Lib.hid (HA2.out.grow hb3)
    have HC3 := Lib.hid (HC2.out.grow hb3)
    have HB3 := Lib.hid (Below.andThen HB2.out hb3 (Nat.le_refl _))
    clear hs1 hbt htab hs2 hk hfits hb3 hll HX2 HA2 HC2 HB2 HG1
    go_wp2_with fail
    go_loopw [7, 10] (fun bv iv wr => ∃ (k : Nat) (gs : List Int), k ≤ 2 ∧ iv = .int .i64 (k : Int) ∧ Hid (Below w3.heap.size w3 wr ∧ RowI gs bv wr ∧ fitsB ss gs = true)) (fun _ iv _ => (2 - intOf iv).toNat)
    case atStart => exact ⟨0, fs2, by omega, rfl, Lib.hid ⟨Below.refl _ _, HC3.out, HFI2.out⟩⟩
    case round =>
      obtain ⟨k, gs, hk2, rfl, HR⟩ := hrel
      have kw : IntKind.i64.wrap ((k : Int) + 1) = ((k + 1 : Nat) : Int) := by rw [i64_of _ (by omega) (by omega)]; omega
      by_cases hlt : k < 2
      · have hd : decide ((k : Int) < 2) = true := decide_eq_true (by omega)
        obtain ⟨rec, hrec⟩ := ex_srch HJ.out HR.out.2.2 glN false
        have hbk := Back_ok ss fs1 gs xv (.slice (some ⟨ga, 0, none⟩) fs1.length ca) u7 wr (HX3.out.grow HR.out.1) (HA3.out.grow HR.out.1).sli HR.out.2.1.sli HJ.out HFI1.out HR.out.2.2 res rec HRES.out hrec
        have htr := (srch_tree _ _ (lsF false) (mF false ss.length) (lsF_ok false) (by have := mF_ok false ss.length; omega) _ (fits_pad HJ.out HR.out.2.2).1 _ rec hrec).1
        have HTR2 := Lib.hid htr
        have HREC := Lib.hid hrec
        have HBK := Lib.hid hbk
        obtain ⟨gb, cb, rfl, hcb, hib, hgb⟩ := HR.out.2.1
        have HGB := Lib.hid (And.intro hcb (And.intro hib hgb))
        clear hrec hbk htr hcb hib hgb
        go_wp2_with fail
        refine HBK.out.mono ?_
        rintro e w4 ⟨rfl, hb4⟩
        have HB4 := Lib.hid (Below.andThen HR.out.1 hb4 (Nat.le_refl _))
        have HGS := Lib.hid HR.out.2.2
        have HRB4 := Lib.hid (HR.out.2.1.grow hb4)
        obtain ⟨d, hdN, hcd, hct⟩ := HTB.out gs HGS.out
        have hcode := Code_any ss gs xv _ w4 (HX3.out.grow HB4.out) HRB4.out.sli HJ.out HGS.out
        rw [hcd] at hcode
        have HCO := Lib.hid hcode
        have HCT := Lib.hid (below_at HB4.out HBT.out hct)
        have HBT4 := Lib.hid (Nat.lt_of_lt_of_le HBT.out HB4.out.size)
        have HCD := Lib.hid hcd
        clear hb4 hcd hct hcode HBK
        cases hlk : lookA res.1 (padF gs) with
        | none =>
          rw [hlk] at HCT
          simp only [Option.map_none, Option.getD_none] at HCT
          clear hlk
          go_wp2_with fail
          refine HCO.out.mono ?_
          rintro e w5 ⟨rfl, hb5⟩
          have k1 := below_at hb5 HBT4.out HCT.out
          have HB5 := Lib.hid (Below.andThen HB4.out hb5 (Nat.le_refl _))
          have HRB5 := Lib.hid (HRB4.out.grow hb5)
          clear hb5 HCO
          go_wp2_with fail
          have hco5 := Code_any ss gs xv _ w5 (HX3.out.grow HB5.out) HRB5.out.sli HJ.out HGS.out
          rw [HCD.out] at hco5
          refine hco5.mono ?_
          clear hco5
          rintro e w6 ⟨rfl, hb6⟩
          have HB6 := Lib.hid (Below.andThen HB5.out hb6 (Nat.le_refl _))
          clear hb6
          have hml : (d * 5 + L.length / 3) % L.length < L.length := Nat.mod_lt _ hL0
          obtain ⟨lu, hcl, hent⟩ := (HS2.out.grow HB6.out).cell _ hml
          obtain ⟨lq, HNX⟩ : ∃ lq, Hid (RowI lq lu w6 ∧ fitsB ss lq = true) := ⟨_, Lib.hid ⟨hent.row, HFT.out _ (List.getElem_mem hml)⟩⟩
          have hi1 : 0 ≤ ((d : Int) * 5 + (L.length : Int) / 3) % (L.length : Int) ∧ ((d : Int) * 5 + (L.length : Int) / 3) % (L.length : Int) < (L.length : Int) := ⟨Int.emod_nonneg _ (by omega), Int.emod_lt_of_pos _ (by omega)⟩
          clear hent hml
          go_wp2_with fail
          exact ⟨⟨k + 1, lq, by omega, by simp, Lib.hid ⟨HB6.out, HNX.out.1, HNX.out.2⟩⟩, by simp [intOf]; omega⟩
        | some cm =>
          have hcm : 0 ≤ cm.k := (HTR.out.knn hlk).1
          rw [hlk] at HCT
          simp only [Option.map_some, Option.getD_some] at HCT
          have HG2 := Lib.hid (fun (W : World) (hb : Below w3.heap.size w3 W) (hg : gb < W.heap.size) (hi : IntsAt W gb 0 gs) => refAll_any ss gs xv gb cb false W (HX3.out.grow hb) hg hi HGB.out.1 HJ.out HGS.out rec HREC.out)
          have HCELL := Lib.hid (HGB.out)
          clear hlk
          go_wp2_with fail
          refine HCO.out.mono ?_
          rintro e w5 ⟨rfl, hb5⟩
          have k1 := below_at hb5 HBT4.out HCT.out
          have HB5 := Lib.hid (Below.andThen HB4.out hb5 (Nat.le_refl _))
          have HRB5 := Lib.hid (HRB4.out.grow hb5)
          clear hb5 HCO
          have hneg : decide (cm.k < 0) = false := decide_eq_false (by omega)
          go_wp2_with fail
          obtain ⟨gb', cb', hbe, hcb', hib', hgb'⟩ := HRB5.out
          cases hbe
          refine (HG2.out w5 HB5.out hgb' hib').mono ?_
          rintro e w7 ⟨s3, s4, L4, rfl, hs3, _, _, _, hb7⟩
          obtain ⟨b3, o3, N3, c3, rfl, hcN3, hN3, hbt3, htab3⟩ := tab_open HJ.out HTR2.out.fits hs3
          obtain ⟨d3, hdN3, hcd3, hct3⟩ := htab3 fs1 HFI1.out
          have HB7 := Lib.hid (Below.andThen HB5.out hb7 (Nat.le_refl _))
          have HRB7 := Lib.hid (HRB5.out.grow hb7)
          have HBT3 := Lib.hid hbt3
          have HCT3 := Lib.hid hct3
          have hco7 := Code_any ss fs1 xv _ w7 (HX3.out.grow HB7.out) (HA3.out.grow HB7.out).sli HJ.out HFI1.out
          rw [hcd3] at hco7
          have HCO7 := Lib.hid hco7
          clear hs3 htab3 hct3 hbt3 hb7 hco7 hcd3 k1 hcb' hib' hgb' HG2
          cases hlk2 : lookA rec.1 (padF fs1) with
          | none =>
            rw [hlk2] at HCT3
            simp only [Option.map_none, Option.getD_none] at HCT3
            clear hlk2
            go_wp2_with fail
            refine HCO7.out.mono ?_
            rintro e w8 ⟨rfl, hb8⟩
            have k3 := below_at hb8 HBT3.out HCT3.out
            have HB5 := Lib.hid (Below.andThen HB7.out hb8 (Nat.le_refl _))
            have HRB5 := Lib.hid (HRB7.out.grow hb8)
            clear hb8 HCO7
            go_wp2_with fail
            have hco5 := Code_any ss gs xv _ w8 (HX3.out.grow HB5.out) HRB5.out.sli HJ.out HGS.out
            rw [HCD.out] at hco5
            refine hco5.mono ?_
            clear hco5
            rintro e w6 ⟨rfl, hb6⟩
            have HB6 := Lib.hid (Below.andThen HB5.out hb6 (Nat.le_refl _))
            clear hb6
            have hml : (d * 5 + L.length / 3) % L.length < L.length := Nat.mod_lt _ hL0
            obtain ⟨lu, hcl, hent⟩ := (HS2.out.grow HB6.out).cell _ hml
            obtain ⟨lq, HNX⟩ : ∃ lq, Hid (RowI lq lu w6 ∧ fitsB ss lq = true) := ⟨_, Lib.hid ⟨hent.row, HFT.out _ (List.getElem_mem hml)⟩⟩
            have hi1 : 0 ≤ ((d : Int) * 5 + (L.length : Int) / 3) % (L.length : Int) ∧ ((d : Int) * 5 + (L.length : Int) / 3) % (L.length : Int) < (L.length : Int) := ⟨Int.emod_nonneg _ (by omega), Int.emod_lt_of_pos _ (by omega)⟩
            clear hent hml
            go_wp2_with fail
            exact ⟨⟨k + 1, lq, by omega, by simp, Lib.hid ⟨HB6.out, HNX.out.1, HNX.out.2⟩⟩, by simp [intOf]; omega⟩
          | some c2 =>
            have hcm2 : 0 ≤ c2.k := (HTR2.out.knn hlk2).1
            have hge : decide (0 ≤ c2.k) = true := decide_eq_true hcm2
            rw [hlk2] at HCT3
            simp only [Option.map_some, Option.getD_some] at HCT3
            clear hlk2
            go_wp2_with fail
            refine HCO7.out.mono ?_
            rintro e w8 ⟨rfl, hb8⟩
            have k3 := below_at hb8 HBT3.out HCT3.out
            have HB5 := Lib.hid (Below.andThen HB7.out hb8 (Nat.le_refl _))
            have HRB5 := Lib.hid (HRB7.out.grow hb8)
            clear hb8 HCO7
            go_wp2_with fail
            have hco5 := Code_any ss gs xv _ w8 (HX3.out.grow HB5.out) HRB5.out.sli HJ.out HGS.out
            rw [HCD.out] at hco5
            refine hco5.mono ?_
            clear hco5
            rintro e w6 ⟨rfl, hb6⟩
            have HB6 := Lib.hid (Below.andThen HB5.out hb6 (Nat.le_refl _))
            clear hb6
            have hml : (d * 5 + L.length / 3) % L.length < L.length := Nat.mod_lt _ hL0
            obtain ⟨lu, hcl, hent⟩ := (HS2.out.grow HB6.out).cell _ hml
            obtain ⟨lq, HNX⟩ : ∃ lq, Hid (RowI lq lu w6 ∧ fitsB ss lq = true) := ⟨_, Lib.hid ⟨hent.row, HFT.out _ (List.getElem_mem hml)⟩⟩
            have hi1 : 0 ≤ ((d : Int) * 5 + (L.length : Int) / 3) % (L.length : Int) ∧ ((d : Int) * 5 + (L.length : Int) / 3) % (L.length : Int) < (L.length : Int) := ⟨Int.emod_nonneg _ (by omega), Int.emod_lt_of_pos _ (by omega)⟩
            clear hent hml
            go_wp2_with fail
            exact ⟨⟨k + 1, lq, by omega, by simp, Lib.hid ⟨HB6.out, HNX.out.1, HNX.out.2⟩⟩, by simp [intOf]; omega⟩
      · have hd : decide ((k : Int) < 2) = false := decide_eq_false (by omega)
        obtain rfl : k = 2 := by omega
        go_wp2_with fail
        refine (awake_any _).mono ?_
        rintro e w9 ⟨rfl, hb9⟩
        have HB9 := Lib.hid (Below.andThen (Below.andThen HB3.out HR.out.1 (Nat.le_refl _)) hb9 (Nat.le_refl _))
        clear hb9
        go_wp2_with fail
        go_ret
        exact ⟨rfl, HB9.out⟩
end Go.Proofs.Ytlamppplnojpbaa
