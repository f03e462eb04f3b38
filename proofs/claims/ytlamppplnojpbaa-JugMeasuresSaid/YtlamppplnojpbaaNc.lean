import Derived.Test.YtlamppplnojpbaaNb
import Derived.Laws.AppendOwn
import Derived.ChangeKeysEq
import Derived.Maps.RangeWalk
import Derived.Maps.OwnIn
import Derived.Maps.AppendAt
import Derived.RangeFuncNested
import Derived.RangeFuncBound
import Derived.RangeFuncCalls
import Derived.RangeFuncLeaves
import Derived.Shelf.Abstract
import Derived.Shelf.RegionOpen
import Derived.WalkKit
import Derived.WalkMore
import Derived.OwnWalkIn
import Derived.TacticsInMore
import Derived.LoopNIn
import Derived.LoopIn
import Derived.WalkSpells
import Derived.WalkLawsBesides
import Derived.BigQuiet
import Derived.Deep.QuietTactic
import Derived.Lib.Hide
import Derived.Deep.RegionHeld3
import Derived.StillTailTactics
import Derived.Deep.LoopGhost
import Derived.Maps.OwnSet
import Derived.Lib.IndexAny
import Derived.Sort.QuietThIn
import Derived.Sort.QuietTacIn
import Derived.Sort.BigQuietIn
import Derived.Laws.OwnMore
namespace Go.Proofs.Ytlamppplnojpbaa
open Go.RowKit Go.Shelf
attribute [local go_sem] Oper.semAt_some
/-- the table's number is that of the way -/
theorem way_table {ss fs gs : List Int} {cl : Bool} (hj : jugsB ss = true) (hf : fitsB ss fs = true) {res rew : Sn × Option (List Int)} (hres : srch (padF ss) glN (ssF cl ss.length) 28562 (padF fs) = some res) (hrew : srch (padF ss) (glG (padF gs)) (ssF cl ss.length) 28562 (padF fs) = some rew) :
    rew.2.isSome = (lookA res.1 (padF gs)).isSome ∧ ∀ c, lookA res.1 (padF gs) = some c → ((wayF rew).length : Int) = c.k ∧ 0 ≤ c.k := by
  have hn := jugsB_len hj
  have hm := mF_ok cl ss.length
  have hfit := (fits_pad hj hf).1
  obtain ⟨ht, _, hgo⟩ := srch_tree _ _ (lsF cl) (mF cl ss.length) (lsF_ok cl) (by omega) _ hfit _ res hres
  have hL := srch_least _ _ _ _ _ _ hres
  have hnone : res.2 = none := by
    rcases h : res.2 with _ | g
    · rfl
    · have := (hL.got g h).1; simp [glN] at this
  have hall := (hL.non hnone).1
  cases hlk : lookA res.1 (padF gs) with
  | some c =>
    have k0 := (ht.knn hlk).1
    have hr := ht.rch hlk
    obtain ⟨h1, h2⟩ := way_found hn.2 hfit hrew hr
    have hg := way_good hn.2 hfit hrew h1
    refine ⟨by rw [h1]; rfl, fun c' hc' => ?_⟩
    cases hc'
    have h0 : Rch (padF ss) (ssF cl ss.length) (padF fs) 0 (padF fs) := rfl
    have hr2 := rch_go h0 (wayF rew) hg.steps
    rw [hg.goes, Nat.zero_add] at hr2
    obtain ⟨c2, hc2, hle⟩ := hall _ _ hr2
    rw [hlk] at hc2; cases hc2
    exact ⟨by omega, k0⟩
  | none =>
    refine ⟨?_, fun c' hc' => by cases hc'⟩
    cases hs : rew.2.isSome with
    | false => rfl
    | true =>
      exfalso
      have hg := way_good hn.2 hfit hrew hs
      have h0 : Rch (padF ss) (ssF cl ss.length) (padF fs) 0 (padF fs) := rfl
      have hr2 := rch_go h0 (wayF rew) hg.steps
      rw [hg.goes] at hr2
      obtain ⟨c2, hc2, _⟩ := hall _ _ hr2
      rw [hlk] at hc2; cases hc2
theorem ssF_ok {cl : Bool} {n : Nat} {p : Pt} (h : p ∈ ssF cl n) : okP n p = true ∧ (cl = true → 0 ≤ p.1 ∧ 0 ≤ p.2) := by
  have hm := mF_ok cl n
  have h1 := mem_step h
  have hl : lsF cl = -1 ∨ lsF cl = 0 := lsF_ok cl
  refine ⟨okP_iff.2 ⟨h1.2.2.2.2, by omega, by omega⟩, fun hc => ?_⟩
  have : lsF cl = 0 := by rw [hc]; rfl
  omega
set_option maxRecDepth 100000 in
set_option maxHeartbeats 1000000 in
theorem ends_any (ss fs gs : List Int) (ps : List Pt) (cl : Bool) (v u y x : Value) (w : World) (hv : SlI w v ss) (hu : SlI w u fs) (hy : SlI w y gs) (hx : SlP w x ps) (hj : jugsB ss = true) (hf : fitsB ss fs = true) (hl : ps.length ≤ 1000000) (hps : ∀ p ∈ ps, p ∈ ssF cl ss.length) (hgo : goF ss fs ps = gs) :
    Calls Try.prog 38 #[v, u, y, x, .bool cl] w fun e w' => e = .returned (.bool true) ∧ Below w.heap.size w w' := by
  have htw : ps.takeWhile (okP ss.length) = ps := takeW_all fun p hp => (ssF_ok (hps p hp)).1
  have HP := Lib.hid (fun (W : World) (hb : Below w.heap.size w W) => refPour_any ss fs ps v u x W (hv.grow hb) (hu.grow hb) (hx.grow hb) hj hf hl)
  rw [htw, hgo] at HP
  have hgl : gs.length = ss.length := by rw [← hgo, goF_len]; exact (fits_pad hj hf).2.1
  have hn := jugsB_len hj
  have HI := Lib.hid (fun (W : World) (s : Value) (hb : Below w.heap.size w W) (hs : SlI W s gs) => ints_sli gs gs s y W hs (hy.grow hb) (by omega) (by omega))
  have HCL := Lib.hid (fun (hc : cl = true) (i : Nat) (hi : i < ps.length) => (ssF_ok (hps _ (List.getElem_mem hi))).2 hc)
  obtain ⟨xa, xc, rfl, hxc, hxs⟩ := hx
  have HXS := Lib.hid hxs
  obtain ⟨ya, yc, rfl, _⟩ := hy
  clear hv hu hj hf hps hgo htw hxs hgl hn
  generalize gs.length = gl at *
  go_enter Try.func38, Try.ntmps38
  go_wp2_with fail
  go_loopw [11] (fun iv wr => ∃ i : Nat, i ≤ ps.length ∧ iv = .int .i64 (i : Int) ∧ Hid (Below w.heap.size w wr)) (fun iv _ => (ps.length - intOf iv).toNat)
  case atStart => exact ⟨0, by omega, rfl, Lib.hid (Below.refl _ _)⟩
  case round =>
    obtain ⟨k, hk, rfl, HB⟩ := hrel
    have kw : IntKind.i64.wrap ((k : Int) + 1) = ((k + 1 : Nat) : Int) := by rw [i64_of _ (by omega) (by omega)]; omega
    by_cases hlt : k < ps.length
    · have hd : decide ((k : Int) < (ps.length : Int)) = true := decide_eq_true (by omega)
      have hdn : decide (k < ps.length) = true := decide_eq_true hlt
      obtain ⟨g, o, rfl, hpts⟩ : ∃ g o, xa = some ⟨g, o, none⟩ ∧ PtsAt w g o ps := HXS.out.resolve_left (fun e => by rw [e] at hlt; simp at hlt)
      have hps2 := hpts.grow HB.out
      have c1 := hps2.x k hlt
      have c2 := hps2.y k hlt
      cases cl with
      | false =>
        clear hpts hps2 c1 c2
        go_wp2_with fail
        exact ⟨⟨k + 1, by omega, by simp, HB⟩, by simp [intOf]; omega⟩
      | true =>
        have h0 := HCL.out rfl k hlt
        clear hpts hps2
        generalize ps[k].1 = px at *
        generalize ps[k].2 = py at *
        have d1 : (px == -1) = false := by simp; omega
        have d2 : (py == -1) = false := by simp; omega
        have d3 : decide (px = -1) = false := decide_eq_false (by omega)
        have d4 : decide (py = -1) = false := decide_eq_false (by omega)
        go_wp2_with fail
        exact ⟨⟨k + 1, by omega, by simp, HB⟩, by simp [intOf]; omega⟩
    · have hd : decide ((k : Int) < (ps.length : Int)) = false := decide_eq_false (by omega)
      have hdn : decide (k < ps.length) = false := decide_eq_false hlt
      obtain rfl : k = ps.length := by omega
      go_wp2_with fail
      refine (HP.out wr HB.out).mono ?_
      rintro e w2 ⟨s, rfl, hs, hb2⟩
      have HB2 := Lib.hid (Below.andThen HB.out hb2 (Nat.le_refl _))
      have hin := HI.out w2 s HB2.out hs
      simp only [decide_true] at hin
      have HIN := Lib.hid hin
      clear hs hb2 hin HP HI
      go_wp2_with fail
      refine HIN.out.mono ?_
      rintro e w3 ⟨rfl, hb3⟩
      have HB3 := Lib.hid (Below.andThen HB2.out hb3 (Nat.le_refl _))
      clear hb3
      go_wp2_with fail
      go_ret
      exact ⟨rfl, HB3.out⟩
set_option maxRecDepth 100000 in
set_option maxHeartbeats 1000000 in
theorem JugWays_any (zs m1 m2 : List Int) (cl : Bool) (v u1 u2 : Value) (w : World) (hv : SlI w v zs) (hu1 : SlI w u1 m1) (hu2 : SlI w u2 m2) (h1 : zs.length ≤ 9223372036854775807) (h2 : m1.length ≤ 9223372036854775807) (h3 : m2.length ≤ 9223372036854775807) :
    Calls Try.prog 6 #[v, .agg #[u1, u2], .bool cl] w fun e w' => e = .returned (.bool true) ∧ Below w.heap.size w w' := by
  have ba := Below.al (Below.refl w.heap.size w) (Nat.le_refl _) (.cells #[u1, u2] 53)
  have r0 := Row.new w 53 [u1, u2]
  have HT := Lib.hid (tame_any zs v 3 (by omega) _ (hv.grow ba) h1)
  have hj0 := tameF_jugs zs 3 (by omega)
  have hF1 := fun (x : Value) (W : World) (hx : SlI W x (tameF zs 3)) (hb : Below w.heap.size w W) => filled_any (tameF zs 3) m1 x u1 W hx (hu1.grow hb) hj0 h2
  have hF2 := fun (x : Value) (W : World) (hx : SlI W x (tameF zs 3)) (hb : Below w.heap.size w W) => filled_any (tameF zs 3) m2 x u2 W hx (hu2.grow hb) hj0 h3
  have hfit1 := filF_fits m1 hj0
  have hfit2 := filF_fits m2 hj0
  generalize tameF zs 3 = ss at *
  generalize filF ss m1 = fs1 at *
  generalize filF ss m2 = fs2 at *
  have hn := jugsB_len hj0
  have HJ := Lib.hid hj0
  have HFI1 := Lib.hid hfit1
  have HFI2 := Lib.hid hfit2
  have HF1 := Lib.hid hF1
  have HF2 := Lib.hid hF2
  have HNE1 := Lib.hid (show fs1 ≠ [] from fun e => by have := (fits_pad HJ.out HFI1.out).2.1; rw [e, List.length_nil] at this; omega)
  have HNE2 := Lib.hid (show fs2 ≠ [] from fun e => by have := (fits_pad HJ.out HFI2.out).2.1; rw [e, List.length_nil] at this; omega)
  obtain ⟨res, hres⟩ := ex_srch HJ.out HFI1.out glN cl
  have hst := srch_tree _ _ (lsF cl) (mF cl ss.length) (lsF_ok cl) (by have := mF_ok cl ss.length; omega) _ (fits_pad HJ.out HFI1.out).1 _ res hres
  have HRES := Lib.hid hres
  have HTR := Lib.hid hst.1
  have HS0 := Lib.hid hst.2.1
  clear hres hst
  obtain ⟨a1, c1, e1⟩ : ∃ a1 c1, u1 = .slice a1 m1.length c1 := by obtain ⟨a, c, h, _⟩ := hu1; exact ⟨a, c, h⟩
  obtain ⟨a2, c2, e2⟩ : ∃ a2 c2, u2 = .slice a2 m2.length c2 := by obtain ⟨a, c, h, _⟩ := hu2; exact ⟨a, c, h⟩
  have BA := Lib.hid ba
  have RR := Lib.hid r0
  clear hj0 hfit1 hfit2 hF1 hF2 hv hu1 hu2 h1 h2 h3 ba r0
  generalize m1.length = l1 at *
  generalize m2.length = l2 at *
  subst e1 e2
  go_enter Try.func6, Try.ntmps6
  go_wp2_with fail
  refine HT.out.mono ?_
  rintro e w1 ⟨xv, rfl, hx, hb1⟩
  have HX1 := Lib.hid (sli_own hx)
  have HB1 := Lib.hid (Below.andThen BA.out hb1 (Nat.le_refl _))
  have R0 := Lib.hid (RR.out.below hb1 RR.out.lt)
  clear hx hb1 HT RR BA
  have HF1 := Lib.hid (fun (W : World) (hb : Below w1.heap.size w1 W) => show Calls Try.prog 32 #[xv, .slice a1 l1 c1] W fun e w' => ∃ s, e = .returned s ∧ RowI fs1 s w' ∧ Below W.heap.size W w' from (HF1.out xv W (HX1.out.grow hb) (Below.andThen HB1.out hb (Nat.le_refl _))).mono fun e w' ⟨s, b1, b2, b3⟩ => ⟨s, b1, row_own b2 HNE1.out, b3⟩)
  have HF2 := Lib.hid (fun (W : World) (hb : Below w1.heap.size w1 W) => show Calls Try.prog 32 #[xv, .slice a2 l2 c2] W fun e w' => ∃ s, e = .returned s ∧ RowI fs2 s w' ∧ Below W.heap.size W w' from (HF2.out xv W (HX1.out.grow hb) (Below.andThen HB1.out hb (Nat.le_refl _))).mono fun e w' ⟨s, b1, b2, b3⟩ => ⟨s, b1, row_own b2 HNE2.out, b3⟩)
  go_wp2_with fail
  refine wp_region_rel (by kernel_rfl) (by kernel_rfl) [19, 20, 21, 22, 23, 24, 25, 26, 8, 9] [LitR (xv), LitR (.pointer (some ⟨w.heap.size, 0, none⟩)), LitR ((.slice a1 l1 c1)), (RowI fs1), LitR (xv), LitR (.pointer (some ⟨w.heap.size, 1, none⟩)), LitR ((.slice a2 l2 c2)), (RowI fs2), (RowI fs1), (RowI fs2)] 10 rfl (List.forall_mem_cons.2 ⟨LitR.stab _, (List.forall_mem_cons.2 ⟨LitR.stab _, (List.forall_mem_cons.2 ⟨LitR.stab _, (List.forall_mem_cons.2 ⟨RowI.stab _, (List.forall_mem_cons.2 ⟨LitR.stab _, (List.forall_mem_cons.2 ⟨LitR.stab _, (List.forall_mem_cons.2 ⟨LitR.stab _, (List.forall_mem_cons.2 ⟨RowI.stab _, (List.forall_mem_cons.2 ⟨RowI.stab _, (List.forall_mem_cons.2 ⟨RowI.stab _, (fun _ h => nomatch h)⟩)⟩)⟩)⟩)⟩)⟩)⟩)⟩)⟩)⟩) ⟨[undef, undef, undef, undef, undef, undef, undef, undef, undef, undef], by simp only [putAll, Act.put, List.setIfInBounds_toArray, List.set_cons_succ, List.set_cons_zero], rfl⟩ ?steps ?fin
  case steps =>
    simp only [relSteps]
    refine ⟨?_, ?_, ?_, ?_, ?_, ?_, ?_, ?_, ?_, ?_, trivial⟩
    · rintro vs W K hc hvl hw hK
      obtain ⟨x0, x1, x2, x3, x4, x5, x6, x7, x8, x9, rfl⟩ := len10 hvl
      have HK := Lib.hid hK
      have HC := Lib.hid hc
      have HW := Lib.hid hw
      clear hK hc hw hvl
      simp only [putAll, Act.put, List.setIfInBounds_toArray, List.set_cons_succ, List.set_cons_zero]
      clear HW
      go_wp2_with fail
      have fin := HK.out (xv) W (Below.refl _ _) rfl
      simp only [putAll, Act.put, List.setIfInBounds_toArray, List.set_cons_succ, List.set_cons_zero] at fin
      exact fin
    · rintro vs W K hc hvl hw hK
      obtain ⟨x0, x1, x2, x3, x4, x5, x6, x7, x8, x9, rfl⟩ := len10 hvl
      have HK := Lib.hid hK
      have HC := Lib.hid hc
      have HW := Lib.hid hw
      clear hK hc hw hvl
      simp only [putAll, Act.put, List.setIfInBounds_toArray, List.set_cons_succ, List.set_cons_zero]
      clear HW
      go_wp2_with fail
      have fin := HK.out (.pointer (some ⟨w.heap.size, 0, none⟩)) W (Below.refl _ _) rfl
      simp only [putAll, Act.put, List.setIfInBounds_toArray, List.set_cons_succ, List.set_cons_zero] at fin
      exact fin
    · rintro vs W K hc hvl hw hK
      obtain ⟨x0, x1, x2, x3, x4, x5, x6, x7, x8, x9, rfl⟩ := len10 hvl
      have HK := Lib.hid hK
      have HC := Lib.hid hc
      have HW := Lib.hid hw
      clear hK hc hw hvl
      have hd1 := HW.out ⟨1, .data⟩ (by simp) rfl
      obtain rfl : x1 = .pointer (some ⟨w.heap.size, 0, none⟩) := rel_get hd1 rfl
      simp only [putAll, Act.put, List.setIfInBounds_toArray, List.set_cons_succ, List.set_cons_zero]
      have r0 := R0.out.below HC.out R0.out.lt
      have k0 : W.cell? ⟨w.heap.size, 0, none⟩ = some (.slice a1 l1 c1) := r0.cell 0
      clear r0
      clear HW hd1
      go_wp2_with fail
      have fin := HK.out ((.slice a1 l1 c1)) W (Below.refl _ _) rfl
      simp only [putAll, Act.put, List.setIfInBounds_toArray, List.set_cons_succ, List.set_cons_zero] at fin
      exact fin
    · rintro vs W K hc hvl hw hK
      obtain ⟨x0, x1, x2, x3, x4, x5, x6, x7, x8, x9, rfl⟩ := len10 hvl
      have HK := Lib.hid hK
      have HC := Lib.hid hc
      have HW := Lib.hid hw
      clear hK hc hw hvl
      have hd0 := HW.out ⟨0, .data⟩ (by simp) rfl
      obtain rfl : x0 = xv := rel_get hd0 rfl
      have hd2 := HW.out ⟨2, .data⟩ (by simp) rfl
      obtain rfl : x2 = (.slice a1 l1 c1) := rel_get hd2 rfl
      simp only [putAll, Act.put, List.setIfInBounds_toArray, List.set_cons_succ, List.set_cons_zero]
      clear HW hd0 hd2
      go_wp2_with fail
      refine (HF1.out W HC.out).mono ?_
      rintro e W' ⟨x, rfl, hx, hb1⟩
      have HB' := Lib.hid hb1
      have HX := Lib.hid (show RowI fs1 x W' from hx)
      clear hb1 hx
      go_wp2_with fail
      have fin := HK.out (x) W' HB'.out HX.out
      simp only [putAll, Act.put, List.setIfInBounds_toArray, List.set_cons_succ, List.set_cons_zero] at fin
      exact fin
    · rintro vs W K hc hvl hw hK
      obtain ⟨x0, x1, x2, x3, x4, x5, x6, x7, x8, x9, rfl⟩ := len10 hvl
      have HK := Lib.hid hK
      have HC := Lib.hid hc
      have HW := Lib.hid hw
      clear hK hc hw hvl
      simp only [putAll, Act.put, List.setIfInBounds_toArray, List.set_cons_succ, List.set_cons_zero]
      clear HW
      go_wp2_with fail
      have fin := HK.out (xv) W (Below.refl _ _) rfl
      simp only [putAll, Act.put, List.setIfInBounds_toArray, List.set_cons_succ, List.set_cons_zero] at fin
      exact fin
    · rintro vs W K hc hvl hw hK
      obtain ⟨x0, x1, x2, x3, x4, x5, x6, x7, x8, x9, rfl⟩ := len10 hvl
      have HK := Lib.hid hK
      have HC := Lib.hid hc
      have HW := Lib.hid hw
      clear hK hc hw hvl
      simp only [putAll, Act.put, List.setIfInBounds_toArray, List.set_cons_succ, List.set_cons_zero]
      clear HW
      go_wp2_with fail
      have fin := HK.out (.pointer (some ⟨w.heap.size, 1, none⟩)) W (Below.refl _ _) rfl
      simp only [putAll, Act.put, List.setIfInBounds_toArray, List.set_cons_succ, List.set_cons_zero] at fin
      exact fin
    · rintro vs W K hc hvl hw hK
      obtain ⟨x0, x1, x2, x3, x4, x5, x6, x7, x8, x9, rfl⟩ := len10 hvl
      have HK := Lib.hid hK
      have HC := Lib.hid hc
      have HW := Lib.hid hw
      clear hK hc hw hvl
      have hd5 := HW.out ⟨5, .data⟩ (by simp) rfl
      obtain rfl : x5 = .pointer (some ⟨w.heap.size, 1, none⟩) := rel_get hd5 rfl
      simp only [putAll, Act.put, List.setIfInBounds_toArray, List.set_cons_succ, List.set_cons_zero]
      have r0 := R0.out.below HC.out R0.out.lt
      have k1 : W.cell? ⟨w.heap.size, 1, none⟩ = some (.slice a2 l2 c2) := r0.cell 1
      clear r0
      clear HW hd5
      go_wp2_with fail
      have fin := HK.out ((.slice a2 l2 c2)) W (Below.refl _ _) rfl
      simp only [putAll, Act.put, List.setIfInBounds_toArray, List.set_cons_succ, List.set_cons_zero] at fin
      exact fin
    · rintro vs W K hc hvl hw hK
      obtain ⟨x0, x1, x2, x3, x4, x5, x6, x7, x8, x9, rfl⟩ := len10 hvl
      have HK := Lib.hid hK
      have HC := Lib.hid hc
      have HW := Lib.hid hw
      clear hK hc hw hvl
      have hd4 := HW.out ⟨4, .data⟩ (by simp) rfl
      obtain rfl : x4 = xv := rel_get hd4 rfl
      have hd6 := HW.out ⟨6, .data⟩ (by simp) rfl
      obtain rfl : x6 = (.slice a2 l2 c2) := rel_get hd6 rfl
      simp only [putAll, Act.put, List.setIfInBounds_toArray, List.set_cons_succ, List.set_cons_zero]
      clear HW hd4 hd6
      go_wp2_with fail
      refine (HF2.out W HC.out).mono ?_
      rintro e W' ⟨x, rfl, hx, hb1⟩
      have HB' := Lib.hid hb1
      have HX := Lib.hid (show RowI fs2 x W' from hx)
      clear hb1 hx
      go_wp2_with fail
      have fin := HK.out (x) W' HB'.out HX.out
      simp only [putAll, Act.put, List.setIfInBounds_toArray, List.set_cons_succ, List.set_cons_zero] at fin
      exact fin
    · rintro vs W K hc hvl hw hK
      obtain ⟨x0, x1, x2, x3, x4, x5, x6, x7, x8, x9, rfl⟩ := len10 hvl
      have HK := Lib.hid hK
      have HC := Lib.hid hc
      have HW := Lib.hid hw
      clear hK hc hw hvl
      have hd3 := HW.out ⟨3, .data⟩ (by simp) rfl
      have hr := rel_get (x := x3) hd3 rfl
      have HO3 := Lib.hid (show RowI fs1 x3 W from hr)
      clear hr
      simp only [putAll, Act.put, List.setIfInBounds_toArray, List.set_cons_succ, List.set_cons_zero]
      clear HW hd3
      go_wp2_with fail
      have fin := HK.out (x3) W (Below.refl _ _) HO3.out
      simp only [putAll, Act.put, List.setIfInBounds_toArray, List.set_cons_succ, List.set_cons_zero] at fin
      exact fin
    · rintro vs W K hc hvl hw hK
      obtain ⟨x0, x1, x2, x3, x4, x5, x6, x7, x8, x9, rfl⟩ := len10 hvl
      have HK := Lib.hid hK
      have HC := Lib.hid hc
      have HW := Lib.hid hw
      clear hK hc hw hvl
      have hd7 := HW.out ⟨7, .data⟩ (by simp) rfl
      have hr := rel_get (x := x7) hd7 rfl
      have HO7 := Lib.hid (show RowI fs2 x7 W from hr)
      clear hr
      simp only [putAll, Act.put, List.setIfInBounds_toArray, List.set_cons_succ, List.set_cons_zero]
      clear HW hd7
      go_wp2_with fail
      have fin := HK.out (x7) W (Below.refl _ _) HO7.out
      simp only [putAll, Act.put, List.setIfInBounds_toArray, List.set_cons_succ, List.set_cons_zero] at fin
      exact fin
  case fin =>
    intro vs W hc hvl hv
    obtain ⟨x0, x1, x2, x3, x4, x5, x6, x7, x8, x9, rfl⟩ := len10 hvl
    have hd8 := hv 8 (by omega)
    have hr := rel_get (x := x8) hd8 rfl
    have HO3 := Lib.hid (show RowI fs1 x8 W from hr)
    clear hr
    clear hd8
    have hd9 := hv 9 (by omega)
    have hr := rel_get (x := x9) hd9 rfl
    have HO7 := Lib.hid (show RowI fs2 x9 W from hr)
    clear hr
    clear hd9
    simp only [putAll, Act.put, List.setIfInBounds_toArray, List.set_cons_succ, List.set_cons_zero]
    have HB2 := Lib.hid (Below.andThen HB1.out hc (Nat.le_refl _))
    have HX2 := Lib.hid (HX1.out.grow hc)
    clear hv hc hvl
    have HA2 := Lib.hid (show RowI fs1 x8 W from HO3.out)
    have HC2 := Lib.hid (show RowI fs2 x9 W from HO7.out)
    obtain ⟨ga, ca, rfl, hca, hia, hga⟩ := HO3.out
    have HG1 := Lib.hid (refAll_any ss fs1 xv ga ca cl W HX2.out hga hia hca HJ.out HFI1.out res HRES.out)
    clear HO3 HO7 HX1 R0 HF1 HF2 HB1 hca hia hga
    go_wp2_with fail
    refine HG1.out.mono ?_
    rintro e w3 ⟨s1, s2, L, rfl, hs1, hs2, hk, hfits, hb3⟩
    have hll : res.1.length = L.length := by have := congrArg List.length hk; simpa using this
    have hL0 : 0 < L.length := by
      have := List.length_pos_of_mem (lookA_mem _ _ _ HS0.out); omega
    obtain ⟨r, cap, rfl, hcap⟩ := hs2.open hL0
    have hL1 : L.length ≤ 28561 := by have := HTR.out.size; omega
    obtain ⟨bt, ot, N, ct, rfl, hcN, hN2, hbt, htab⟩ := tab_open HJ.out HTR.out.fits hs1
    have HTB := Lib.hid htab
    have HBT := Lib.hid hbt
    have HS2 := Lib.hid hs2
    have HFT := Lib.hid hfits
    have HX3 := Lib.hid (HX2.out.grow hb3)
    have HA3 := Lib.hid (HA2.out.grow hb3)
    have HC3 := Lib.hid (HC2.out.grow hb3)
    have HB3 := Lib.hid (Below.andThen HB2.out hb3 (Nat.le_refl _))
    clear hs1 hbt htab hs2 hk hfits hb3 hll HX2 HA2 HC2 HB2 HG1
    go_wp2_with fail
    go_loopw [9, 12] (fun bv iv wr => ∃ (k : Nat) (gs : List Int), k ≤ 2 ∧ iv = .int .i64 (k : Int) ∧ Hid (Below w3.heap.size w3 wr ∧ RowI gs bv wr ∧ fitsB ss gs = true)) (fun _ iv _ => (2 - intOf iv).toNat)
    case atStart => exact ⟨0, fs2, by omega, rfl, Lib.hid ⟨Below.refl _ _, HC3.out, HFI2.out⟩⟩
    case round =>
      obtain ⟨k, gs, hk2, rfl, HR⟩ := hrel
      have kw : IntKind.i64.wrap ((k : Int) + 1) = ((k + 1 : Nat) : Int) := by rw [i64_of _ (by omega) (by omega)]; omega
      by_cases hlt : k < 2
      · have hd : decide ((k : Int) < 2) = true := decide_eq_true (by omega)
        obtain ⟨rew, hrew⟩ := ex_srch HJ.out HFI1.out (glG (padF gs)) cl
        have hway := Way_ok ss fs1 gs xv (.slice (some ⟨ga, 0, none⟩) fs1.length ca) u9 cl wr (HX3.out.grow HR.out.1) (by omega) (HA3.out.grow HR.out.1).sli HR.out.2.1.sli (by unfold errA; rw [if_pos HJ.out, if_pos (by simp [HFI1.out, HR.out.2.2])]) rew hrew
        have htb := way_table HJ.out HFI1.out HRES.out hrew
        have hwg := way_good (cl := cl) hn.2 (fits_pad HJ.out HFI1.out).1 hrew
        have HWAY := Lib.hid hway
        have HWT := Lib.hid htb
        have HWG := Lib.hid hwg
        obtain ⟨gb, cb, rfl, hcb, hib, hgb⟩ := HR.out.2.1
        clear hrew hway htb hwg hcb hib hgb
        go_wp2_with fail
        refine HWAY.out.mono ?_
        rintro e w4 ⟨s, rfl, hs, hb4⟩
        obtain ⟨sa, sc, rfl, _⟩ := OwnP.open hs
        have HS4 := Lib.hid (slp_own hs)
        have HB4 := Lib.hid (Below.andThen HR.out.1 hb4 (Nat.le_refl _))
        have HGS := Lib.hid HR.out.2.2
        have HRB4 := Lib.hid (HR.out.2.1.grow hb4)
        obtain ⟨d, hdN, hcd, hct⟩ := HTB.out gs HGS.out
        have hcode := Code_any ss gs xv _ w4 (HX3.out.grow HB4.out) HRB4.out.sli HJ.out HGS.out
        rw [hcd] at hcode
        have HCO := Lib.hid hcode
        have HCT := Lib.hid (below_at HB4.out HBT.out hct)
        have HBT4 := Lib.hid (Nat.lt_of_lt_of_le HBT.out HB4.out.size)
        have HCD := Lib.hid hcd
        clear hb4 hcd hct hcode HWAY hs
        cases hlk : lookA res.1 (padF gs) with
        | none =>
          have hok := HWT.out.1
          rw [hlk] at HCT hok
          simp only [Option.map_none, Option.getD_none, Option.isSome_none] at HCT hok
          have hwn : (wayF rew).length = 0 := by
            have : rew.2 = none := by simpa using hok
            unfold wayF; rw [this]; rfl
          rw [hok, hwn]
          clear hlk hok hwn
          go_wp2_with fail
          refine HCO.out.mono ?_
          rintro e w5 ⟨rfl, hb5⟩
          have k1 := below_at hb5 HBT4.out HCT.out
          have HB5 := Lib.hid (Below.andThen HB4.out hb5 (Nat.le_refl _))
          have HRB5 := Lib.hid (HRB4.out.grow hb5)
          clear hb5 HCO
          go_wp2_with fail
          have hco5 := Code_any ss gs xv _ w5 (HX3.out.grow HB5.out) HRB5.out.sli HJ.out HGS.out
          rw [HCD.out] at hco5
          refine hco5.mono ?_
          clear hco5
          rintro e w6 ⟨rfl, hb6⟩
          have HB6 := Lib.hid (Below.andThen HB5.out hb6 (Nat.le_refl _))
          clear hb6
          have hml : (d * 7 + L.length / 2) % L.length < L.length := Nat.mod_lt _ hL0
          obtain ⟨lu, hcl, hent⟩ := (HS2.out.grow HB6.out).cell _ hml
          obtain ⟨lq, HNX⟩ : ∃ lq, Hid (RowI lq lu w6 ∧ fitsB ss lq = true) := ⟨_, Lib.hid ⟨hent.row, HFT.out _ (List.getElem_mem hml)⟩⟩
          have hi1 : 0 ≤ ((d : Int) * 7 + (L.length : Int) / 2) % (L.length : Int) ∧ ((d : Int) * 7 + (L.length : Int) / 2) % (L.length : Int) < (L.length : Int) := ⟨Int.emod_nonneg _ (by omega), Int.emod_lt_of_pos _ (by omega)⟩
          clear hent hml
          go_wp2_with fail
          exact ⟨⟨k + 1, lq, by omega, by simp, Lib.hid ⟨HB6.out, HNX.out.1, HNX.out.2⟩⟩, by simp [intOf]; omega⟩
        | some cm =>
          have hcm : 0 ≤ cm.k := (HTR.out.knn hlk).1
          have hcm2 : cm.k < 28562 := by have := (HTR.out.knn hlk).2; have := HTR.out.size; omega
          have hge : decide (0 ≤ cm.k) = true := decide_eq_true hcm
          have hok := HWT.out.1
          have hlen := (HWT.out.2 cm hlk).1
          rw [hlk] at HCT hok
          simp only [Option.map_some, Option.getD_some, Option.isSome_some] at HCT hok
          rw [hok]
          have HG := Lib.hid (HWG.out hok)
          have hwl2 : (wayF rew).length ≤ 1000000 := by omega
          have hgo : goF ss fs1 (wayF rew) = gs := by
            have h1 := HG.out.goes
            have hl1 := (fits_pad HJ.out HFI1.out).2.1
            have hl2 := (fits_pad HJ.out HGS.out).2.1
            rw [pad_goF ss hn.2 _ fs1 hl1 (fun p hp => (ssF_ok (HG.out.steps p hp)).1)] at h1
            rw [padF_app (by rw [goF_len]; omega), padF_app (by omega), goF_len, hl1, hl2] at h1
            exact List.append_cancel_right h1
          have HEND := Lib.hid (fun (W : World) (hb : Below w4.heap.size w4 W) (y : Value) (hy : SlI W y gs) => ends_any ss fs1 gs (wayF rew) cl xv _ y _ W (HX3.out.grow (Below.andThen HB4.out hb (Nat.le_refl _))) (HA3.out.grow (Below.andThen HB4.out hb (Nat.le_refl _))).sli hy (HS4.out.grow hb) HJ.out HFI1.out hwl2 HG.out.steps hgo)
          obtain ⟨km, hkm⟩ : ∃ km : Nat, cm.k = (km : Int) := ⟨cm.k.toNat, by omega⟩
          rw [hkm] at HCT hge hlen
          obtain ⟨wl, hwl⟩ : ∃ wl, (wayF rew).length = wl := ⟨_, rfl⟩
          rw [hwl] at HEND hlen ⊢
          obtain rfl : wl = km := by omega
          clear hlk hok hlen hgo HG hwl2 hkm hwl hcm hcm2
          go_wp2_with fail
          refine HCO.out.mono ?_
          rintro e w5 ⟨rfl, hb5⟩
          have k1 := below_at hb5 HBT4.out HCT.out
          have HB45 := Lib.hid hb5
          have HB5 := Lib.hid (Below.andThen HB4.out hb5 (Nat.le_refl _))
          have HRB5 := Lib.hid (HRB4.out.grow hb5)
          clear hb5 HCO
          go_wp2_with fail
          refine (HEND.out w5 HB45.out _ HRB5.out.sli).mono ?_
          rintro e w8 ⟨rfl, hb8⟩
          have HB5 := Lib.hid (Below.andThen HB5.out hb8 (Nat.le_refl _))
          have HRB5 := Lib.hid (HRB5.out.grow hb8)
          clear hb8 HEND k1
          go_wp2_with fail
          have hco5 := Code_any ss gs xv _ w8 (HX3.out.grow HB5.out) HRB5.out.sli HJ.out HGS.out
          rw [HCD.out] at hco5
          refine hco5.mono ?_
          clear hco5
          rintro e w6 ⟨rfl, hb6⟩
          have HB6 := Lib.hid (Below.andThen HB5.out hb6 (Nat.le_refl _))
          clear hb6
          have hml : (d * 7 + L.length / 2) % L.length < L.length := Nat.mod_lt _ hL0
          obtain ⟨lu, hcl, hent⟩ := (HS2.out.grow HB6.out).cell _ hml
          obtain ⟨lq, HNX⟩ : ∃ lq, Hid (RowI lq lu w6 ∧ fitsB ss lq = true) := ⟨_, Lib.hid ⟨hent.row, HFT.out _ (List.getElem_mem hml)⟩⟩
          have hi1 : 0 ≤ ((d : Int) * 7 + (L.length : Int) / 2) % (L.length : Int) ∧ ((d : Int) * 7 + (L.length : Int) / 2) % (L.length : Int) < (L.length : Int) := ⟨Int.emod_nonneg _ (by omega), Int.emod_lt_of_pos _ (by omega)⟩
          clear hent hml
          go_wp2_with fail
          exact ⟨⟨k + 1, lq, by omega, by simp, Lib.hid ⟨HB6.out, HNX.out.1, HNX.out.2⟩⟩, by simp [intOf]; omega⟩
      · have hd : decide ((k : Int) < 2) = false := decide_eq_false (by omega)
        obtain rfl : k = 2 := by omega
        go_wp2_with fail
        refine (awake_any _).mono ?_
        rintro e w9 ⟨rfl, hb9⟩
        have HB9 := Lib.hid (Below.andThen (Below.andThen HB3.out HR.out.1 (Nat.le_refl _)) hb9 (Nat.le_refl _))
        clear hb9
        go_wp2_with fail
        go_ret
        exact ⟨rfl, HB9.out⟩
end Go.Proofs.Ytlamppplnojpbaa
