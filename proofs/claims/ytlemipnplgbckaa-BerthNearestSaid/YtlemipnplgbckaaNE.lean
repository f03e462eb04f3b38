import Derived.Test.YtlemipnplgbckaaEN
import Derived.Test.YtlemipnplgbckaaKC
import Derived.Laws.AppendOwn
import Derived.ChangeKeysEq
import Derived.Maps.RangeWalk
import Derived.Maps.OwnIn
import Derived.Maps.AppendAt
import Derived.RangeFuncNested
import Derived.RangeFuncBound
import Derived.RangeFuncCalls
import Derived.RangeFuncLeaves
import Derived.Shelf.Abstract
import Derived.Shelf.RegionOpen
import Derived.WalkKit
import Derived.WalkMore
import Derived.OwnWalkIn
import Derived.TacticsInMore
import Derived.LoopNIn
import Derived.LoopIn
import Derived.WalkSpells
import Derived.WalkLawsBesides
import Derived.BigQuiet
import Derived.Deep.QuietTactic
import Derived.Lib.Hide
import Derived.Deep.RegionHeld3
import Derived.StillTailTactics
import Derived.Deep.LoopGhost
import Derived.Maps.OwnSet
import Derived.Lib.IndexAny
import Derived.Sort.QuietThIn
import Derived.Sort.QuietTacIn
import Derived.Sort.BigQuietIn
import Derived.Laws.OwnMore
import Derived.DeepKeys4
import Derived.Maps.Views
import Derived.Maps.OwnOps
import Derived.Deep.DeepCutAuto
import Derived.Shelf.Bits.Mul64
import Derived.Shelf.LaysM
namespace Go.Proofs.Ytlemipnplgbckaa
open Go.RowKit Go.Shelf
attribute [local go_sem] Oper.semAt_some
theorem own_slpN {W : World} {n₀ n c : Nat} {a : Option Addr} {ps : List Pt} (hn : ps.length = n) (h : W.ownsRow n₀ 28 2 (.slice a n c) n (flat ps)) : SlP W (.slice a n c) ps := by
  subst hn; exact slp_own h
theorem own_sliN {W : World} {n₀ k : Nat} {L : List Nat} {v : Value} (h : W.ownsRow n₀ 3 1 v k (L.map (fun n : Nat => encI (n : Int)))) : SlI W v (L.map natI) :=
  sli_own (zs := L.map natI) (by rw [List.map_map]; exact h)
theorem whL_leN {ps : List Pt} {h : Pt → Bool} (hl : ps.length ≤ 12) : ((whL ps h).map natI).length ≤ 1000 := by
  rw [List.length_map]
  have : (whL ps h).length ≤ ps.length := by unfold whL; exact whK_len ps h ps.length
  omega
theorem own_slN {W : World} {n₀ k e s : Nat} {v : Value} {xs : List Value} (h : W.ownsRow n₀ e s v k xs) : ∃ a c, v = .slice a k c := by
  rcases h.2 with ⟨e, h0⟩ | ⟨g, cap, cur, e, _⟩
  · exact ⟨_, _, by rw [e, h0]⟩
  · exact ⟨_, _, e⟩
set_option maxRecDepth 100000 in
set_option maxHeartbeats 8000000 in
theorem BerthNearest_any (zs : List Pt) (p q : Int) (v : Value) (w : World) (hv : SlP w v zs) (hl : zs.length ≤ 9223372036854775807) :
    Calls Try.prog 9 #[v, .agg #[.int .i64 p, .int .i64 q]] w fun e w' => e = .returned (.bool true) ∧ Below w.heap.size w w' := by
  obtain ⟨b0, r0⟩ := box_start w 28 [.int .i64 p, .int .i64 q]
  have HT := Lib.hid (tame_any zs v (w.alloc (.cells [.int .i64 p, .int .i64 q].toArray 28)) (hv.grow b0) hl)
  have hok := tameF_ok zs
  obtain ⟨⟨h1x, h12⟩, hb, _⟩ := chkP_iff.1 hok
  have HOK := Lib.hid hok
  have HX := Lib.hid (And.intro h12 (And.intro hb h1x))
  have R0 := Lib.hid r0
  have B0 := Lib.hid b0
  clear hok h12 hb h1x hv hl b0 r0
  generalize tameF zs = X at *
  go_enter Try.func9, Try.ntmps9
  go_wp2_with fail
  refine HT.out.mono ?_
  rintro e w1 ⟨s, rfl, ho, h1⟩
  have HLX := Lib.hid R0.out.lt
  obtain ⟨B00, hB00⟩ : ∃ b, (w.alloc (.cells [.int .i64 p, .int .i64 q].toArray 28)).heap.size = b := ⟨_, rfl⟩
  rw [hB00] at ho HLX
  clear hB00
  obtain ⟨a1, c1, rfl, _⟩ := OwnP.open ho
  have HS1 := Lib.hid (show w1.ownsRow B00 28 2 (.slice a1 X.length c1) X.length (flat X) from ho)
  have R1 := Lib.hid (R0.out.below h1 R0.out.lt)
  have B1 := Lib.hid (Below.andThen B0.out h1 (Nat.le_refl _))
  have HSL := Lib.hid (slp_own (ps := X) ho)
  obtain ⟨n, hn⟩ : ∃ n, X.length = n := ⟨_, rfl⟩
  have HN := Lib.hid hn
  rw [hn] at HS1 HSL ⊢
  clear ho h1 R0 B0 HT hn
  by_cases h2 : 2 ≤ n
  · have HPA := Lib.hid (Pairs_ok X _ w1 HSL.out HOK.out (by rw [HN.out]; exact h2))
    have HRP := Lib.hid (fun W (h : SlP W (.slice a1 n c1) X) => rPairs_any X _ W h HOK.out (by rw [HN.out]; exact h2))
    have HSM := Lib.hid (show SlP w1 (.slice a1 n c1) X from HSL.out)
    clear HSL
    obtain ⟨⟨nx, ny⟩, hnr⟩ : ∃ t, nrK X (prL X.length) = t := ⟨_, rfl⟩
    obtain ⟨⟨fx, fy⟩, hfa⟩ : ∃ t, faK X (prL X.length) = t := ⟨_, rfl⟩
    rw [hnr, hfa] at HPA HRP
    dsimp only [encP] at HPA HRP
    go_wp2_with fail
    refine (HPA.out).mono ?_
    rintro e w2 ⟨rfl, h2⟩
    obtain ⟨bb2_0, rr2_0⟩ := box_start w2 28 [.int .i64 nx, .int .i64 ny]
    replace h2 := Below.andThen h2 bb2_0 (Nat.le_refl _)
    clear bb2_0
    obtain ⟨bb2_1, rr2_1⟩ := box_start (w2.alloc (.cells [.int .i64 nx, .int .i64 ny].toArray 28)) 28 [.int .i64 fx, .int .i64 fy]
    rw [size_al] at rr2_1
    replace h2 := Below.andThen h2 bb2_1 (Nat.le_refl _)
    replace rr2_0 := rr2_0.below bb2_1 rr2_0.lt
    clear bb2_1
    have Rq1_d := Lib.hid (R1.out.below h2 R1.out.lt)
    have Fq1_x := Lib.hid (own_grow HS1.out h2)
    have Fq1_s := Lib.hid (HSM.out.grow h2)
    have Bq1 := Lib.hid (Below.andThen B1.out h2 (Nat.le_refl _))
    clear h2 R1 HS1 HSM B1 
    have Rq1_na := Lib.hid rr2_0
    clear rr2_0
    have Rq1_fa := Lib.hid rr2_1
    clear rr2_1
    go_wp2_with fail
    refine (HRP.out _ Fq1_s.out).mono ?_
    rintro e w3 ⟨rfl, h3⟩
    obtain ⟨bb3_0, rr3_0⟩ := box_start w3 28 [.int .i64 nx, .int .i64 ny]
    replace h3 := Below.andThen h3 bb3_0 (Nat.le_refl _)
    clear bb3_0
    obtain ⟨bb3_1, rr3_1⟩ := box_start (w3.alloc (.cells [.int .i64 nx, .int .i64 ny].toArray 28)) 28 [.int .i64 fx, .int .i64 fy]
    rw [size_al] at rr3_1
    replace h3 := Below.andThen h3 bb3_1 (Nat.le_refl _)
    replace rr3_0 := rr3_0.below bb3_1 rr3_0.lt
    clear bb3_1
    have Rq2_d := Lib.hid (Rq1_d.out.below h3 Rq1_d.out.lt)
    have Rq2_na := Lib.hid (Rq1_na.out.below h3 Rq1_na.out.lt)
    have Rq2_fa := Lib.hid (Rq1_fa.out.below h3 Rq1_fa.out.lt)
    have Fq2_x := Lib.hid (own_grow Fq1_x.out h3)
    have Fq2_s := Lib.hid (Fq1_s.out.grow h3)
    have Bq2 := Lib.hid (Below.andThen Bq1.out h3 (Nat.le_refl _))
    clear h3 Rq1_d Rq1_na Rq1_fa Fq1_x Fq1_s Bq1 
    have Rq2_nb := Lib.hid rr3_0
    clear rr3_0
    have Rq2_fb := Lib.hid rr3_1
    clear rr3_1
    have q3_na := Rq2_na.out
    have c3_na_0 := q3_na.cell 0
    have c3_na_1 := q3_na.cell 1
    simp only [List.getElem?_cons_zero, List.getElem?_cons_succ] at c3_na_0 c3_na_1
    clear q3_na
    have q4_nb := Rq2_nb.out
    have c4_nb_0 := q4_nb.cell 0
    have c4_nb_1 := q4_nb.cell 1
    simp only [List.getElem?_cons_zero, List.getElem?_cons_succ] at c4_nb_0 c4_nb_1
    clear q4_nb
    have q5_fa := Rq2_fa.out
    have c5_fa_0 := q5_fa.cell 0
    have c5_fa_1 := q5_fa.cell 1
    simp only [List.getElem?_cons_zero, List.getElem?_cons_succ] at c5_fa_0 c5_fa_1
    clear q5_fa
    have q6_fb := Rq2_fb.out
    have c6_fb_0 := q6_fb.cell 0
    have c6_fb_1 := q6_fb.cell 1
    simp only [List.getElem?_cons_zero, List.getElem?_cons_succ] at c6_fb_0 c6_fb_1
    clear q6_fb
    have heq1 := (eq28 nx ny nx ny ((w3.alloc (.cells [.int .i64 nx, .int .i64 ny].toArray 28)).alloc (.cells [.int .i64 fx, .int .i64 fy].toArray 28))).trans (by rw [decide_eq_true rfl])
    have heq2 := (eq28 fx fy fx fy ((w3.alloc (.cells [.int .i64 nx, .int .i64 ny].toArray 28)).alloc (.cells [.int .i64 fx, .int .i64 fy].toArray 28))).trans (by rw [decide_eq_true rfl])
    have hd2 : decide ((n : Int) < 2) = false := decide_eq_false (by omega)
    have hd2n : decide (n < 2) = false := decide_eq_false (by omega)
    go_wp2_with fail
    have D0 := Lib.hid (show ∃ px py : Int, Row _ w.heap.size 28 [.int .i64 px, .int .i64 py] from ⟨p, q, Rq2_d.out⟩)
    clear D0
    go_loopw [11] (fun kv wr => ∃ t : Nat, t ≤ 2 ∧ kv = .int .i64 (t : Int) ∧ (∃ px py : Int, Hid (Row wr w.heap.size 28 [.int .i64 px, .int .i64 py])) ∧ Hid (wr.ownsRow B00 28 2 (.slice a1 n c1) n (flat X)) ∧ Hid (Below w.heap.size w wr)) (fun kv _ => (2 - intOf kv).toNat)
    case atStart => exact ⟨0, by omega, rfl, ⟨p, q, Rq2_d⟩, Fq2_x, Bq2⟩
    case round =>
      obtain ⟨t, ht, rfl, ⟨px, py, RD⟩, FX, BW⟩ := hrel
      rename World => wa
      clear Bq2 Fq2_s Fq2_x Rq2_d Rq2_fa Rq2_fb Rq2_na Rq2_nb
      have tw : IntKind.i64.wrap ((t : Int) + 1) = ((t + 1 : Nat) : Int) := by rw [i64_of _ (by omega) (by omega)]; omega
      by_cases hlt : t < 2
      · have hd : decide ((t : Int) < 2) = true := decide_eq_true (by omega)
        by_cases hp : okP (px, py) = true
        · have HP := Lib.hid hp
          have q7_d := RD.out
          have c7_d_0 := q7_d.cell 0
          have c7_d_1 := q7_d.cell 1
          simp only [List.getElem?_cons_zero, List.getElem?_cons_succ] at c7_d_0 c7_d_1
          clear q7_d
          go_wp2_with fail
          refine (Nearest_ok X _ px py _ (own_slpN HN.out FX.out) HOK.out hp).mono ?_
          rintro e w21 ⟨s1, rfl, o1, h21⟩
          obtain ⟨a2, c2, rfl⟩ := own_slN o1
          have HO1 := Lib.hid o1
          clear o1
          have Rq8_d := Lib.hid (RD.out.below h21 RD.out.lt)
          have Fq8_x := Lib.hid (own_grow FX.out h21)
          have Bq8 := Lib.hid (Below.andThen BW.out h21 (Nat.le_refl _))
          clear h21 RD FX BW c7_d_0 c7_d_1
          have q9_d := Rq8_d.out
          have c9_d_0 := q9_d.cell 0
          have c9_d_1 := q9_d.cell 1
          simp only [List.getElem?_cons_zero, List.getElem?_cons_succ] at c9_d_0 c9_d_1
          clear q9_d
          go_wp2_with fail
          refine (Farthest_ok X _ px py _ (own_slpN HN.out Fq8_x.out) HOK.out hp).mono ?_
          rintro e w22 ⟨s2, rfl, o2, h22⟩
          obtain ⟨a3, c3, rfl⟩ := own_slN o2
          have HO2 := Lib.hid o2
          clear o2
          have Rq10_d := Lib.hid (Rq8_d.out.below h22 Rq8_d.out.lt)
          have Fq10_x := Lib.hid (own_grow Fq8_x.out h22)
          have Fq10_o1 := Lib.hid (own_grow HO1.out h22)
          have Bq10 := Lib.hid (Below.andThen Bq8.out h22 (Nat.le_refl _))
          clear h22 Rq8_d Fq8_x HO1 Bq8 c9_d_0 c9_d_1
          have q11_d := Rq10_d.out
          have c11_d_0 := q11_d.cell 0
          have c11_d_1 := q11_d.cell 1
          simp only [List.getElem?_cons_zero, List.getElem?_cons_succ] at c11_d_0 c11_d_1
          clear q11_d
          go_wp2_with fail
          refine (In_any px py _).mono ?_
          rintro e w23 ⟨rfl, h23⟩
          have Rq12_d := Lib.hid (Rq10_d.out.below h23 Rq10_d.out.lt)
          have Fq12_x := Lib.hid (own_grow Fq10_x.out h23)
          have Fq12_o1 := Lib.hid (own_grow Fq10_o1.out h23)
          have Fq12_o2 := Lib.hid (own_grow HO2.out h23)
          have Bq12 := Lib.hid (Below.andThen Bq10.out h23 (Nat.le_refl _))
          clear h23 Rq10_d Fq10_x Fq10_o1 HO2 Bq10 c11_d_0 c11_d_1
          rw [hp]
          have q13_d := Rq12_d.out
          have c13_d_0 := q13_d.cell 0
          have c13_d_1 := q13_d.cell 1
          simp only [List.getElem?_cons_zero, List.getElem?_cons_succ] at c13_d_0 c13_d_1
          clear q13_d
          go_wp2_with fail
          refine (rNearest_any X _ px py _ (own_slpN HN.out Fq12_x.out) (by have := HX.out.2.2; omega) HX.out.1 HX.out.2.1 (okP_iff.1 hp).1 (okP_iff.1 hp).2).mono ?_
          rintro e w24 ⟨s3, rfl, o3, h24⟩
          obtain ⟨a4, c4, rfl⟩ := own_slN o3
          have HO3 := Lib.hid o3
          clear o3
          have Rq14_d := Lib.hid (Rq12_d.out.below h24 Rq12_d.out.lt)
          have Fq14_x := Lib.hid (own_grow Fq12_x.out h24)
          have Fq14_o1 := Lib.hid (own_grow Fq12_o1.out h24)
          have Fq14_o2 := Lib.hid (own_grow Fq12_o2.out h24)
          have Bq14 := Lib.hid (Below.andThen Bq12.out h24 (Nat.le_refl _))
          clear h24 Rq12_d Fq12_x Fq12_o1 Fq12_o2 Bq12 c13_d_0 c13_d_1
          go_wp2_with fail
          refine (ints_sli _ _ _ _ _ (own_sliN Fq14_o1.out) (own_sliN HO3.out) (whL_leN HX.out.1) (whL_leN HX.out.1)).mono ?_
          rintro e w25 ⟨rfl, h25⟩
          have Rq15_d := Lib.hid (Rq14_d.out.below h25 Rq14_d.out.lt)
          have Fq15_x := Lib.hid (own_grow Fq14_x.out h25)
          have Fq15_o1 := Lib.hid (own_grow Fq14_o1.out h25)
          have Fq15_o2 := Lib.hid (own_grow Fq14_o2.out h25)
          have Fq15_o3 := Lib.hid (own_grow HO3.out h25)
          have Bq15 := Lib.hid (Below.andThen Bq14.out h25 (Nat.le_refl _))
          clear h25 Rq14_d Fq14_x Fq14_o1 Fq14_o2 HO3 Bq14 
          have hs1 : decide ((NearestL X (px, py)).map natI = (NearestL X (px, py)).map natI) = true := decide_eq_true rfl
          have q16_d := Rq15_d.out
          have c16_d_0 := q16_d.cell 0
          have c16_d_1 := q16_d.cell 1
          simp only [List.getElem?_cons_zero, List.getElem?_cons_succ] at c16_d_0 c16_d_1
          clear q16_d
          go_wp2_with fail
          refine (rFarthest_any X _ px py _ (own_slpN HN.out Fq15_x.out) (by have := HX.out.2.2; omega) HX.out.1 HX.out.2.1 (okP_iff.1 hp).1 (okP_iff.1 hp).2).mono ?_
          rintro e w26 ⟨s4, rfl, o4, h26⟩
          obtain ⟨a5, c5, rfl⟩ := own_slN o4
          have HO4 := Lib.hid o4
          clear o4
          have Rq17_d := Lib.hid (Rq15_d.out.below h26 Rq15_d.out.lt)
          have Fq17_x := Lib.hid (own_grow Fq15_x.out h26)
          have Fq17_o1 := Lib.hid (own_grow Fq15_o1.out h26)
          have Fq17_o2 := Lib.hid (own_grow Fq15_o2.out h26)
          have Fq17_o3 := Lib.hid (own_grow Fq15_o3.out h26)
          have Bq17 := Lib.hid (Below.andThen Bq15.out h26 (Nat.le_refl _))
          clear h26 Rq15_d Fq15_x Fq15_o1 Fq15_o2 Fq15_o3 Bq15 c16_d_0 c16_d_1
          go_wp2_with fail
          refine (ints_sli _ _ _ _ _ (own_sliN Fq17_o2.out) (own_sliN HO4.out) (whL_leN HX.out.1) (whL_leN HX.out.1)).mono ?_
          rintro e w27 ⟨rfl, h27⟩
          have Rq18_d := Lib.hid (Rq17_d.out.below h27 Rq17_d.out.lt)
          have Fq18_x := Lib.hid (own_grow Fq17_x.out h27)
          have Fq18_o1 := Lib.hid (own_grow Fq17_o1.out h27)
          have Fq18_o2 := Lib.hid (own_grow Fq17_o2.out h27)
          have Fq18_o3 := Lib.hid (own_grow Fq17_o3.out h27)
          have Fq18_o4 := Lib.hid (own_grow HO4.out h27)
          have Bq18 := Lib.hid (Below.andThen Bq17.out h27 (Nat.le_refl _))
          clear h27 Rq17_d Fq17_x Fq17_o1 Fq17_o2 Fq17_o3 HO4 Bq17 
          have hs2 : decide ((FarthestL X (px, py)).map natI = (FarthestL X (px, py)).map natI) = true := decide_eq_true rfl
          have q19_d := Rq18_d.out
          have c19_d_0 := q19_d.cell 0
          have c19_d_1 := q19_d.cell 1
          simp only [List.getElem?_cons_zero, List.getElem?_cons_succ] at c19_d_0 c19_d_1
          clear q19_d
          go_wp2_with fail
          refine (place_any px py _).mono ?_
          rintro e w28 ⟨rfl, h28⟩
          have Rq20_d := Lib.hid (Rq18_d.out.below h28 Rq18_d.out.lt)
          have Fq20_x := Lib.hid (own_grow Fq18_x.out h28)
          have Fq20_o1 := Lib.hid (own_grow Fq18_o1.out h28)
          have Fq20_o2 := Lib.hid (own_grow Fq18_o2.out h28)
          have Fq20_o3 := Lib.hid (own_grow Fq18_o3.out h28)
          have Fq20_o4 := Lib.hid (own_grow Fq18_o4.out h28)
          have Bq20 := Lib.hid (Below.andThen Bq18.out h28 (Nat.le_refl _))
          clear h28 Rq18_d Fq18_x Fq18_o1 Fq18_o2 Fq18_o3 Fq18_o4 Bq18 c19_d_0 c19_d_1
          have q21_d := Rq20_d.out
          have c21_d_0 := q21_d.cell 0
          have c21_d_1 := q21_d.cell 1
          simp only [List.getElem?_cons_zero, List.getElem?_cons_succ] at c21_d_0 c21_d_1
          clear q21_d
          have z22_d_0 := frozen_of_row _ (w.heap.size) 0 _ _ Rq20_d.out
          have z22_d_1 := frozen_of_row _ (w.heap.size) 1 _ _ Rq20_d.out
          have q := (Rq20_d.out.set 0 (.int .i64 (plN px))).set 1 (.int .i64 (plN py))
          simp only [List.set_cons_zero, List.set_cons_succ] at q
          have Q := Lib.hid q
          have QF := Lib.hid (own_set (own_set Fq20_x.out HLX.out 0 (.int .i64 (plN px))) HLX.out 1 (.int .i64 (plN py)))
          have QB := Lib.hid ((Bq20.out.setCell (p := ⟨w.heap.size, 0, none⟩) (by dsimp only; omega) (.int .i64 (plN px))).setCell (p := ⟨w.heap.size, 1, none⟩) (by dsimp only; omega) (.int .i64 (plN py)))
          clear q
          go_wp2_with fail
          exact ⟨⟨t + 1, by omega, rfl, ⟨_, _, Q⟩, QF, QB⟩, by simp [intOf]; omega⟩
        · have hp0 : okP (px, py) = false := by simpa using hp
          have q7_d := RD.out
          have c7_d_0 := q7_d.cell 0
          have c7_d_1 := q7_d.cell 1
          simp only [List.getElem?_cons_zero, List.getElem?_cons_succ] at c7_d_0 c7_d_1
          clear q7_d
          go_wp2_with fail
          refine (Nearest_bad X _ px py _ (own_slpN HN.out FX.out) HOK.out hp0).mono ?_
          rintro e w21 ⟨rfl, h21⟩
          have Rq8_d := Lib.hid (RD.out.below h21 RD.out.lt)
          have Fq8_x := Lib.hid (own_grow FX.out h21)
          have Bq8 := Lib.hid (Below.andThen BW.out h21 (Nat.le_refl _))
          clear h21 RD FX BW c7_d_0 c7_d_1
          have q9_d := Rq8_d.out
          have c9_d_0 := q9_d.cell 0
          have c9_d_1 := q9_d.cell 1
          simp only [List.getElem?_cons_zero, List.getElem?_cons_succ] at c9_d_0 c9_d_1
          clear q9_d
          go_wp2_with fail
          refine (Farthest_bad X _ px py _ (own_slpN HN.out Fq8_x.out) HOK.out hp0).mono ?_
          rintro e w22 ⟨rfl, h22⟩
          have Rq10_d := Lib.hid (Rq8_d.out.below h22 Rq8_d.out.lt)
          have Fq10_x := Lib.hid (own_grow Fq8_x.out h22)
          have Bq10 := Lib.hid (Below.andThen Bq8.out h22 (Nat.le_refl _))
          clear h22 Rq8_d Fq8_x Bq8 c9_d_0 c9_d_1
          have q11_d := Rq10_d.out
          have c11_d_0 := q11_d.cell 0
          have c11_d_1 := q11_d.cell 1
          simp only [List.getElem?_cons_zero, List.getElem?_cons_succ] at c11_d_0 c11_d_1
          clear q11_d
          go_wp2_with fail
          refine (In_any px py _).mono ?_
          rintro e w23 ⟨rfl, h23⟩
          have Rq12_d := Lib.hid (Rq10_d.out.below h23 Rq10_d.out.lt)
          have Fq12_x := Lib.hid (own_grow Fq10_x.out h23)
          have Bq12 := Lib.hid (Below.andThen Bq10.out h23 (Nat.le_refl _))
          clear h23 Rq10_d Fq10_x Bq10 c11_d_0 c11_d_1
          rw [hp0]
          have q13_d := Rq12_d.out
          have c13_d_0 := q13_d.cell 0
          have c13_d_1 := q13_d.cell 1
          simp only [List.getElem?_cons_zero, List.getElem?_cons_succ] at c13_d_0 c13_d_1
          clear q13_d
          go_wp2_with fail
          refine (place_any px py _).mono ?_
          rintro e w24 ⟨rfl, h24⟩
          have Rq14_d := Lib.hid (Rq12_d.out.below h24 Rq12_d.out.lt)
          have Fq14_x := Lib.hid (own_grow Fq12_x.out h24)
          have Bq14 := Lib.hid (Below.andThen Bq12.out h24 (Nat.le_refl _))
          clear h24 Rq12_d Fq12_x Bq12 c13_d_0 c13_d_1
          have q15_d := Rq14_d.out
          have c15_d_0 := q15_d.cell 0
          have c15_d_1 := q15_d.cell 1
          simp only [List.getElem?_cons_zero, List.getElem?_cons_succ] at c15_d_0 c15_d_1
          clear q15_d
          have z16_d_0 := frozen_of_row _ (w.heap.size) 0 _ _ Rq14_d.out
          have z16_d_1 := frozen_of_row _ (w.heap.size) 1 _ _ Rq14_d.out
          have q := (Rq14_d.out.set 0 (.int .i64 (plN px))).set 1 (.int .i64 (plN py))
          simp only [List.set_cons_zero, List.set_cons_succ] at q
          have Q := Lib.hid q
          have QF := Lib.hid (own_set (own_set Fq14_x.out HLX.out 0 (.int .i64 (plN px))) HLX.out 1 (.int .i64 (plN py)))
          have QB := Lib.hid ((Bq14.out.setCell (p := ⟨w.heap.size, 0, none⟩) (by dsimp only; omega) (.int .i64 (plN px))).setCell (p := ⟨w.heap.size, 1, none⟩) (by dsimp only; omega) (.int .i64 (plN py)))
          clear q
          go_wp2_with fail
          exact ⟨⟨t + 1, by omega, rfl, ⟨_, _, Q⟩, QF, QB⟩, by simp [intOf]; omega⟩
      · have hd : decide ((t : Int) < 2) = false := decide_eq_false (by omega)
        have BWW := Lib.hid BW.out
        go_wp2_with fail
        refine (awake_any _).mono ?_
        rintro e wz ⟨rfl, hz⟩
        have BZ := Lib.hid (Below.andThen BW.out hz (Nat.le_refl _))
        go_wp2_with fail
        go_ret
        exact ⟨rfl, BZ.out⟩
  · have HPA := Lib.hid (Pairs_few X _ w1 HSL.out HOK.out (by rw [HN.out]; omega))
    clear HSL
    go_wp2_with fail
    refine (HPA.out).mono ?_
    rintro e w2 ⟨rfl, h2⟩
    obtain ⟨bb2_0, rr2_0⟩ := box_start w2 28 [.int .i64 0, .int .i64 0]
    replace h2 := Below.andThen h2 bb2_0 (Nat.le_refl _)
    clear bb2_0
    obtain ⟨bb2_1, rr2_1⟩ := box_start (w2.alloc (.cells [.int .i64 0, .int .i64 0].toArray 28)) 28 [.int .i64 0, .int .i64 0]
    rw [size_al] at rr2_1
    replace h2 := Below.andThen h2 bb2_1 (Nat.le_refl _)
    replace rr2_0 := rr2_0.below bb2_1 rr2_0.lt
    clear bb2_1
    have Rq1_d := Lib.hid (R1.out.below h2 R1.out.lt)
    have Fq1_x := Lib.hid (own_grow HS1.out h2)
    have Bq1 := Lib.hid (Below.andThen B1.out h2 (Nat.le_refl _))
    clear h2 R1 HS1 B1 
    have Rq1_na := Lib.hid rr2_0
    clear rr2_0
    have Rq1_fa := Lib.hid rr2_1
    clear rr2_1
    have q2_na := Rq1_na.out
    have c2_na_0 := q2_na.cell 0
    have c2_na_1 := q2_na.cell 1
    simp only [List.getElem?_cons_zero, List.getElem?_cons_succ] at c2_na_0 c2_na_1
    clear q2_na
    have q3_fa := Rq1_fa.out
    have c3_fa_0 := q3_fa.cell 0
    have c3_fa_1 := q3_fa.cell 1
    simp only [List.getElem?_cons_zero, List.getElem?_cons_succ] at c3_fa_0 c3_fa_1
    clear q3_fa
    have heq1 := (eq28 0 0 0 0 ((w2.alloc (.cells [.int .i64 0, .int .i64 0].toArray 28)).alloc (.cells [.int .i64 0, .int .i64 0].toArray 28))).trans (by rw [decide_eq_true rfl])
    have hd2 : decide ((n : Int) < 2) = true := decide_eq_true (by omega)
    have hd2n : decide (n < 2) = true := decide_eq_true (by omega)
    go_wp2_with fail
    have D0 := Lib.hid (show ∃ px py : Int, Row _ w.heap.size 28 [.int .i64 px, .int .i64 py] from ⟨p, q, Rq1_d.out⟩)
    clear D0
    go_loopw [11] (fun kv wr => ∃ t : Nat, t ≤ 2 ∧ kv = .int .i64 (t : Int) ∧ (∃ px py : Int, Hid (Row wr w.heap.size 28 [.int .i64 px, .int .i64 py])) ∧ Hid (wr.ownsRow B00 28 2 (.slice a1 n c1) n (flat X)) ∧ Hid (Below w.heap.size w wr)) (fun kv _ => (2 - intOf kv).toNat)
    case atStart => exact ⟨0, by omega, rfl, ⟨p, q, Rq1_d⟩, Fq1_x, Bq1⟩
    case round =>
      obtain ⟨t, ht, rfl, ⟨px, py, RD⟩, FX, BW⟩ := hrel
      rename World => wa
      clear Bq1 Fq1_x Rq1_d Rq1_fa Rq1_na
      have tw : IntKind.i64.wrap ((t : Int) + 1) = ((t + 1 : Nat) : Int) := by rw [i64_of _ (by omega) (by omega)]; omega
      by_cases hlt : t < 2
      · have hd : decide ((t : Int) < 2) = true := decide_eq_true (by omega)
        by_cases hp : okP (px, py) = true
        · have HP := Lib.hid hp
          have q4_d := RD.out
          have c4_d_0 := q4_d.cell 0
          have c4_d_1 := q4_d.cell 1
          simp only [List.getElem?_cons_zero, List.getElem?_cons_succ] at c4_d_0 c4_d_1
          clear q4_d
          go_wp2_with fail
          refine (Nearest_ok X _ px py _ (own_slpN HN.out FX.out) HOK.out hp).mono ?_
          rintro e w21 ⟨s1, rfl, o1, h21⟩
          obtain ⟨a2, c2, rfl⟩ := own_slN o1
          have HO1 := Lib.hid o1
          clear o1
          have Rq5_d := Lib.hid (RD.out.below h21 RD.out.lt)
          have Fq5_x := Lib.hid (own_grow FX.out h21)
          have Bq5 := Lib.hid (Below.andThen BW.out h21 (Nat.le_refl _))
          clear h21 RD FX BW c4_d_0 c4_d_1
          have q6_d := Rq5_d.out
          have c6_d_0 := q6_d.cell 0
          have c6_d_1 := q6_d.cell 1
          simp only [List.getElem?_cons_zero, List.getElem?_cons_succ] at c6_d_0 c6_d_1
          clear q6_d
          go_wp2_with fail
          refine (Farthest_ok X _ px py _ (own_slpN HN.out Fq5_x.out) HOK.out hp).mono ?_
          rintro e w22 ⟨s2, rfl, o2, h22⟩
          obtain ⟨a3, c3, rfl⟩ := own_slN o2
          have HO2 := Lib.hid o2
          clear o2
          have Rq7_d := Lib.hid (Rq5_d.out.below h22 Rq5_d.out.lt)
          have Fq7_x := Lib.hid (own_grow Fq5_x.out h22)
          have Fq7_o1 := Lib.hid (own_grow HO1.out h22)
          have Bq7 := Lib.hid (Below.andThen Bq5.out h22 (Nat.le_refl _))
          clear h22 Rq5_d Fq5_x HO1 Bq5 c6_d_0 c6_d_1
          have q8_d := Rq7_d.out
          have c8_d_0 := q8_d.cell 0
          have c8_d_1 := q8_d.cell 1
          simp only [List.getElem?_cons_zero, List.getElem?_cons_succ] at c8_d_0 c8_d_1
          clear q8_d
          go_wp2_with fail
          refine (In_any px py _).mono ?_
          rintro e w23 ⟨rfl, h23⟩
          have Rq9_d := Lib.hid (Rq7_d.out.below h23 Rq7_d.out.lt)
          have Fq9_x := Lib.hid (own_grow Fq7_x.out h23)
          have Fq9_o1 := Lib.hid (own_grow Fq7_o1.out h23)
          have Fq9_o2 := Lib.hid (own_grow HO2.out h23)
          have Bq9 := Lib.hid (Below.andThen Bq7.out h23 (Nat.le_refl _))
          clear h23 Rq7_d Fq7_x Fq7_o1 HO2 Bq7 c8_d_0 c8_d_1
          rw [hp]
          have q10_d := Rq9_d.out
          have c10_d_0 := q10_d.cell 0
          have c10_d_1 := q10_d.cell 1
          simp only [List.getElem?_cons_zero, List.getElem?_cons_succ] at c10_d_0 c10_d_1
          clear q10_d
          go_wp2_with fail
          refine (rNearest_any X _ px py _ (own_slpN HN.out Fq9_x.out) (by have := HX.out.2.2; omega) HX.out.1 HX.out.2.1 (okP_iff.1 hp).1 (okP_iff.1 hp).2).mono ?_
          rintro e w24 ⟨s3, rfl, o3, h24⟩
          obtain ⟨a4, c4, rfl⟩ := own_slN o3
          have HO3 := Lib.hid o3
          clear o3
          have Rq11_d := Lib.hid (Rq9_d.out.below h24 Rq9_d.out.lt)
          have Fq11_x := Lib.hid (own_grow Fq9_x.out h24)
          have Fq11_o1 := Lib.hid (own_grow Fq9_o1.out h24)
          have Fq11_o2 := Lib.hid (own_grow Fq9_o2.out h24)
          have Bq11 := Lib.hid (Below.andThen Bq9.out h24 (Nat.le_refl _))
          clear h24 Rq9_d Fq9_x Fq9_o1 Fq9_o2 Bq9 c10_d_0 c10_d_1
          go_wp2_with fail
          refine (ints_sli _ _ _ _ _ (own_sliN Fq11_o1.out) (own_sliN HO3.out) (whL_leN HX.out.1) (whL_leN HX.out.1)).mono ?_
          rintro e w25 ⟨rfl, h25⟩
          have Rq12_d := Lib.hid (Rq11_d.out.below h25 Rq11_d.out.lt)
          have Fq12_x := Lib.hid (own_grow Fq11_x.out h25)
          have Fq12_o1 := Lib.hid (own_grow Fq11_o1.out h25)
          have Fq12_o2 := Lib.hid (own_grow Fq11_o2.out h25)
          have Fq12_o3 := Lib.hid (own_grow HO3.out h25)
          have Bq12 := Lib.hid (Below.andThen Bq11.out h25 (Nat.le_refl _))
          clear h25 Rq11_d Fq11_x Fq11_o1 Fq11_o2 HO3 Bq11 
          have hs1 : decide ((NearestL X (px, py)).map natI = (NearestL X (px, py)).map natI) = true := decide_eq_true rfl
          have q13_d := Rq12_d.out
          have c13_d_0 := q13_d.cell 0
          have c13_d_1 := q13_d.cell 1
          simp only [List.getElem?_cons_zero, List.getElem?_cons_succ] at c13_d_0 c13_d_1
          clear q13_d
          go_wp2_with fail
          refine (rFarthest_any X _ px py _ (own_slpN HN.out Fq12_x.out) (by have := HX.out.2.2; omega) HX.out.1 HX.out.2.1 (okP_iff.1 hp).1 (okP_iff.1 hp).2).mono ?_
          rintro e w26 ⟨s4, rfl, o4, h26⟩
          obtain ⟨a5, c5, rfl⟩ := own_slN o4
          have HO4 := Lib.hid o4
          clear o4
          have Rq14_d := Lib.hid (Rq12_d.out.below h26 Rq12_d.out.lt)
          have Fq14_x := Lib.hid (own_grow Fq12_x.out h26)
          have Fq14_o1 := Lib.hid (own_grow Fq12_o1.out h26)
          have Fq14_o2 := Lib.hid (own_grow Fq12_o2.out h26)
          have Fq14_o3 := Lib.hid (own_grow Fq12_o3.out h26)
          have Bq14 := Lib.hid (Below.andThen Bq12.out h26 (Nat.le_refl _))
          clear h26 Rq12_d Fq12_x Fq12_o1 Fq12_o2 Fq12_o3 Bq12 c13_d_0 c13_d_1
          go_wp2_with fail
          refine (ints_sli _ _ _ _ _ (own_sliN Fq14_o2.out) (own_sliN HO4.out) (whL_leN HX.out.1) (whL_leN HX.out.1)).mono ?_
          rintro e w27 ⟨rfl, h27⟩
          have Rq15_d := Lib.hid (Rq14_d.out.below h27 Rq14_d.out.lt)
          have Fq15_x := Lib.hid (own_grow Fq14_x.out h27)
          have Fq15_o1 := Lib.hid (own_grow Fq14_o1.out h27)
          have Fq15_o2 := Lib.hid (own_grow Fq14_o2.out h27)
          have Fq15_o3 := Lib.hid (own_grow Fq14_o3.out h27)
          have Fq15_o4 := Lib.hid (own_grow HO4.out h27)
          have Bq15 := Lib.hid (Below.andThen Bq14.out h27 (Nat.le_refl _))
          clear h27 Rq14_d Fq14_x Fq14_o1 Fq14_o2 Fq14_o3 HO4 Bq14 
          have hs2 : decide ((FarthestL X (px, py)).map natI = (FarthestL X (px, py)).map natI) = true := decide_eq_true rfl
          have q16_d := Rq15_d.out
          have c16_d_0 := q16_d.cell 0
          have c16_d_1 := q16_d.cell 1
          simp only [List.getElem?_cons_zero, List.getElem?_cons_succ] at c16_d_0 c16_d_1
          clear q16_d
          go_wp2_with fail
          refine (place_any px py _).mono ?_
          rintro e w28 ⟨rfl, h28⟩
          have Rq17_d := Lib.hid (Rq15_d.out.below h28 Rq15_d.out.lt)
          have Fq17_x := Lib.hid (own_grow Fq15_x.out h28)
          have Fq17_o1 := Lib.hid (own_grow Fq15_o1.out h28)
          have Fq17_o2 := Lib.hid (own_grow Fq15_o2.out h28)
          have Fq17_o3 := Lib.hid (own_grow Fq15_o3.out h28)
          have Fq17_o4 := Lib.hid (own_grow Fq15_o4.out h28)
          have Bq17 := Lib.hid (Below.andThen Bq15.out h28 (Nat.le_refl _))
          clear h28 Rq15_d Fq15_x Fq15_o1 Fq15_o2 Fq15_o3 Fq15_o4 Bq15 c16_d_0 c16_d_1
          have q18_d := Rq17_d.out
          have c18_d_0 := q18_d.cell 0
          have c18_d_1 := q18_d.cell 1
          simp only [List.getElem?_cons_zero, List.getElem?_cons_succ] at c18_d_0 c18_d_1
          clear q18_d
          have z19_d_0 := frozen_of_row _ (w.heap.size) 0 _ _ Rq17_d.out
          have z19_d_1 := frozen_of_row _ (w.heap.size) 1 _ _ Rq17_d.out
          have q := (Rq17_d.out.set 0 (.int .i64 (plN px))).set 1 (.int .i64 (plN py))
          simp only [List.set_cons_zero, List.set_cons_succ] at q
          have Q := Lib.hid q
          have QF := Lib.hid (own_set (own_set Fq17_x.out HLX.out 0 (.int .i64 (plN px))) HLX.out 1 (.int .i64 (plN py)))
          have QB := Lib.hid ((Bq17.out.setCell (p := ⟨w.heap.size, 0, none⟩) (by dsimp only; omega) (.int .i64 (plN px))).setCell (p := ⟨w.heap.size, 1, none⟩) (by dsimp only; omega) (.int .i64 (plN py)))
          clear q
          go_wp2_with fail
          exact ⟨⟨t + 1, by omega, rfl, ⟨_, _, Q⟩, QF, QB⟩, by simp [intOf]; omega⟩
        · have hp0 : okP (px, py) = false := by simpa using hp
          have q4_d := RD.out
          have c4_d_0 := q4_d.cell 0
          have c4_d_1 := q4_d.cell 1
          simp only [List.getElem?_cons_zero, List.getElem?_cons_succ] at c4_d_0 c4_d_1
          clear q4_d
          go_wp2_with fail
          refine (Nearest_bad X _ px py _ (own_slpN HN.out FX.out) HOK.out hp0).mono ?_
          rintro e w21 ⟨rfl, h21⟩
          have Rq5_d := Lib.hid (RD.out.below h21 RD.out.lt)
          have Fq5_x := Lib.hid (own_grow FX.out h21)
          have Bq5 := Lib.hid (Below.andThen BW.out h21 (Nat.le_refl _))
          clear h21 RD FX BW c4_d_0 c4_d_1
          have q6_d := Rq5_d.out
          have c6_d_0 := q6_d.cell 0
          have c6_d_1 := q6_d.cell 1
          simp only [List.getElem?_cons_zero, List.getElem?_cons_succ] at c6_d_0 c6_d_1
          clear q6_d
          go_wp2_with fail
          refine (Farthest_bad X _ px py _ (own_slpN HN.out Fq5_x.out) HOK.out hp0).mono ?_
          rintro e w22 ⟨rfl, h22⟩
          have Rq7_d := Lib.hid (Rq5_d.out.below h22 Rq5_d.out.lt)
          have Fq7_x := Lib.hid (own_grow Fq5_x.out h22)
          have Bq7 := Lib.hid (Below.andThen Bq5.out h22 (Nat.le_refl _))
          clear h22 Rq5_d Fq5_x Bq5 c6_d_0 c6_d_1
          have q8_d := Rq7_d.out
          have c8_d_0 := q8_d.cell 0
          have c8_d_1 := q8_d.cell 1
          simp only [List.getElem?_cons_zero, List.getElem?_cons_succ] at c8_d_0 c8_d_1
          clear q8_d
          go_wp2_with fail
          refine (In_any px py _).mono ?_
          rintro e w23 ⟨rfl, h23⟩
          have Rq9_d := Lib.hid (Rq7_d.out.below h23 Rq7_d.out.lt)
          have Fq9_x := Lib.hid (own_grow Fq7_x.out h23)
          have Bq9 := Lib.hid (Below.andThen Bq7.out h23 (Nat.le_refl _))
          clear h23 Rq7_d Fq7_x Bq7 c8_d_0 c8_d_1
          rw [hp0]
          have q10_d := Rq9_d.out
          have c10_d_0 := q10_d.cell 0
          have c10_d_1 := q10_d.cell 1
          simp only [List.getElem?_cons_zero, List.getElem?_cons_succ] at c10_d_0 c10_d_1
          clear q10_d
          go_wp2_with fail
          refine (place_any px py _).mono ?_
          rintro e w24 ⟨rfl, h24⟩
          have Rq11_d := Lib.hid (Rq9_d.out.below h24 Rq9_d.out.lt)
          have Fq11_x := Lib.hid (own_grow Fq9_x.out h24)
          have Bq11 := Lib.hid (Below.andThen Bq9.out h24 (Nat.le_refl _))
          clear h24 Rq9_d Fq9_x Bq9 c10_d_0 c10_d_1
          have q12_d := Rq11_d.out
          have c12_d_0 := q12_d.cell 0
          have c12_d_1 := q12_d.cell 1
          simp only [List.getElem?_cons_zero, List.getElem?_cons_succ] at c12_d_0 c12_d_1
          clear q12_d
          have z13_d_0 := frozen_of_row _ (w.heap.size) 0 _ _ Rq11_d.out
          have z13_d_1 := frozen_of_row _ (w.heap.size) 1 _ _ Rq11_d.out
          have q := (Rq11_d.out.set 0 (.int .i64 (plN px))).set 1 (.int .i64 (plN py))
          simp only [List.set_cons_zero, List.set_cons_succ] at q
          have Q := Lib.hid q
          have QF := Lib.hid (own_set (own_set Fq11_x.out HLX.out 0 (.int .i64 (plN px))) HLX.out 1 (.int .i64 (plN py)))
          have QB := Lib.hid ((Bq11.out.setCell (p := ⟨w.heap.size, 0, none⟩) (by dsimp only; omega) (.int .i64 (plN px))).setCell (p := ⟨w.heap.size, 1, none⟩) (by dsimp only; omega) (.int .i64 (plN py)))
          clear q
          go_wp2_with fail
          exact ⟨⟨t + 1, by omega, rfl, ⟨_, _, Q⟩, QF, QB⟩, by simp [intOf]; omega⟩
      · have hd : decide ((t : Int) < 2) = false := decide_eq_false (by omega)
        have BWW := Lib.hid BW.out
        go_wp2_with fail
        refine (awake_any _).mono ?_
        rintro e wz ⟨rfl, hz⟩
        have BZ := Lib.hid (Below.andThen BW.out hz (Nat.le_refl _))
        go_wp2_with fail
        go_ret
        exact ⟨rfl, BZ.out⟩
end Go.Proofs.Ytlemipnplgbckaa
