import Derived.Test.YtlemipnplgbckaaHP
import Derived.Test.YtlemipnplgbckaaMF
import Derived.Laws.AppendOwn
import Derived.ChangeKeysEq
import Derived.Maps.RangeWalk
import Derived.Maps.OwnIn
import Derived.Maps.AppendAt
import Derived.RangeFuncNested
import Derived.RangeFuncBound
import Derived.RangeFuncCalls
import Derived.RangeFuncLeaves
import Derived.Shelf.Abstract
import Derived.Shelf.RegionOpen
import Derived.WalkKit
import Derived.WalkMore
import Derived.OwnWalkIn
import Derived.TacticsInMore
import Derived.LoopNIn
import Derived.LoopIn
import Derived.WalkSpells
import Derived.WalkLawsBesides
import Derived.BigQuiet
import Derived.Deep.QuietTactic
import Derived.Lib.Hide
import Derived.Deep.RegionHeld3
import Derived.StillTailTactics
import Derived.Deep.LoopGhost
import Derived.Maps.OwnSet
import Derived.Lib.IndexAny
import Derived.Sort.QuietThIn
import Derived.Sort.QuietTacIn
import Derived.Sort.BigQuietIn
import Derived.Laws.OwnMore
import Derived.DeepKeys4
import Derived.Maps.Views
import Derived.Maps.OwnOps
import Derived.Deep.DeepCutAuto
import Derived.Shelf.Bits.Mul64
import Derived.Shelf.LaysM
namespace Go.Proofs.Ytlemipnplgbckaa
open Go.RowKit Go.Shelf
attribute [local go_sem] Oper.semAt_some
theorem nat_cell {w : World} {b o : Nat} {L : List Nat} {N k : Nat} (h : IntsAt w b o (L.map natI)) (hN : L.length = N) (hk : k < N) : ∃ hl : k < L.length, w.cell? ⟨b, o + k, none⟩ = some (.int .i64 (L[k] : Int)) := by
  have hl : k < L.length := by omega
  have := h.at_ k (by rw [List.length_map]; exact hl)
  rw [List.getElem_map] at this
  exact ⟨hl, this⟩
theorem own_slp {W : World} {n₀ n c : Nat} {a : Option Addr} {ps : List Pt} (hn : ps.length = n) (h : W.ownsRow n₀ 28 2 (.slice a n c) n (flat ps)) : SlP W (.slice a n c) ps := by
  subst hn; exact slp_own h
theorem take_map {ps : List Pt} {L : List Nat} {k : Nat} (h : k < L.length) : (L.take (k + 1)).map (ptAt ps) = (L.take k).map (ptAt ps) ++ [ptAt ps L[k]] := by
  rw [List.take_succ_eq_append_getElem h, List.map_append]; rfl
theorem any_step {L : List Nat} {f : Nat → Bool} {k : Nat} (h : k < L.length) : (L.take (k + 1)).any f = ((L.take k).any f || f L[k]) := by
  rw [List.take_succ_eq_append_getElem h, List.any_append]; simp
set_option maxRecDepth 100000 in
set_option maxHeartbeats 8000000 in
theorem BerthHolds_any (zs : List Pt) (p q : Int) (v : Value) (w : World) (hv : SlP w v zs) (hl : zs.length ≤ 9223372036854775807) :
    Calls Try.prog 10 #[v, .agg #[.int .i64 p, .int .i64 q]] w fun e w' => e = .returned (.bool true) ∧ Below w.heap.size w w' := by
  obtain ⟨b0, r0⟩ := box_start w 28 [.int .i64 p, .int .i64 q]
  have HT := Lib.hid (tame_any zs v (w.alloc (.cells [.int .i64 p, .int .i64 q].toArray 28)) (hv.grow b0) hl)
  have hok := tameF_ok zs
  obtain ⟨⟨_, h12⟩, hb, _⟩ := chkP_iff.1 hok
  have HOK := Lib.hid hok
  have HX := Lib.hid (And.intro h12 hb)
  have R0 := Lib.hid r0
  have B0 := Lib.hid b0
  clear hok h12 hb hv hl b0 r0
  generalize tameF zs = X at *
  obtain ⟨C, hC⟩ : ∃ C, smC X = C := ⟨_, rfl⟩
  have HC := Lib.hid hC
  have HVA := Lib.hid (va_sm HOK.out)
  have HTW := Lib.hid (on_two HOK.out)
  have HWS := Lib.hid (fun t (ht : t < X.length) => wh_sm HOK.out ht)
  have HSD := Lib.hid (fun d => sides HOK.out d)
  have HOS := Lib.hid (And.intro (onP_ok HOK.out) (on_small HOK.out))
  rw [hC] at HVA HTW HWS HSD HOS
  obtain ⟨m1, m2, m3, m4⟩ := C
  clear hC
  have HCB := Lib.hid (vaF_cirB HVA.out)
  have HSM := Lib.hid (fun W (h : SlP W v X) => Smallest_ok X v W h HOK.out) 
  clear HSM
  go_enter Try.func10, Try.ntmps10
  go_wp2_with fail
  refine HT.out.mono ?_
  rintro e w1 ⟨s, rfl, ho, h1⟩
  have HLX := Lib.hid R0.out.lt
  obtain ⟨B00, hB00⟩ : ∃ b, (w.alloc (.cells [.int .i64 p, .int .i64 q].toArray 28)).heap.size = b := ⟨_, rfl⟩
  rw [hB00] at ho HLX
  clear hB00
  obtain ⟨a1, c1, rfl, _⟩ := OwnP.open ho
  have HS1 := Lib.hid (show w1.ownsRow B00 28 2 (.slice a1 X.length c1) X.length (flat X) from ho)
  have HSM := Lib.hid (show Calls Try.prog 19 #[.slice a1 X.length c1] w1 fun e w' => e = .returned (.tuple #[.agg #[.int .i64 m1, .int .i64 m2, .int .i64 m3, .int .i64 m4], .int .i64 0]) ∧ Below w1.heap.size w1 w' from by
    have := Smallest_ok X _ w1 (slp_own (ps := X) HS1.out) HOK.out
    rw [HC.out] at this
    exact this)
  have HON := Lib.hid (fun W (h : SlP W (.slice a1 X.length c1) X) => On_ok X _ m1 m2 m3 m4 W h HOK.out HVA.out)
  have HFO := Lib.hid (fun W (h : SlP W (.slice a1 X.length c1) X) => Force_ok X _ W h HOK.out)
  have HVL := Lib.hid (fun W : World => Valid_any m1 m2 m3 m4 W)
  have HIF := Lib.hid (fun (vf : Value) (zs : List Int) W (h : SlP W (.slice a1 X.length c1) X) (hf : SlI W vf zs) (hz : zs.length ≤ 1000) => IsForce_ok X _ vf zs W h HOK.out hf hz)
  have R1 := Lib.hid (R0.out.below h1 R0.out.lt)
  have B1 := Lib.hid (Below.andThen B0.out h1 (Nat.le_refl _))
  rw [HVA.out] at HVL
  obtain ⟨n, hn⟩ : ∃ n, X.length = n := ⟨_, rfl⟩
  have HN := Lib.hid hn
  rw [hn] at HS1 HSM HON HFO HIF ⊢
  clear ho h1 R0 B0 HT hn
  go_wp2_with fail
  refine (HSM.out).mono ?_
  rintro e w2 ⟨rfl, h2⟩
  have HDC := Lib.hid (show w.heap.size < w2.heap.size from Nat.lt_of_lt_of_le R1.out.lt h2.size)
  obtain ⟨bb2_0, rr2_0⟩ := box_start w2 30 [.int .i64 m1, .int .i64 m2, .int .i64 m3, .int .i64 m4]
  replace h2 := Below.andThen h2 bb2_0 (Nat.le_refl _)
  clear bb2_0
  have Rq1_d := Lib.hid (R1.out.below h2 R1.out.lt)
  have Fq1_x := Lib.hid (own_grow HS1.out h2)
  have Bq1 := Lib.hid (Below.andThen B1.out h2 (Nat.le_refl _))
  clear h2 R1 HS1 B1 
  have Rq1_c := Lib.hid rr2_0
  clear rr2_0
  have q2_c := Rq1_c.out
  have c2_c_0 := q2_c.cell 0
  have c2_c_1 := q2_c.cell 1
  have c2_c_2 := q2_c.cell 2
  have c2_c_3 := q2_c.cell 3
  simp only [List.getElem?_cons_zero, List.getElem?_cons_succ] at c2_c_0 c2_c_1 c2_c_2 c2_c_3
  clear q2_c
  go_wp2_with fail
  refine (HON.out _ (own_slp HN.out Fq1_x.out)).mono ?_
  rintro e w3 ⟨s3, rfl, ho3, h3⟩
  have HLO := Lib.hid Rq1_d.out.lt
  obtain ⟨a3, c3, rfl⟩ := own_sl2 ho3
  have HSO := Lib.hid ho3
  have HOL := Lib.hid (onF_len X ⟨m1, m2, m3, m4⟩)
  obtain ⟨L, hL⟩ : ∃ L, onF X ⟨m1, m2, m3, m4⟩ = L := ⟨_, rfl⟩
  have HLL := Lib.hid hL
  obtain ⟨N, hN⟩ : ∃ N, L.length = N := ⟨_, rfl⟩
  have HNN := Lib.hid hN
  rw [hL] at HSO HOL HTW ⊢
  rw [hN] at HSO HOL HTW ⊢
  clear ho3 hL hN
  have Rq3_d := Lib.hid (Rq1_d.out.below h3 Rq1_d.out.lt)
  have Rq3_c := Lib.hid (Rq1_c.out.below h3 Rq1_c.out.lt)
  have Fq3_x := Lib.hid (own_grow Fq1_x.out h3)
  have Bq3 := Lib.hid (Below.andThen Bq1.out h3 (Nat.le_refl _))
  clear h3 Rq1_d Rq1_c Fq1_x Bq1 c2_c_0 c2_c_1 c2_c_2 c2_c_3
  go_wp2_with fail
  refine (HFO.out _ (own_slp HN.out Fq3_x.out)).mono ?_
  rintro e w4 ⟨i, j, k, s4, rfl, hijk, hfb, ho4, h4⟩
  have HLF := Lib.hid Rq3_d.out.lt
  obtain ⟨a4, c4, rfl⟩ := own_sl2 ho4
  have HSF := Lib.hid ho4
  have HFS := Lib.hid (fo_small HOK.out hijk.1 hijk.2.1 (by rw [HN.out]; exact hijk.2.2) hfb)
  have HRI := Lib.hid (force_ri (ps := X) hijk.1 hijk.2.1 (by rw [HN.out]; exact hijk.2.2) hfb)
  have HFM := Lib.hid (cmp3_mem hijk.1 hijk.2.1 hijk.2.2)
  have HKB := Lib.hid (And.intro (cmp3_one i j k) (cmp3_len i j k))
  have HFP := Lib.hid (show foP X i j k = (cmp3 i j k).map (ptAt X) from rfl)
  rw [HC.out] at HFS
  obtain ⟨F, hF⟩ : ∃ F, cmp3 i j k = F := ⟨_, rfl⟩
  obtain ⟨K, hK⟩ : ∃ K, F.length = K := ⟨_, rfl⟩
  have HKK := Lib.hid hK
  rw [hF] at HSF HRI HFM HKB HFP ⊢
  rw [hK] at HSF HKB ⊢
  generalize foP X i j k = FP at *
  clear hijk hfb ho4 hF hK
  have Rq4_d := Lib.hid (Rq3_d.out.below h4 Rq3_d.out.lt)
  have Rq4_c := Lib.hid (Rq3_c.out.below h4 Rq3_c.out.lt)
  have Fq4_x := Lib.hid (own_grow Fq3_x.out h4)
  have Fq4_on := Lib.hid (own_grow HSO.out h4)
  have Bq4 := Lib.hid (Below.andThen Bq3.out h4 (Nat.le_refl _))
  clear h4 Rq3_d Rq3_c Fq3_x HSO Bq3 
  have q5_c := Rq4_c.out
  have c5_c_0 := q5_c.cell 0
  have c5_c_1 := q5_c.cell 1
  have c5_c_2 := q5_c.cell 2
  have c5_c_3 := q5_c.cell 3
  simp only [List.getElem?_cons_zero, List.getElem?_cons_succ] at c5_c_0 c5_c_1 c5_c_2 c5_c_3
  clear q5_c
  go_wp2_with fail
  refine (circle_any m1 m2 m3 m4 _).mono ?_
  rintro e w5 ⟨rfl, h5⟩
  have Rq6_d := Lib.hid (Rq4_d.out.below h5 Rq4_d.out.lt)
  have Rq6_c := Lib.hid (Rq4_c.out.below h5 Rq4_c.out.lt)
  have Fq6_x := Lib.hid (own_grow Fq4_x.out h5)
  have Fq6_on := Lib.hid (own_grow Fq4_on.out h5)
  have Fq6_fo := Lib.hid (own_grow HSF.out h5)
  have Bq6 := Lib.hid (Below.andThen Bq4.out h5 (Nat.le_refl _))
  clear h5 Rq4_d Rq4_c Fq4_x Fq4_on HSF Bq4 c5_c_0 c5_c_1 c5_c_2 c5_c_3
  obtain ⟨mn, hmn⟩ : ∃ mn : Nat, min 2 n = mn := ⟨_, rfl⟩
  have hmi : min (2 : Int) (n : Int) = (mn : Int) := by omega
  have hln : mn ≤ N := by rw [← hmn, ← HN.out]; exact HTW.out
  have t1 : decide ((N : Int) < (mn : Int)) = false := decide_eq_false (by omega)
  have t1n : decide (N < mn) = false := decide_eq_false (by omega)
  have hkb := HKB.out
  have t2 : decide ((K : Int) < 1) = false := decide_eq_false (by omega)
  have t2n : decide (K < 1) = false := decide_eq_false (by omega)
  have t3 : decide ((K : Int) > 3) = false := decide_eq_false (by omega)
  have t3b : decide (3 < (K : Int)) = false := decide_eq_false (by omega)
  have t3n : decide (3 < K) = false := decide_eq_false (by omega)
  clear hmn hln hkb
  go_wp2_with fail
  refine (HVL.out _).mono ?_
  rintro e w6 ⟨rfl, h6⟩
  have Rq7_d := Lib.hid (Rq6_d.out.below h6 Rq6_d.out.lt)
  have Rq7_c := Lib.hid (Rq6_c.out.below h6 Rq6_c.out.lt)
  have Fq7_x := Lib.hid (own_grow Fq6_x.out h6)
  have Fq7_on := Lib.hid (own_grow Fq6_on.out h6)
  have Fq7_fo := Lib.hid (own_grow Fq6_fo.out h6)
  have Bq7 := Lib.hid (Below.andThen Bq6.out h6 (Nat.le_refl _))
  clear h6 Rq6_d Rq6_c Fq6_x Fq6_on Fq6_fo Bq6 
  have HLIM := Lib.hid (show n ≤ 12 by rw [← HN.out]; exact HX.out.1)
  go_wp2_with fail
  clear t1 t1n t2 t2n t3 t3b t3n hmi
  go_loopw [12] (fun iv wr => ∃ t : Nat, t ≤ n ∧ iv = .int .i64 (t : Int) ∧ Hid (Below w6.heap.size w6 wr)) (fun iv _ => (n - intOf iv).toNat)
  case atStart => exact ⟨0, by omega, rfl, Lib.hid (Below.refl _ _)⟩
  case round =>
    obtain ⟨t, ht, rfl, HB⟩ := hrel
    rename World => wa
    have tw : IntKind.i64.wrap ((t : Int) + 1) = ((t + 1 : Nat) : Int) := by have := HLIM.out; rw [i64_of _ (by omega) (by omega)]; omega
    have Rdb := Lib.hid (Rq7_d.out.below HB.out Rq7_d.out.lt)
    have Rcb := Lib.hid (Rq7_c.out.below HB.out Rq7_c.out.lt)
    have Fxb := Lib.hid (own_grow Fq7_x.out HB.out)
    have Fob := Lib.hid (own_grow Fq7_fo.out HB.out)
    have Fnb := Lib.hid (own_grow Fq7_on.out HB.out)
    have Bb := Lib.hid (Below.andThen Bq7.out HB.out (Nat.le_refl _))
    clear Rq7_d Rq7_c Fq7_x Fq7_fo Fq7_on Bq7
    by_cases hlt : t < n
    · have hd : decide ((t : Int) < (n : Int)) = true := decide_eq_true (by omega)
      have hdn : decide (t < n) = true := decide_eq_true hlt
      have HTI := Lib.hid (show (t : Int) < (n : Int) by omega)
      obtain ⟨au, cu, es, _, hs⟩ := own_slp HN.out Fxb.out
      rw [HN.out] at es
      cases es
      obtain ⟨g, o, rfl, hps⟩ : ∃ g o, a1 = some ⟨g, o, none⟩ ∧ PtsAt wa g o X := hs.resolve_left (fun e => by have := HN.out; rw [e] at this; simp at this; omega)
      have HP := Lib.hid (fun W (hb : Below wa.heap.size wa W) => pt_cell hps hb HN.out hlt)
      have hpb := pt_bd HX.out.2 HN.out hlt
      have HWL := Lib.hid (HWS.out t (by rw [HN.out]; exact hlt))
      have HWH := Lib.hid (fun W : World => Where_any m1 m2 m3 m4 (ptAt X t).1 (ptAt X t).2 W)
      have HWV := Lib.hid (show wherV ⟨m1, m2, m3, m4⟩ ((ptAt X t).1, (ptAt X t).2) = whF ⟨m1, m2, m3, m4⟩ (ptAt X t) ∧ wherE ⟨m1, m2, m3, m4⟩ ((ptAt X t).1, (ptAt X t).2) = 0 by
        unfold wherV wherE
        rw [HVA.out, okP_iff.2 hpb]
        exact ⟨rfl, rfl⟩)
      rw [HWV.out.1, HWV.out.2] at HWH
      clear HWV hs hps hpb
      generalize whF ⟨m1, m2, m3, m4⟩ (ptAt X t) = wv at *
      generalize ptAt X t = pt at *
      obtain ⟨x, y⟩ := pt
      dsimp only at HP HWH
      have hw1 : decide (wv > 0) = false := decide_eq_false (by have := HWL.out; omega)
      have hw2 : decide (0 < wv) = false := hw1
      have HWW := Lib.hid (And.intro hw1 hw2)
      clear hw1 hw2
      go_wp2_with fail
      clear HC
      refine wp_region_box (by kernel_rfl) (by kernel_rfl) [88, 89, 90, 91, 92, 93, 87, 94, 95, 13, 14] [(fun v => v = .agg #[.int .i64 m1, .int .i64 m2, .int .i64 m3, .int .i64 m4]), (fun v => v = .slice (some ⟨g, o, none⟩) n c1), (fun v => v = .int .i64 (t : Int)), (fun v => v = .pointer (some ⟨g, o + t * 2, none⟩)), (fun v => v = .agg #[.int .i64 x, .int .i64 y]), (fun v => v = .tuple #[.int .i64 wv, .int .i64 0]), (fun v => v = .tuple #[.int .i64 wv, .int .i64 0]), (fun v => v = .int .i64 wv), (fun v => v = .int .i64 0), (fun v => v = .int .i64 wv), (fun v => v = .int .i64 0)] [none, none, none, none, none, none, none, none, none, none, none] [none, none, none, none, none, none, none, none, none, none, none] 11 rfl (by kernel_rfl) ?tr ⟨_, (putAll_self _ _).symm, rfl⟩ ?steps ?fin
      case tr =>
        rintro i v h
        rcases i with _ | _ | _ | _ | _ | _ | _ | _ | _ | _ | _ | i
        all_goals first | trivial | (exfalso; rcases h with h | h <;> simp at h)
      case steps =>
        simp only [boxSteps, Nat.reduceAdd, Nat.zero_add, List.getD_cons_succ, List.getD_cons_zero]
        refine ⟨?_, ?_, ?_, ?_, ?_, ?_, ?_, ?_, ?_, ?_, ?_, trivial⟩
        · rintro vs W K hc hvl hw hK
          obtain ⟨x0, x1, x2, x3, x4, x5, x6, x7, x8, x9, x10, rfl⟩ := len11 hvl
          have HK := Lib.hid hK
          have HC := Lib.hid hc
          have HW := Lib.hid hw
          clear hK hc hw hvl
          simp only [putAll, Act.put, List.setIfInBounds_toArray, List.set_cons_succ, List.set_cons_zero, List.set_nil]
          have rr := Rcb.out.below HC.out Rcb.out.lt
          have d0 := rr.cell 0
          have d1 := rr.cell 1
          have d2 := rr.cell 2
          have d3 := rr.cell 3
          simp only [List.getElem?_cons_zero, List.getElem?_cons_succ] at d0 d1 d2 d3
          clear rr
          clear HW
          go_wp2_with fail
          have fin := HK.out (.agg #[.int .i64 m1, .int .i64 m2, .int .i64 m3, .int .i64 m4]) W (Below.refl _ _) rfl
          simp only [putAll, Act.put, List.setIfInBounds_toArray, List.set_cons_succ, List.set_cons_zero, List.set_nil] at fin
          exact fin
        · rintro vs W K hc hvl hw hK
          obtain ⟨x0, x1, x2, x3, x4, x5, x6, x7, x8, x9, x10, rfl⟩ := len11 hvl
          have HK := Lib.hid hK
          have HC := Lib.hid hc
          have HW := Lib.hid hw
          clear hK hc hw hvl
          simp only [putAll, Act.put, List.setIfInBounds_toArray, List.set_cons_succ, List.set_cons_zero, List.set_nil]
          clear HW
          go_wp2_with fail
          have fin := HK.out (.slice (some ⟨g, o, none⟩) n c1) W (Below.refl _ _) rfl
          simp only [putAll, Act.put, List.setIfInBounds_toArray, List.set_cons_succ, List.set_cons_zero, List.set_nil] at fin
          exact fin
        · rintro vs W K hc hvl hw hK
          obtain ⟨x0, x1, x2, x3, x4, x5, x6, x7, x8, x9, x10, rfl⟩ := len11 hvl
          have HK := Lib.hid hK
          have HC := Lib.hid hc
          have HW := Lib.hid hw
          clear hK hc hw hvl
          simp only [putAll, Act.put, List.setIfInBounds_toArray, List.set_cons_succ, List.set_cons_zero, List.set_nil]
          clear HW
          go_wp2_with fail
          have fin := HK.out (.int .i64 (t : Int)) W (Below.refl _ _) rfl
          simp only [putAll, Act.put, List.setIfInBounds_toArray, List.set_cons_succ, List.set_cons_zero, List.set_nil] at fin
          exact fin
        · rintro vs W K hc hvl hw hK
          obtain ⟨x0, x1, x2, x3, x4, x5, x6, x7, x8, x9, x10, rfl⟩ := len11 hvl
          have HK := Lib.hid hK
          have HC := Lib.hid hc
          have HW := Lib.hid hw
          clear hK hc hw hvl
          obtain rfl : x1 = .slice (some ⟨g, o, none⟩) n c1 := box_get (HW.out ⟨1, .data⟩ (by simp) rfl) rfl
          obtain rfl : x2 = .int .i64 (t : Int) := box_get (HW.out ⟨2, .data⟩ (by simp) rfl) rfl
          simp only [putAll, Act.put, List.setIfInBounds_toArray, List.set_cons_succ, List.set_cons_zero, List.set_nil]
          have hi1 := HTI.out
          clear HW
          go_wp2_with fail
          have fin := HK.out (.pointer (some ⟨g, o + t * 2, none⟩)) W (Below.refl _ _) rfl
          simp only [putAll, Act.put, List.setIfInBounds_toArray, List.set_cons_succ, List.set_cons_zero, List.set_nil] at fin
          exact fin
        · rintro vs W K hc hvl hw hK
          obtain ⟨x0, x1, x2, x3, x4, x5, x6, x7, x8, x9, x10, rfl⟩ := len11 hvl
          have HK := Lib.hid hK
          have HC := Lib.hid hc
          have HW := Lib.hid hw
          clear hK hc hw hvl
          obtain rfl : x3 = .pointer (some ⟨g, o + t * 2, none⟩) := box_get (HW.out ⟨3, .data⟩ (by simp) rfl) rfl
          simp only [putAll, Act.put, List.setIfInBounds_toArray, List.set_cons_succ, List.set_cons_zero, List.set_nil]
          have d0 := (HP.out W HC.out).1
          have d1 := (HP.out W HC.out).2
          clear HW
          go_wp2_with fail
          have fin := HK.out (.agg #[.int .i64 x, .int .i64 y]) W (Below.refl _ _) rfl
          simp only [putAll, Act.put, List.setIfInBounds_toArray, List.set_cons_succ, List.set_cons_zero, List.set_nil] at fin
          exact fin
        · rintro vs W K hc hvl hw hK
          obtain ⟨x0, x1, x2, x3, x4, x5, x6, x7, x8, x9, x10, rfl⟩ := len11 hvl
          have HK := Lib.hid hK
          have HC := Lib.hid hc
          have HW := Lib.hid hw
          clear hK hc hw hvl
          obtain rfl : x0 = .agg #[.int .i64 m1, .int .i64 m2, .int .i64 m3, .int .i64 m4] := box_get (HW.out ⟨0, .data⟩ (by simp) rfl) rfl
          obtain rfl : x4 = .agg #[.int .i64 x, .int .i64 y] := box_get (HW.out ⟨4, .data⟩ (by simp) rfl) rfl
          simp only [putAll, Act.put, List.setIfInBounds_toArray, List.set_cons_succ, List.set_cons_zero, List.set_nil]
          clear HW
          go_wp2_with fail
          refine (HWH.out W).mono ?_
          rintro e W' ⟨rfl, hb'⟩
          have HB' := Lib.hid hb'
          clear hb'
          go_wp2_with fail
          have fin := HK.out (.tuple #[.int .i64 wv, .int .i64 0]) W' HB'.out rfl
          simp only [putAll, Act.put, List.setIfInBounds_toArray, List.set_cons_succ, List.set_cons_zero, List.set_nil] at fin
          exact fin
        · rintro vs W K hc hvl hw hK
          obtain ⟨x0, x1, x2, x3, x4, x5, x6, x7, x8, x9, x10, rfl⟩ := len11 hvl
          have HK := Lib.hid hK
          have HC := Lib.hid hc
          have HW := Lib.hid hw
          clear hK hc hw hvl
          obtain rfl : x5 = .tuple #[.int .i64 wv, .int .i64 0] := box_get (HW.out ⟨5, .data⟩ (by simp) rfl) rfl
          simp only [putAll, Act.put, List.setIfInBounds_toArray, List.set_cons_succ, List.set_cons_zero, List.set_nil]
          clear HW
          go_wp2_with fail
          have fin := HK.out (.tuple #[.int .i64 wv, .int .i64 0]) W (Below.refl _ _) rfl
          simp only [putAll, Act.put, List.setIfInBounds_toArray, List.set_cons_succ, List.set_cons_zero, List.set_nil] at fin
          exact fin
        · rintro vs W K hc hvl hw hK
          obtain ⟨x0, x1, x2, x3, x4, x5, x6, x7, x8, x9, x10, rfl⟩ := len11 hvl
          have HK := Lib.hid hK
          have HC := Lib.hid hc
          have HW := Lib.hid hw
          clear hK hc hw hvl
          obtain rfl : x6 = .tuple #[.int .i64 wv, .int .i64 0] := box_get (HW.out ⟨6, .data⟩ (by simp) rfl) rfl
          simp only [putAll, Act.put, List.setIfInBounds_toArray, List.set_cons_succ, List.set_cons_zero, List.set_nil]
          clear HW
          go_wp2_with fail
          have fin := HK.out (.int .i64 wv) W (Below.refl _ _) rfl
          simp only [putAll, Act.put, List.setIfInBounds_toArray, List.set_cons_succ, List.set_cons_zero, List.set_nil] at fin
          exact fin
        · rintro vs W K hc hvl hw hK
          obtain ⟨x0, x1, x2, x3, x4, x5, x6, x7, x8, x9, x10, rfl⟩ := len11 hvl
          have HK := Lib.hid hK
          have HC := Lib.hid hc
          have HW := Lib.hid hw
          clear hK hc hw hvl
          obtain rfl : x6 = .tuple #[.int .i64 wv, .int .i64 0] := box_get (HW.out ⟨6, .data⟩ (by simp) rfl) rfl
          simp only [putAll, Act.put, List.setIfInBounds_toArray, List.set_cons_succ, List.set_cons_zero, List.set_nil]
          clear HW
          go_wp2_with fail
          have fin := HK.out (.int .i64 0) W (Below.refl _ _) rfl
          simp only [putAll, Act.put, List.setIfInBounds_toArray, List.set_cons_succ, List.set_cons_zero, List.set_nil] at fin
          exact fin
        · rintro vs W K hc hvl hw hK
          obtain ⟨x0, x1, x2, x3, x4, x5, x6, x7, x8, x9, x10, rfl⟩ := len11 hvl
          have HK := Lib.hid hK
          have HC := Lib.hid hc
          have HW := Lib.hid hw
          clear hK hc hw hvl
          obtain rfl : x7 = .int .i64 wv := box_get (HW.out ⟨7, .data⟩ (by simp) rfl) rfl
          simp only [putAll, Act.put, List.setIfInBounds_toArray, List.set_cons_succ, List.set_cons_zero, List.set_nil]
          clear HW
          go_wp2_with fail
          have fin := HK.out (.int .i64 wv) W (Below.refl _ _) rfl
          simp only [putAll, Act.put, List.setIfInBounds_toArray, List.set_cons_succ, List.set_cons_zero, List.set_nil] at fin
          exact fin
        · rintro vs W K hc hvl hw hK
          obtain ⟨x0, x1, x2, x3, x4, x5, x6, x7, x8, x9, x10, rfl⟩ := len11 hvl
          have HK := Lib.hid hK
          have HC := Lib.hid hc
          have HW := Lib.hid hw
          clear hK hc hw hvl
          obtain rfl : x8 = .int .i64 0 := box_get (HW.out ⟨8, .data⟩ (by simp) rfl) rfl
          simp only [putAll, Act.put, List.setIfInBounds_toArray, List.set_cons_succ, List.set_cons_zero, List.set_nil]
          clear HW
          go_wp2_with fail
          have fin := HK.out (.int .i64 0) W (Below.refl _ _) rfl
          simp only [putAll, Act.put, List.setIfInBounds_toArray, List.set_cons_succ, List.set_cons_zero, List.set_nil] at fin
          exact fin
      case fin =>
        rintro vs W hJ
        obtain ⟨x0, x1, x2, x3, x4, x5, x6, x7, x8, x9, x10, rfl⟩ := len11 hJ.ln
        obtain rfl : x9 = .int .i64 wv := box_get (hJ.val 9 rfl) rfl
        obtain rfl : x10 = .int .i64 0 := box_get (hJ.val 10 rfl) rfl
        have HC := Lib.hid hJ.bl
        clear hJ
        simp only [putAll, Act.put, List.setIfInBounds_toArray, List.set_cons_succ, List.set_cons_zero, List.set_nil]
        have hw1 := HWW.out.1
        have hw2 := HWW.out.2
        go_wp2_with fail
        exact ⟨⟨t + 1, by omega, rfl, Lib.hid (Below.andThen HB.out HC.out (Nat.le_refl _))⟩, by simp [intOf]; omega⟩
    · have hd : decide ((t : Int) < (n : Int)) = false := decide_eq_false (by omega)
      have hdn : decide (t < n) = false := decide_eq_false hlt
      have q8_d := Rdb.out
      have c8_d_0 := q8_d.cell 0
      have c8_d_1 := q8_d.cell 1
      simp only [List.getElem?_cons_zero, List.getElem?_cons_succ] at c8_d_0 c8_d_1
      clear q8_d
      go_wp2_with fail
      refine (place_any p q _).mono ?_
      rintro e w27 ⟨rfl, h27⟩
      have Rq9_d := Lib.hid (Rdb.out.below h27 Rdb.out.lt)
      have Rq9_c := Lib.hid (Rcb.out.below h27 Rcb.out.lt)
      have Fq9_x := Lib.hid (own_grow Fxb.out h27)
      have Fq9_fo := Lib.hid (own_grow Fob.out h27)
      have Fq9_on := Lib.hid (own_grow Fnb.out h27)
      have Bq9 := Lib.hid (Below.andThen Bb.out h27 (Nat.le_refl _))
      clear h27 Rdb Rcb Fxb Fob Fnb Bb c8_d_0 c8_d_1
      have hxy := placeF_bd (p, q)
      have HXY := Lib.hid (show Bd 20 (plN p) ∧ Bd 20 (plN q) from hxy)
      clear hxy
      generalize plN p = x at *
      generalize plN q = y at *
      have q10_d := Rq9_d.out
      have c10_d_0 := q10_d.cell 0
      have c10_d_1 := q10_d.cell 1
      simp only [List.getElem?_cons_zero, List.getElem?_cons_succ] at c10_d_0 c10_d_1
      clear q10_d
      have z11_d_0 := frozen_of_row _ (w.heap.size) 0 _ _ Rq9_d.out
      have z11_d_1 := frozen_of_row _ (w.heap.size) 1 _ _ Rq9_d.out
      have hs := ((Rq9_d.out.set 0 (.int .i64 x)).set 1 (.int .i64 y))
      simp only [List.set_cons_zero, List.set_cons_succ] at hs
      have Rq12_d := Lib.hid hs
      have Rq12_c := Lib.hid ((Rq9_c.out.other 0 (.int .i64 x) (show w2.heap.size ≠ w.heap.size by have := HDC.out; omega)).other 1 (.int .i64 y) (show w2.heap.size ≠ w.heap.size by have := HDC.out; omega))
      have Bq12 := Lib.hid ((Bq9.out.setCell (p := ⟨w.heap.size, 0, none⟩) (by dsimp only; omega) (.int .i64 x)).setCell (p := ⟨w.heap.size, 1, none⟩) (by dsimp only; omega) (.int .i64 y))
      clear hs Rq9_d Rq9_c Bq9
      have Fs_x := Lib.hid (own_set2 (own_set2 Fq9_x.out HLX.out 0 (.int .i64 x)) HLX.out 1 (.int .i64 y))
      clear Fq9_x
      have Fs_on := Lib.hid (own_set2 (own_set2 Fq9_on.out HLO.out 0 (.int .i64 x)) HLO.out 1 (.int .i64 y))
      clear Fq9_on
      have Fs_fo := Lib.hid (own_set2 (own_set2 Fq9_fo.out HLF.out 0 (.int .i64 x)) HLF.out 1 (.int .i64 y))
      clear Fq9_fo
      obtain ⟨w7, hw7⟩ : ∃ W, (w27.setCell ⟨w.heap.size, 0, none⟩ (.int .i64 x)).setCell ⟨w.heap.size, 1, none⟩ (.int .i64 y) = W := ⟨_, rfl⟩
      have HW7 := Lib.hid hw7
      rw [hw7] at Rq12_d Rq12_c Fs_x Fs_fo Fs_on Bq12
      clear hw7
      go_wp2_with fail
      rw [HW7.out]
      clear HW7 c10_d_0 c10_d_1 z11_d_0 z11_d_1
      have HSDD := Lib.hid (HSD.out (x, y))
      obtain ⟨mo, hmo⟩ : ∃ f : Nat → Bool, (fun k => (L.take k).any (fun t => decide (0 ≤ sdF ⟨m1, m2, m3, m4⟩ (x, y) (ptAt X t)))) = f := ⟨_, rfl⟩
      obtain ⟨le, hle⟩ : ∃ f : Nat → Bool, (fun k => (L.take k).any (fun t => decide (sdF ⟨m1, m2, m3, m4⟩ (x, y) (ptAt X t) ≤ 0))) = f := ⟨_, rfl⟩
      have HMO := Lib.hid (fun k => congrFun hmo k)
      have HLE := Lib.hid (fun k => congrFun hle k)
      have HMN := Lib.hid (show mo N = true ∧ le N = true by
        rw [← HMO.out N, ← HLE.out N, ← HNN.out, List.take_length, ← HLL.out]
        obtain ⟨⟨t, ht, h⟩, ⟨t', ht', h'⟩⟩ := HSDD.out
        exact ⟨List.any_eq_true.2 ⟨t, ht, decide_eq_true h⟩, List.any_eq_true.2 ⟨t', ht', decide_eq_true h'⟩⟩)
      have HM0 := Lib.hid (show mo 0 = false ∧ le 0 = false by rw [← HMO.out 0, ← HLE.out 0]; exact ⟨rfl, rfl⟩)
      have HMEM := Lib.hid (fun (k : Nat) (h : k < L.length) => show L[k] < X.length from (mem_onF.1 (show L[k] ∈ onF X ⟨m1, m2, m3, m4⟩ by rw [HLL.out]; exact List.getElem_mem h)).1)
      clear hmo hle
      go_loopw [19, 15, 16, 17] (fun iv mv lv sv wr => ∃ t : Nat, t ≤ N ∧ iv = .int .i64 (t : Int) ∧ mv = .bool (mo t) ∧ lv = .bool (le t) ∧ Hid (OwnP wr w7.heap.size sv ((L.take t).map (ptAt X)) ∧ Below w7.heap.size w7 wr)) (fun iv _ _ _ _ => (N - intOf iv).toNat)
      case atStart => exact ⟨0, by omega, rfl, by rw [HM0.out.1], by rw [HM0.out.2], Lib.hid ⟨World.ownsRow_nil _ _ _ _, Below.refl _ _⟩⟩
      case round =>
        obtain ⟨t, ht, rfl, rfl, rfl, HB⟩ := hrel
        rename World => wb
        obtain ⟨as_, cs_, rfl, _⟩ := OwnP.open HB.out.1
        have HTN := Lib.hid (show t ≤ 12 by have := HLIM.out; have := HOL.out; rw [HN.out] at this; omega)
        have tw : IntKind.i64.wrap ((t : Int) + 1) = ((t + 1 : Nat) : Int) := by have := HTN.out; rw [i64_of _ (by omega) (by omega)]; omega
        by_cases hlt : t < N
        · have hd : decide ((t : Int) < (N : Int)) = true := decide_eq_true (by omega)
          have hdn : decide (t < N) = true := decide_eq_true hlt
          have Rdb := Lib.hid (Rq12_d.out.below HB.out.2 Rq12_d.out.lt)
          have Rcb := Lib.hid (Rq12_c.out.below HB.out.2 Rq12_c.out.lt)
          have Fx := own_slp HN.out (own_grow Fs_x.out HB.out.2)
          have Fn := sli_idx (own_grow Fs_on.out HB.out.2)
          obtain ⟨ao, co, eo, _, hso⟩ := Fn
          rw [List.length_map, HNN.out] at eo
          cases eo
          obtain ⟨gl, ol, rfl, _, hio⟩ := hso.resolve_left (fun e => by have := congrArg List.length e; rw [List.length_map, HNN.out] at this; simp at this; omega)
          obtain ⟨hll, q0⟩ := nat_cell hio HNN.out hlt
          have HTM := Lib.hid (take_map (ps := X) hll)
          have HMS := Lib.hid ((HMO.out (t + 1)).symm.trans ((any_step hll).trans (by rw [HMO.out t])))
          have HLS := Lib.hid ((HLE.out (t + 1)).symm.trans ((any_step hll).trans (by rw [HLE.out t])))
          have hmem := HMEM.out t hll
          clear Fx hso hio
          generalize L[t] = u at *
          have hu : u < n := by rw [← HN.out]; exact hmem
          obtain ⟨au, cu, es, _, hs⟩ := own_slp HN.out (own_grow Fs_x.out HB.out.2)
          rw [HN.out] at es
          cases es
          obtain ⟨g, o, rfl, hps⟩ : ∃ g o, a1 = some ⟨g, o, none⟩ ∧ PtsAt wb g o X := hs.resolve_left (fun e => by have := HN.out; rw [e] at this; simp at this; omega)
          obtain ⟨q1, q2⟩ := pt_cell hps (Below.refl _ _) HN.out hu
          have hpb := pt_bd HX.out.2 HN.out hu
          have u1 : decide ((u : Int) < 0) = false := decide_eq_false (by omega)
          have u2 : decide ((u : Int) ≥ (n : Int)) = false := decide_eq_false (by omega)
          have u2n : decide (u ≥ n) = false := decide_eq_false (by omega)
          have u2b : decide (n ≤ u) = false := decide_eq_false (by omega)
          have u3 : (u : Int) < (n : Int) := by omega
          obtain ⟨⟨px, py⟩, hpt⟩ : ∃ p, ptAt X u = p := ⟨_, rfl⟩
          rw [hpt] at q1 q2 hpb HTM HMS HLS
          clear hmem hs hps hpt
          dsimp only at q1 q2 hpb
          have hcb := HCB.out
          have hxy := HXY.out
          have bx := (hpb.1.mul (show Bd 1000000 m3 by have := hcb.2.2.1; unfold Bd; dsimp only at this; omega)).sub hcb.1
          have by_ := (hpb.2.mul (show Bd 1000000 m3 by have := hcb.2.2.1; unfold Bd; dsimp only at this; omega)).sub hcb.2.1
          dsimp only at bx by_
          have e1 := i64_bd (hpb.1.mul (show Bd 1000000 m3 by have := hcb.2.2.1; unfold Bd; dsimp only at this; omega)) (by omega)
          have e2 := i64_bd (hpb.2.mul (show Bd 1000000 m3 by have := hcb.2.2.1; unfold Bd; dsimp only at this; omega)) (by omega)
          have e3 := i64_bd bx (by omega)
          have e4 := i64_bd by_ (by omega)
          have e5 := i64_bd (hxy.1.mul bx) (by omega)
          have e6 := i64_bd (hxy.2.mul by_) (by omega)
          have e7 := i64_bd ((hxy.1.mul bx).add (hxy.2.mul by_)) (by omega)
          have HSDF := Lib.hid (show sdF ⟨m1, m2, m3, m4⟩ (x, y) (px, py) = x * (px * m3 - m1) + y * (py * m3 - m2) from rfl)
          rw [HSDF.out] at HMS HLS
          obtain ⟨E1, hE1⟩ : ∃ E, decide (0 ≤ x * (px * m3 - m1) + y * (py * m3 - m2)) = E := ⟨_, rfl⟩
          obtain ⟨E2, hE2⟩ : ∃ E, decide (x * (px * m3 - m1) + y * (py * m3 - m2) ≤ 0) = E := ⟨_, rfl⟩
          have hE1b : decide (x * (px * m3 - m1) + y * (py * m3 - m2) ≥ 0) = E1 := hE1
          have hE2b : decide (0 ≥ x * (px * m3 - m1) + y * (py * m3 - m2)) = E2 := hE2
          rw [hE1] at HMS
          rw [hE2] at HLS
          obtain ⟨b8, r8⟩ := box_start wb 28 [.int .i64 px, .int .i64 py]
          have Rdv := Rdb.out.below b8 Rdb.out.lt
          have Rcv := Rcb.out.below b8 Rcb.out.lt
          have d0 := Rdv.cell 0
          have d1 := Rdv.cell 1
          have c0 := Rcv.cell 0
          have c1' := Rcv.cell 1
          have c2' := Rcv.cell 2
          simp only [List.getElem?_cons_zero, List.getElem?_cons_succ] at d0 d1 c0 c1' c2'
          obtain ⟨b9, r9⟩ := box_start (wb.alloc (.cells [.int .i64 px, .int .i64 py].toArray 28)) 28 [.int .i64 px, .int .i64 py]
          have hb89 := Below.andThen b8 b9 (Nat.le_refl _)
          rw [size_al] at r9
          obtain ⟨v', W', f1, f2, f3⟩ := app_one _ w7.heap.size _ _ px py _ (own_grow HB.out.1 hb89) (Nat.le_trans HB.out.2.size hb89.size) (by rw [List.length_map, List.length_take]; have := HTN.out; omega) r9
          obtain ⟨a9, c9, rfl, _⟩ := OwnP.open f2
          have A4 := Lib.hid f1
          have O4 := Lib.hid f2
          have B4 := Lib.hid (show Below w7.heap.size w7 W' from (Below.andThen HB.out.2 hb89 (Nat.le_refl _)).trans f3)
          generalize hLa : ((L.take t).map (ptAt X)).length = La at *
          generalize hLb : ((L.take t).map (ptAt X) ++ [(px, py)]).length = Lb at *
          generalize mo t = mt at *
          generalize le t = lt_ at *
          clear b8 b9 r8 r9 hb89 f1 f2 f3 Rdv Rcv hpb hcb hxy bx by_
          cases mt with
          | false =>
            cases lt_ with
            | false =>
              go_wp2_with (at_builtin; refine wpList_append_run rfl _ _ 22 rfl _ _ _ _ rfl rfl A4.out ?_)
              exact ⟨⟨t + 1, by omega, by simp, by rw [HMS.out]; simp, by rw [HLS.out]; simp, by rw [HTM.out]; exact Lib.hid ⟨O4.out, B4.out⟩⟩, by simp [intOf]; omega⟩
            | true =>
              go_wp2_with (at_builtin; refine wpList_append_run rfl _ _ 22 rfl _ _ _ _ rfl rfl A4.out ?_)
              exact ⟨⟨t + 1, by omega, by simp, by rw [HMS.out]; simp, by rw [HLS.out]; simp, by rw [HTM.out]; exact Lib.hid ⟨O4.out, B4.out⟩⟩, by simp [intOf]; omega⟩
          | true =>
            cases lt_ with
            | false =>
              go_wp2_with (at_builtin; refine wpList_append_run rfl _ _ 22 rfl _ _ _ _ rfl rfl A4.out ?_)
              exact ⟨⟨t + 1, by omega, by simp, by rw [HMS.out]; simp, by rw [HLS.out]; simp, by rw [HTM.out]; exact Lib.hid ⟨O4.out, B4.out⟩⟩, by simp [intOf]; omega⟩
            | true =>
              go_wp2_with (at_builtin; refine wpList_append_run rfl _ _ 22 rfl _ _ _ _ rfl rfl A4.out ?_)
              exact ⟨⟨t + 1, by omega, by simp, by rw [HMS.out]; simp, by rw [HLS.out]; simp, by rw [HTM.out]; exact Lib.hid ⟨O4.out, B4.out⟩⟩, by simp [intOf]; omega⟩
        · have hd : decide ((t : Int) < (N : Int)) = false := decide_eq_false (by omega)
          have hdn : decide (t < N) = false := decide_eq_false hlt
          obtain rfl : t = N := by omega
          have heo : (L.take t).map (ptAt X) = onP X ⟨m1, m2, m3, m4⟩ := by
            rw [← HNN.out, List.take_length]
            unfold onP
            rw [HLL.out]
          rw [HMN.out.1, HMN.out.2]
          generalize hLs : ((L.take t).map (ptAt X)).length = Ls at *
          have HONP := Lib.hid (show OwnP wb w7.heap.size (.slice as_ Ls cs_) (onP X ⟨m1, m2, m3, m4⟩) by
            rw [← heo]; exact HB.out.1)
          clear heo
          have HLs := Lib.hid hLs
          have Rdb := Lib.hid (Rq12_d.out.below HB.out.2 Rq12_d.out.lt)
          have Rcb := Lib.hid (Rq12_c.out.below HB.out.2 Rq12_c.out.lt)
          have Fxb := Lib.hid (own_grow Fs_x.out HB.out.2)
          have Fob := Lib.hid (own_grow Fs_fo.out HB.out.2)
          have Bb := Lib.hid (Below.andThen Bq12.out HB.out.2 (Nat.le_refl _))
          clear hLs Rq12_d Rq12_c Fs_x Fs_fo Fs_on Bq12 HMN HM0 HMO HLE HMEM
          rename World => w8
          go_wp2_with fail
          go_loopw [22, 18] (fun iv sv wr => ∃ t : Nat, t ≤ K ∧ iv = .int .i64 (t : Int) ∧ Hid (OwnP wr w8.heap.size sv ((F.take t).map (ptAt X)) ∧ Below w8.heap.size w8 wr)) (fun iv _ _ => (K - intOf iv).toNat)
          case atStart => exact ⟨0, by omega, rfl, Lib.hid ⟨World.ownsRow_nil _ _ _ _, Below.refl _ _⟩⟩
          case round =>
            obtain ⟨t, ht, rfl, HB⟩ := hrel
            rename World => wc
            obtain ⟨af_, cf_, rfl, _⟩ := OwnP.open HB.out.1
            have HTN := Lib.hid (show t ≤ 3 by have := HKB.out.2; omega)
            have tw : IntKind.i64.wrap ((t : Int) + 1) = ((t + 1 : Nat) : Int) := by have := HTN.out; rw [i64_of _ (by omega) (by omega)]; omega
            by_cases hlt : t < K
            · have hd : decide ((t : Int) < (K : Int)) = true := decide_eq_true (by omega)
              have hdn : decide (t < K) = true := decide_eq_true hlt
              have Fn := sli_idx (own_grow Fob.out HB.out.2)
              obtain ⟨ao, co, eo, _, hso⟩ := Fn
              rw [List.length_map, HKK.out] at eo
              cases eo
              obtain ⟨gl, ol, rfl, _, hio⟩ := hso.resolve_left (fun e => by have := congrArg List.length e; rw [List.length_map, HKK.out] at this; simp at this; omega)
              obtain ⟨hll, q0⟩ := nat_cell hio HKK.out hlt
              have HTM := Lib.hid (take_map (ps := X) hll)
              have hu := HFM.out _ (List.getElem_mem hll)
              clear hso hio
              generalize F[t] = u at *
              obtain ⟨au, cu, es, _, hs⟩ := own_slp HN.out (own_grow Fxb.out HB.out.2)
              rw [HN.out] at es
              cases es
              obtain ⟨g, o, rfl, hps⟩ : ∃ g o, a1 = some ⟨g, o, none⟩ ∧ PtsAt wc g o X := hs.resolve_left (fun e => by have := HN.out; rw [e] at this; simp at this; omega)
              obtain ⟨q1, q2⟩ := pt_cell hps (Below.refl _ _) HN.out hu
              have u1 : decide ((u : Int) < 0) = false := decide_eq_false (by omega)
              have u2 : decide ((u : Int) ≥ (n : Int)) = false := decide_eq_false (by omega)
              have u2n : decide (u ≥ n) = false := decide_eq_false (by omega)
              have u2b : decide (n ≤ u) = false := decide_eq_false (by omega)
              have u3 : (u : Int) < (n : Int) := by omega
              obtain ⟨⟨px, py⟩, hpt⟩ : ∃ p, ptAt X u = p := ⟨_, rfl⟩
              rw [hpt] at q1 q2 HTM
              clear hs hps hpt
              dsimp only at q1 q2
              obtain ⟨b9, r9⟩ := box_start wc 28 [.int .i64 px, .int .i64 py]
              obtain ⟨v', W', f1, f2, f3⟩ := app_one _ w8.heap.size _ _ px py _ (own_grow HB.out.1 b9) (Nat.le_trans HB.out.2.size b9.size) (by rw [List.length_map, List.length_take]; have := HTN.out; omega) r9
              obtain ⟨a9, c9, rfl, _⟩ := OwnP.open f2
              have A4 := Lib.hid f1
              have O4 := Lib.hid f2
              have B4 := Lib.hid (show Below w8.heap.size w8 W' from (Below.andThen HB.out.2 b9 (Nat.le_refl _)).trans f3)
              generalize hLa : ((F.take t).map (ptAt X)).length = La at *
              generalize hLb : ((F.take t).map (ptAt X) ++ [(px, py)]).length = Lb at *
              clear b9 r9 f1 f2 f3
              go_wp2_with (at_builtin; refine wpList_append_run rfl _ _ 22 rfl _ _ _ _ rfl rfl A4.out ?_)
              exact ⟨⟨t + 1, by omega, rfl, by rw [HTM.out]; exact Lib.hid ⟨O4.out, B4.out⟩⟩, by simp [intOf]; omega⟩
            · have hd : decide ((t : Int) < (K : Int)) = false := decide_eq_false (by omega)
              have hdn : decide (t < K) = false := decide_eq_false hlt
              obtain rfl : t = K := by omega
              have hef : (F.take t).map (ptAt X) = FP := by rw [← HKK.out, List.take_length, ← HFP.out]
              generalize hLs2 : ((F.take t).map (ptAt X)).length = Ls2 at *
              have HFOP := Lib.hid (show OwnP wc w8.heap.size (.slice af_ Ls2 cf_) FP by rw [← hef]; exact HB.out.1)
              clear hef
              have SS := Lib.hid (SlP.grow (slp_own HONP.out) HB.out.2)
              have SF := Lib.hid (slp_own HFOP.out)
              have SX := Lib.hid (own_slp HN.out (own_grow Fxb.out HB.out.2))
              have SI := Lib.hid (sli_idx (own_grow Fob.out HB.out.2))
              have RC := Lib.hid (Rcb.out.below HB.out.2 Rcb.out.lt)
              have BZ := Lib.hid (Below.andThen Bb.out HB.out.2 (Nat.le_refl _))
              have HS5 := Lib.hid (fun W (h : SlP W (.slice as_ Ls cs_) (onP X ⟨m1, m2, m3, m4⟩)) => show Calls Try.prog 19 #[.slice as_ Ls cs_] W fun e w' => e = .returned (.tuple #[.agg #[.int .i64 m1, .int .i64 m2, .int .i64 m3, .int .i64 m4], .int .i64 0]) ∧ Below W.heap.size W w' from by
                have := Smallest_ok _ _ W h HOS.out.1
                rw [HOS.out.2] at this
                exact this)
              have HS6 := Lib.hid (fun W (h : SlP W (.slice af_ Ls2 cf_) FP) => show Calls Try.prog 19 #[.slice af_ Ls2 cf_] W fun e w' => e = .returned (.tuple #[.agg #[.int .i64 m1, .int .i64 m2, .int .i64 m3, .int .i64 m4], .int .i64 0]) ∧ Below W.heap.size W w' from by
                have := Smallest_ok _ _ W h HFS.out.1
                rw [HFS.out.2] at this
                exact this)
              have HI7 := Lib.hid (fun W (h : SlP W (.slice a1 n c1) X) (hf : SlI W (.slice a4 t c4) (F.map natI)) => show Calls Try.prog 22 #[.slice a1 n c1, .slice a4 t c4] W fun e w' => e = .returned (.tuple #[.bool true, .int .i64 0]) ∧ Below W.heap.size W w' from by
                have := HIF.out _ _ W h hf (by rw [List.length_map, HKK.out]; have := HTN.out; omega)
                rw [HRI.out] at this
                exact this)
              clear hLs2 HB HONP HFOP Rcb Rdb Fxb Fob Bb
              go_wp2_with fail
              refine (HS5.out _ SS.out).mono ?_
              rintro e w28 ⟨rfl, h28⟩
              obtain ⟨bb28_0, rr28_0⟩ := box_start w28 30 [.int .i64 m1, .int .i64 m2, .int .i64 m3, .int .i64 m4]
              replace h28 := Below.andThen h28 bb28_0 (Nat.le_refl _)
              clear bb28_0
              have Rq13_c := Lib.hid (RC.out.below h28 RC.out.lt)
              have Fq13_s := Lib.hid (SS.out.grow h28)
              have Fq13_f := Lib.hid (SF.out.grow h28)
              have Fq13_x := Lib.hid (SX.out.grow h28)
              have Fq13_i := Lib.hid (SI.out.grow h28)
              have Bq13 := Lib.hid (Below.andThen BZ.out h28 (Nat.le_refl _))
              clear h28 RC SS SF SX SI BZ 
              have Rq13_s5 := Lib.hid rr28_0
              clear rr28_0
              go_wp2_with fail
              refine (HS6.out _ Fq13_f.out).mono ?_
              rintro e w29 ⟨rfl, h29⟩
              obtain ⟨bb29_0, rr29_0⟩ := box_start w29 30 [.int .i64 m1, .int .i64 m2, .int .i64 m3, .int .i64 m4]
              replace h29 := Below.andThen h29 bb29_0 (Nat.le_refl _)
              clear bb29_0
              have Rq14_c := Lib.hid (Rq13_c.out.below h29 Rq13_c.out.lt)
              have Rq14_s5 := Lib.hid (Rq13_s5.out.below h29 Rq13_s5.out.lt)
              have Fq14_s := Lib.hid (Fq13_s.out.grow h29)
              have Fq14_f := Lib.hid (Fq13_f.out.grow h29)
              have Fq14_x := Lib.hid (Fq13_x.out.grow h29)
              have Fq14_i := Lib.hid (Fq13_i.out.grow h29)
              have Bq14 := Lib.hid (Below.andThen Bq13.out h29 (Nat.le_refl _))
              clear h29 Rq13_c Rq13_s5 Fq13_s Fq13_f Fq13_x Fq13_i Bq13 
              have Rq14_s6 := Lib.hid rr29_0
              clear rr29_0
              go_wp2_with fail
              refine (HI7.out _ Fq14_x.out Fq14_i.out).mono ?_
              rintro e w30 ⟨rfl, h30⟩
              have Rq15_c := Lib.hid (Rq14_c.out.below h30 Rq14_c.out.lt)
              have Rq15_s5 := Lib.hid (Rq14_s5.out.below h30 Rq14_s5.out.lt)
              have Rq15_s6 := Lib.hid (Rq14_s6.out.below h30 Rq14_s6.out.lt)
              have Fq15_s := Lib.hid (Fq14_s.out.grow h30)
              have Fq15_f := Lib.hid (Fq14_f.out.grow h30)
              have Fq15_x := Lib.hid (Fq14_x.out.grow h30)
              have Fq15_i := Lib.hid (Fq14_i.out.grow h30)
              have Bq15 := Lib.hid (Below.andThen Bq14.out h30 (Nat.le_refl _))
              clear h30 Rq14_c Rq14_s5 Rq14_s6 Fq14_s Fq14_f Fq14_x Fq14_i Bq14 
              have q16_c := Rq15_c.out
              have c16_c_0 := q16_c.cell 0
              have c16_c_1 := q16_c.cell 1
              have c16_c_2 := q16_c.cell 2
              have c16_c_3 := q16_c.cell 3
              simp only [List.getElem?_cons_zero, List.getElem?_cons_succ] at c16_c_0 c16_c_1 c16_c_2 c16_c_3
              clear q16_c
              have q17_s5 := Rq15_s5.out
              have c17_s5_0 := q17_s5.cell 0
              have c17_s5_1 := q17_s5.cell 1
              have c17_s5_2 := q17_s5.cell 2
              have c17_s5_3 := q17_s5.cell 3
              simp only [List.getElem?_cons_zero, List.getElem?_cons_succ] at c17_s5_0 c17_s5_1 c17_s5_2 c17_s5_3
              clear q17_s5
              have q18_s6 := Rq15_s6.out
              have c18_s6_0 := q18_s6.cell 0
              have c18_s6_1 := q18_s6.cell 1
              have c18_s6_2 := q18_s6.cell 2
              have c18_s6_3 := q18_s6.cell 3
              simp only [List.getElem?_cons_zero, List.getElem?_cons_succ] at c18_s6_0 c18_s6_1 c18_s6_2 c18_s6_3
              clear q18_s6
              go_wp2_with fail
              refine (awake_any _).mono ?_
              rintro e w31 ⟨rfl, h31⟩
              have Rq19_c := Lib.hid (Rq15_c.out.below h31 Rq15_c.out.lt)
              have Rq19_s5 := Lib.hid (Rq15_s5.out.below h31 Rq15_s5.out.lt)
              have Rq19_s6 := Lib.hid (Rq15_s6.out.below h31 Rq15_s6.out.lt)
              have Fq19_s := Lib.hid (Fq15_s.out.grow h31)
              have Fq19_f := Lib.hid (Fq15_f.out.grow h31)
              have Fq19_x := Lib.hid (Fq15_x.out.grow h31)
              have Fq19_i := Lib.hid (Fq15_i.out.grow h31)
              have Bq19 := Lib.hid (Below.andThen Bq15.out h31 (Nat.le_refl _))
              clear h31 Rq15_c Rq15_s5 Rq15_s6 Fq15_s Fq15_f Fq15_x Fq15_i Bq15 c16_c_0 c16_c_1 c16_c_2 c16_c_3 c17_s5_0 c17_s5_1 c17_s5_2 c17_s5_3 c18_s6_0 c18_s6_1 c18_s6_2 c18_s6_3
              go_wp2_with fail
              go_ret
              exact ⟨rfl, Bq19.out⟩
end Go.Proofs.Ytlemipnplgbckaa
