import Derived.Test.YtlemipnplgbckaaMF
import Derived.Laws.AppendOwn
import Derived.ChangeKeysEq
import Derived.Maps.RangeWalk
import Derived.Maps.OwnIn
import Derived.Maps.AppendAt
import Derived.RangeFuncNested
import Derived.RangeFuncBound
import Derived.RangeFuncCalls
import Derived.RangeFuncLeaves
import Derived.Shelf.Abstract
import Derived.Shelf.RegionOpen
import Derived.WalkKit
import Derived.WalkMore
import Derived.OwnWalkIn
import Derived.TacticsInMore
import Derived.LoopNIn
import Derived.LoopIn
import Derived.WalkSpells
import Derived.WalkLawsBesides
import Derived.BigQuiet
import Derived.Deep.QuietTactic
import Derived.Lib.Hide
import Derived.Deep.RegionHeld3
import Derived.StillTailTactics
import Derived.Deep.LoopGhost
import Derived.Maps.OwnSet
import Derived.Lib.IndexAny
import Derived.Sort.QuietThIn
import Derived.Sort.QuietTacIn
import Derived.Sort.BigQuietIn
import Derived.Laws.OwnMore
import Derived.DeepKeys4
import Derived.Maps.Views
import Derived.Maps.OwnOps
import Derived.Deep.DeepCutAuto
namespace Go.Proofs.Ytlemipnplgbckaa
open Go.RowKit Go.Shelf
attribute [local go_sem] Oper.semAt_some
theorem cell_other (W : World) {b g : Nat} (hne : g ≠ b) (i o : Nat) (u : Value) : (W.setCell ⟨b, i, none⟩ u).cell? ⟨g, o, none⟩ = W.cell? ⟨g, o, none⟩ :=
  World.cell?_of_block (w := W) (a := ⟨g, o, none⟩) (Below.heap_setCell _ _ _ _ hne)
theorem PtsAt.set {W : World} {g o : Nat} {ps : List Pt} (h : PtsAt W g o ps) {b : Nat} (hne : g ≠ b) (i : Nat) (u : Value) : PtsAt (W.setCell ⟨b, i, none⟩ u) g o ps :=
  ⟨by have := h.lt; simpa [World.setCell] using this, fun k hk => by rw [cell_other W hne]; exact h.x k hk, fun k hk => by rw [cell_other W hne]; exact h.y k hk⟩
theorem ints_one (W : World) (i : Nat) : SlI (W.alloc (.cells #[.int .i64 (i : Int)] 3)) (.slice (some ⟨W.heap.size, 0, none⟩) 1 1) [(i : Int)] := sli_new W [(i : Int)]
set_option maxRecDepth 100000 in
set_option maxHeartbeats 2000000 in
theorem BerthNear_any (zs : List Pt) (a b : Int) (v : Value) (w : World) (hv : SlP w v zs) (hl : zs.length ≤ 9223372036854775807) :
    Calls Try.prog 13 #[v, .agg #[.int .i64 a, .int .i64 b]] w fun e w' => e = .returned (.bool true) ∧ Below w.heap.size w w' := by
  obtain ⟨b0, r0⟩ := box_start w 28 [.int .i64 a, .int .i64 b]
  have HT := Lib.hid (tame_any zs v _ (hv.grow b0) hl)
  have HX := Lib.hid (tameF_ok zs)
  obtain ⟨a', c', rfl, _⟩ := hv
  have B0 := Lib.hid b0
  have R0 := Lib.hid r0
  clear b0 r0
  go_enter Try.func13, Try.ntmps13
  go_wp2_with fail
  refine HT.out.mono ?_
  rintro e w1 ⟨s, rfl, ho, h1⟩
  generalize tameF zs = X at *
  have rr := R0.out.below h1 R0.out.lt
  have R1 := Lib.hid rr
  have B1 := Lib.hid (Below.andThen B0.out h1 (Nat.le_refl _))
  have hg : w.heap.size < (w.alloc (.cells [.int .i64 a, .int .i64 b].toArray 28)).heap.size := R0.out.lt
  obtain ⟨n, hn⟩ : ∃ n, X.length = n := ⟨_, rfl⟩
  obtain ⟨⟨hl1, hl12⟩, hps, hnd⟩ := chkP_iff.1 HX.out
  have HN := Lib.hid hn
  obtain ⟨ax, cx, rfl, hox⟩ := OwnP.open ho
  have HO := Lib.hid ho
  obtain ⟨gx, hgx, rfl, hpx, hcx⟩ : ∃ g, (w.alloc (.cells [.int .i64 a, .int .i64 b].toArray 28)).heap.size ≤ g ∧ ax = some ⟨g, 0, none⟩ ∧ PtsAt w1 g 0 X ∧ X.length ≤ cx := by
    rcases hox with ⟨_, _, h⟩ | h
    · rw [h] at hl1; simp at hl1
    · exact h
  rw [hn] at hl1 hl12 hcx HO ⊢
  have HG := Lib.hid (show w.heap.size < gx by omega)
  have HPX := Lib.hid hpx
  have HL := Lib.hid (And.intro hl1 hl12)
  have HPS := Lib.hid hps
  have HND := Lib.hid hnd
  have k0 := rr.cell 0
  have k1 := rr.cell 1
  simp only [List.getElem?_cons_zero, List.getElem?_cons_succ] at k0 k1
  clear rr h1 hn hps hnd hox ho hg hgx hpx HT hl B0 R0
  go_wp2_with fail
  refine (place_any a b w1).mono ?_
  rintro e w2 ⟨rfl, h2⟩
  have R2 := Lib.hid (R1.out.below h2 R1.out.lt)
  have B2 := Lib.hid (Below.andThen B1.out h2 (Nat.le_refl _))
  have HPX2 := Lib.hid (HPX.out.below h2 HPX.out.lt)
  have rr := R2.out
  have t0 := rr.cell 0
  have t1 := rr.cell 1
  have g0 := frozen_of_row _ w.heap.size 0 _ _ rr
  have g1 := frozen_of_row _ w.heap.size 1 _ _ rr
  simp only [List.getElem?_cons_zero, List.getElem?_cons_succ] at t0 t1
  clear rr h2 k0 k1 R1 B1 HPX
  have HPB := Lib.hid (And.intro (plN_bd a) (plN_bd b))
  generalize plN a = p1 at *
  generalize plN b = p2 at *
  have hr3 := (R2.out.set 0 (.int .i64 p1)).set 1 (.int .i64 p2)
  simp only [List.set_cons_zero, List.set_cons_succ] at hr3
  have R3 := Lib.hid hr3
  have B3 := Lib.hid (show Below w.heap.size w ((w2.setCell ⟨w.heap.size, 0, none⟩ (.int .i64 p1)).setCell ⟨w.heap.size, 1, none⟩ (.int .i64 p2)) from (B2.out.setCell (p := ⟨w.heap.size, 0, none⟩) (by dsimp only; omega) _).setCell (p := ⟨w.heap.size, 1, none⟩) (by dsimp only; omega) _)
  have hne : gx ≠ w.heap.size := by have := HG.out; omega
  have HP3 := Lib.hid ((HPX2.out.set hne 0 (.int .i64 p1)).set hne 1 (.int .i64 p2))
  clear hne hr3
  go_wp2_with fail
  have b3 := B3.out
  have r3 := R3.out
  have p3 := HP3.out
  generalize (w2.setCell ⟨w.heap.size, 0, none⟩ (.int .i64 p1)).setCell ⟨w.heap.size, 1, none⟩ (.int .i64 p2) = w3 at *
  have HSL := Lib.hid (show SlP w3 (.slice (some ⟨gx, 0, none⟩) n cx) X from ⟨_, cx, by rw [HN.out], by rw [HN.out]; exact hcx, .inr ⟨gx, 0, rfl, p3⟩⟩)
  have hp12 : okP (p1, p2) = true := okP_iff.2 HPB.out
  obtain ⟨i0, t0', hnl, hi0, hmin⟩ := near_head (ps := X) (p := (p1, p2)) (by rw [HN.out]; exact HL.out.1)
  obtain ⟨m0, t1', hfl, hm0, hmax⟩ := far_head (ps := X) (p := (p1, p2)) (by rw [HN.out]; exact HL.out.1)
  have HNR := Lib.hid (fun W (hb : Below w3.heap.size w3 W) => Nearest_ok X _ p1 p2 W (HSL.out.grow hb) HX.out hp12)
  have HFR := Lib.hid (fun W (hb : Below w3.heap.size w3 W) => Farthest_ok X _ p1 p2 W (HSL.out.grow hb) HX.out hp12)
  rw [hnl] at HNR
  rw [hfl] at HFR
  have HI0 := Lib.hid (show i0 < n by rw [← HN.out]; exact hi0)
  have HM0 := Lib.hid (show m0 < n by rw [← HN.out]; exact hm0)
  have HMIN := Lib.hid hmin
  have HMAX := Lib.hid hmax
  clear hnl hfl hi0 hm0 hmin hmax hp12 b3 r3 p3 g0 g1 t0 t1 B2 R2 HPX2
  refine (HNR.out w3 (Below.refl _ _)).mono ?_
  rintro e w4 ⟨s1, rfl, ho1, h4⟩
  have rr := R3.out.below h4 R3.out.lt
  have k0 := rr.cell 0
  have k1 := rr.cell 1
  simp only [List.getElem?_cons_zero, List.getElem?_cons_succ] at k0 k1
  have B4 := Lib.hid h4
  obtain ⟨g1, c1, hs1, hg1, hi1⟩ := own_ints (zs := (i0 :: t0').map natI) (by simpa [List.map_map, Function.comp_def, natI] using ho1) (by simp)
  have O4 := Lib.hid ho1
  have HI4 := Lib.hid (And.intro hg1 hi1)
  subst hs1
  clear rr h4 ho1 hg1 hi1 HNR
  go_wp2_with fail
  refine (HFR.out w4 B4.out).mono ?_
  rintro e w5 ⟨s2, rfl, ho2, h5⟩
  have B5 := Lib.hid (Below.andThen B4.out h5 (Nat.le_refl _))
  obtain ⟨g2, c2, hs2, hg2, hi2⟩ := own_ints (zs := (m0 :: t1').map natI) (by simpa [List.map_map, Function.comp_def, natI] using ho2) (by simp)
  subst hs2
  have HC1 := Lib.hid (show w5.cell? ⟨g1, 0, none⟩ = some (.int .i64 (i0 : Int)) from below_at h5 HI4.out.1 (HI4.out.2.at_ 0 (by simp)))
  have HC2 := Lib.hid (show w5.cell? ⟨g2, 0, none⟩ = some (.int .i64 (m0 : Int)) from hi2.at_ 0 (by simp))
  have HGL := Lib.hid (And.intro (show g1 < w5.heap.size from Nat.lt_of_lt_of_le HI4.out.1 h5.size) hg2)
  rw [List.length_map, List.length_cons] at *
  generalize t0'.length = l1 at *
  generalize t1'.length = l2 at *
  have f1 : decide ((l1 : Int) + 1 < 1) = false := decide_eq_false (by omega)
  have f2 : decide ((l2 : Int) + 1 < 1) = false := decide_eq_false (by omega)
  have f3 : decide ((i0 : Int) < 0) = false := decide_eq_false (by omega)
  have f4 : decide ((m0 : Int) < 0) = false := decide_eq_false (by omega)
  have f5 : decide ((n : Int) ≤ (i0 : Int)) = false := decide_eq_false (by have := HI0.out; omega)
  have f6 : decide ((n : Int) ≤ (m0 : Int)) = false := decide_eq_false (by have := HM0.out; omega)
  have f7 : decide (n ≤ i0) = false := decide_eq_false (by have := HI0.out; omega)
  have f8 : decide (n ≤ m0) = false := decide_eq_false (by have := HM0.out; omega)
  have c10 := HC1.out
  have c20 := HC2.out
  have R5 := Lib.hid (R3.out.below B5.out R3.out.lt)
  clear k0 k1 h5 ho2 hi2 hg2 HFR HI4 O4 B4 R3
  go_wp2_with fail
  clear f1 f2 f3 f4 f5 f6 f7 f8 c10 c20
  go_loopw [10] (fun iv wr => ∃ i : Nat, i ≤ n ∧ iv = .int .i64 (i : Int) ∧ Hid (Below w5.heap.size w5 wr)) (fun iv _ => (n - intOf iv).toNat)
  case atStart => exact ⟨0, by omega, rfl, Lib.hid (Below.refl _ _)⟩
  case round =>
    obtain ⟨i, hk, rfl, HB⟩ := hrel
    have iw : IntKind.i64.wrap ((i : Int) + 1) = ((i + 1 : Nat) : Int) := by have := HL.out.2; rw [i64_of _ (by omega) (by omega)]; omega
    by_cases hlt : i < n
    · have hd : decide ((i : Int) < (n : Int)) = true := decide_eq_true (by omega)
      have hdn : decide (i < n) = true := decide_eq_true hlt
      have li : i < X.length := by rw [HN.out]; exact hlt
      have l0 : i0 < X.length := by rw [HN.out]; exact HI0.out
      have lm : m0 < X.length := by rw [HN.out]; exact HM0.out
      have hd1 := HMIN.out i li
      have hd2 := HMAX.out i li
      have hqi := near_own HND.out li
      rw [ptAt_lt li, ptAt_lt l0] at hd1
      rw [ptAt_lt li, ptAt_lt lm] at hd2
      rw [ptAt_lt li] at hqi
      have qi := HPS.out _ (List.getElem_mem li)
      have q0 := HPS.out _ (List.getElem_mem l0)
      have qm := HPS.out _ (List.getElem_mem lm)
      have HXI := Lib.hid (And.intro (fun W (hb : Below w3.heap.size w3 W) => by have h := (HP3.out.grow hb).x i li; rwa [Nat.zero_add] at h) (fun W (hb : Below w3.heap.size w3 W) => by have h := (HP3.out.grow hb).y i li; rwa [Nat.zero_add] at h))
      have HX0 := Lib.hid (And.intro (fun W (hb : Below w3.heap.size w3 W) => by have h := (HP3.out.grow hb).x i0 l0; rwa [Nat.zero_add] at h) (fun W (hb : Below w3.heap.size w3 W) => by have h := (HP3.out.grow hb).y i0 l0; rwa [Nat.zero_add] at h))
      have HXM := Lib.hid (And.intro (fun W (hb : Below w3.heap.size w3 W) => by have h := (HP3.out.grow hb).x m0 lm; rwa [Nat.zero_add] at h) (fun W (hb : Below w3.heap.size w3 W) => by have h := (HP3.out.grow hb).y m0 lm; rwa [Nat.zero_add] at h))
      generalize X[i] = pi at *
      generalize X[i0] = po at *
      generalize X[m0] = pm at *
      clear li l0 lm
      obtain ⟨xi, yi⟩ := pi
      obtain ⟨xo, yo⟩ := po
      obtain ⟨xm, ym⟩ := pm
      dsimp only at *
      have HFI := Lib.hid (fun (W : World) => Far_any xi yi p1 p2 W qi.1 qi.2 HPB.out.1 HPB.out.2)
      have HFO := Lib.hid (fun (W : World) => Far_any xo yo p1 p2 W q0.1 q0.2 HPB.out.1 HPB.out.2)
      have HFM := Lib.hid (fun (W : World) => Far_any xm ym p1 p2 W qm.1 qm.2 HPB.out.1 HPB.out.2)
      have HNI := Lib.hid (fun W (hb : Below w3.heap.size w3 W) => Nearest_ok X _ xi yi W (HSL.out.grow hb) HX.out (okP_iff.2 qi))
      rw [hqi] at HNI
      generalize fd (xi, yi) (p1, p2) = DI at *
      generalize fd (xo, yo) (p1, p2) = DO at *
      generalize fd (xm, ym) (p1, p2) = DM at *
      have HD := Lib.hid (And.intro (show decide (DI < DO) = false from decide_eq_false (by omega)) (show decide (DM < DI) = false from decide_eq_false (by omega)))
      have BB := Lib.hid (Below.andThen B5.out HB.out (Nat.le_refl _))
      have R6 := Lib.hid (R5.out.below HB.out R5.out.lt)
      have D1 := Lib.hid (below_at HB.out HGL.out.1 HC1.out)
      have D2 := Lib.hid (below_at HB.out HGL.out.2 HC2.out)
      have HGW := Lib.hid (And.intro (show g1 < wr.heap.size from Nat.lt_of_lt_of_le HGL.out.1 HB.out.size) (show g2 < wr.heap.size from Nat.lt_of_lt_of_le HGL.out.2 HB.out.size))
      clear hd1 hd2 hqi qi q0 qm
      go_wp2_with fail
      refine wp_region_box (by kernel_rfl) (by kernel_rfl) [80, 81, 82, 83, 84, 85, 11] [(fun v => v = .slice (some ⟨gx, 0, none⟩) n cx), (fun v => v = .int .i64 (i : Int)), (fun v => v = .pointer (some ⟨gx, i * 2, none⟩)), (fun v => v = .agg #[.int .i64 xi, .int .i64 yi]), (fun v => v = .agg #[.int .i64 p1, .int .i64 p2]), (fun v => v = .int .i64 DI), (fun v => v = .int .i64 DI)] [none, none, none, none, none, none, none] [none, none, none, none, none, none, none] 7 rfl (by kernel_rfl) ?tr ⟨[u80, u81, u82, u83, u84, u85, u11], by simp only [putAll, Act.put, List.setIfInBounds_toArray, List.set_cons_succ, List.set_cons_zero], rfl⟩ ?steps ?fin
      case tr =>
        rintro i v h
        rcases i with _ | _ | _ | _ | _ | _ | _ | i
        all_goals first | trivial | (exfalso; rcases h with h | h <;> simp at h)
      case steps =>
        simp only [boxSteps, Nat.reduceAdd, Nat.zero_add, List.getD_cons_succ, List.getD_cons_zero]
        refine ⟨?_, ?_, ?_, ?_, ?_, ?_, ?_, trivial⟩
        · rintro vs W K hc hvl hw hK
          obtain ⟨x0, x1, x2, x3, x4, x5, x6, rfl⟩ := len7 hvl
          have HK := Lib.hid hK
          have HC := Lib.hid hc
          have HW := Lib.hid hw
          clear hK hc hw hvl
          simp only [putAll, Act.put, List.setIfInBounds_toArray, List.set_cons_succ, List.set_cons_zero]
          clear HW
          go_wp2_with fail
          have fin := HK.out (.slice (some ⟨gx, 0, none⟩) n cx) W (Below.refl _ _) rfl
          simp only [putAll, Act.put, List.setIfInBounds_toArray, List.set_cons_succ, List.set_cons_zero] at fin
          exact fin
        · rintro vs W K hc hvl hw hK
          obtain ⟨x0, x1, x2, x3, x4, x5, x6, rfl⟩ := len7 hvl
          have HK := Lib.hid hK
          have HC := Lib.hid hc
          have HW := Lib.hid hw
          clear hK hc hw hvl
          simp only [putAll, Act.put, List.setIfInBounds_toArray, List.set_cons_succ, List.set_cons_zero]
          clear HW
          go_wp2_with fail
          have fin := HK.out (.int .i64 (i : Int)) W (Below.refl _ _) rfl
          simp only [putAll, Act.put, List.setIfInBounds_toArray, List.set_cons_succ, List.set_cons_zero] at fin
          exact fin
        · rintro vs W K hc hvl hw hK
          obtain ⟨x0, x1, x2, x3, x4, x5, x6, rfl⟩ := len7 hvl
          have HK := Lib.hid hK
          have HC := Lib.hid hc
          have HW := Lib.hid hw
          clear hK hc hw hvl
          obtain rfl : x0 = .slice (some ⟨gx, 0, none⟩) n cx := box_get (HW.out ⟨0, .data⟩ (by simp) rfl) rfl
          obtain rfl : x1 = .int .i64 (i : Int) := box_get (HW.out ⟨1, .data⟩ (by simp) rfl) rfl
          simp only [putAll, Act.put, List.setIfInBounds_toArray, List.set_cons_succ, List.set_cons_zero]
          have hi1 : (i : Int) < (n : Int) := by omega
          clear HW
          go_wp2_with fail
          have fin := HK.out (.pointer (some ⟨gx, i * 2, none⟩)) W (Below.refl _ _) rfl
          simp only [putAll, Act.put, List.setIfInBounds_toArray, List.set_cons_succ, List.set_cons_zero] at fin
          exact fin
        · rintro vs W K hc hvl hw hK
          obtain ⟨x0, x1, x2, x3, x4, x5, x6, rfl⟩ := len7 hvl
          have HK := Lib.hid hK
          have HC := Lib.hid hc
          have HW := Lib.hid hw
          clear hK hc hw hvl
          obtain rfl : x2 = .pointer (some ⟨gx, i * 2, none⟩) := box_get (HW.out ⟨2, .data⟩ (by simp) rfl) rfl
          simp only [putAll, Act.put, List.setIfInBounds_toArray, List.set_cons_succ, List.set_cons_zero]
          have d0 := HXI.out.1 W (Below.andThen BB.out HC.out (Nat.le_refl _))
          have d1 := HXI.out.2 W (Below.andThen BB.out HC.out (Nat.le_refl _))
          clear HW
          go_wp2_with fail
          have fin := HK.out (.agg #[.int .i64 xi, .int .i64 yi]) W (Below.refl _ _) rfl
          simp only [putAll, Act.put, List.setIfInBounds_toArray, List.set_cons_succ, List.set_cons_zero] at fin
          exact fin
        · rintro vs W K hc hvl hw hK
          obtain ⟨x0, x1, x2, x3, x4, x5, x6, rfl⟩ := len7 hvl
          have HK := Lib.hid hK
          have HC := Lib.hid hc
          have HW := Lib.hid hw
          clear hK hc hw hvl
          simp only [putAll, Act.put, List.setIfInBounds_toArray, List.set_cons_succ, List.set_cons_zero]
          have rr := R6.out.below HC.out R6.out.lt
          have d0 := rr.cell 0
          have d1 := rr.cell 1
          simp only [List.getElem?_cons_zero, List.getElem?_cons_succ] at d0 d1
          clear rr
          clear HW
          go_wp2_with fail
          have fin := HK.out (.agg #[.int .i64 p1, .int .i64 p2]) W (Below.refl _ _) rfl
          simp only [putAll, Act.put, List.setIfInBounds_toArray, List.set_cons_succ, List.set_cons_zero] at fin
          exact fin
        · rintro vs W K hc hvl hw hK
          obtain ⟨x0, x1, x2, x3, x4, x5, x6, rfl⟩ := len7 hvl
          have HK := Lib.hid hK
          have HC := Lib.hid hc
          have HW := Lib.hid hw
          clear hK hc hw hvl
          obtain rfl : x3 = .agg #[.int .i64 xi, .int .i64 yi] := box_get (HW.out ⟨3, .data⟩ (by simp) rfl) rfl
          obtain rfl : x4 = .agg #[.int .i64 p1, .int .i64 p2] := box_get (HW.out ⟨4, .data⟩ (by simp) rfl) rfl
          simp only [putAll, Act.put, List.setIfInBounds_toArray, List.set_cons_succ, List.set_cons_zero]
          clear HW
          go_wp2_with fail
          refine (HFI.out W).mono ?_
          rintro e W' ⟨rfl, hb'⟩
          have HB' := Lib.hid hb'
          clear hb'
          go_wp2_with fail
          have fin := HK.out (.int .i64 DI) W' HB'.out rfl
          simp only [putAll, Act.put, List.setIfInBounds_toArray, List.set_cons_succ, List.set_cons_zero] at fin
          exact fin
        · rintro vs W K hc hvl hw hK
          obtain ⟨x0, x1, x2, x3, x4, x5, x6, rfl⟩ := len7 hvl
          have HK := Lib.hid hK
          have HC := Lib.hid hc
          have HW := Lib.hid hw
          clear hK hc hw hvl
          obtain rfl : x5 = .int .i64 DI := box_get (HW.out ⟨5, .data⟩ (by simp) rfl) rfl
          simp only [putAll, Act.put, List.setIfInBounds_toArray, List.set_cons_succ, List.set_cons_zero]
          clear HW
          go_wp2_with fail
          have fin := HK.out (.int .i64 DI) W (Below.refl _ _) rfl
          simp only [putAll, Act.put, List.setIfInBounds_toArray, List.set_cons_succ, List.set_cons_zero] at fin
          exact fin
      case fin =>
        rintro vs W hJ
        obtain ⟨x0, x1, x2, x3, x4, x5, x6, rfl⟩ := len7 hJ.ln
        obtain rfl : x6 = .int .i64 DI := box_get (hJ.val 6 rfl) rfl
        have HC := Lib.hid hJ.bl
        clear hJ
        simp only [putAll, Act.put, List.setIfInBounds_toArray, List.set_cons_succ, List.set_cons_zero]
        have BB7 := Lib.hid (Below.andThen BB.out HC.out (Nat.le_refl _))
        have B73 := Lib.hid (Below.andThen HB.out HC.out (Nat.le_refl _))
        have R7 := Lib.hid (R6.out.below HC.out R6.out.lt)
        have D17 := Lib.hid (below_at HC.out HGW.out.1 D1.out)
        have D27 := Lib.hid (below_at HC.out HGW.out.2 D2.out)
        have HGW7 := Lib.hid (And.intro (show g1 < W.heap.size from Nat.lt_of_lt_of_le HGW.out.1 HC.out.size) (show g2 < W.heap.size from Nat.lt_of_lt_of_le HGW.out.2 HC.out.size))
        clear HC R6 D1 D2 HGW HFI BB
        go_wp2_with fail
        refine wp_region_box (by kernel_rfl) (by kernel_rfl) [86, 87, 88, 89, 90, 91, 92, 93, 94, 95, 96, 97, 98, 99, 100, 101, 102, 103, 104, 105, 106, 107] [(fun v => v = .int .i64 DI), (fun v => v = .slice (some ⟨gx, 0, none⟩) n cx), (fun v => v = .slice (some ⟨g1, 0, none⟩) (l1 + 1) c1), (fun v => v = .pointer (some ⟨g1, 0, none⟩)), (fun v => v = .int .i64 (i0 : Int)), (fun v => v = .pointer (some ⟨gx, i0 * 2, none⟩)), (fun v => v = .agg #[.int .i64 xo, .int .i64 yo]), (fun v => v = .agg #[.int .i64 p1, .int .i64 p2]), (fun v => v = .int .i64 DO), (fun v => v = .bool false), (fun v => v = .bool false), (fun v => v = .int .i64 DI), (fun v => v = .slice (some ⟨gx, 0, none⟩) n cx), (fun v => v = .slice (some ⟨g2, 0, none⟩) (l2 + 1) c2), (fun v => v = .pointer (some ⟨g2, 0, none⟩)), (fun v => v = .int .i64 (m0 : Int)), (fun v => v = .pointer (some ⟨gx, m0 * 2, none⟩)), (fun v => v = .agg #[.int .i64 xm, .int .i64 ym]), (fun v => v = .agg #[.int .i64 p1, .int .i64 p2]), (fun v => v = .int .i64 DM), (fun v => v = .bool false), (fun v => v = .bool false)] [none, none, none, none, none, none, none, none, none, none, none, none, none, none, none, none, none, none, none, none, none, none] [none, none, none, none, none, none, none, none, none, none, none, none, none, none, none, none, none, none, none, none, none, none] 22 rfl (by kernel_rfl) ?tr ⟨[u86, u87, u88, u89, u90, u91, u92, u93, u94, u95, u96, u97, u98, u99, u100, u101, u102, u103, u104, u105, u106, u107], by simp only [putAll, Act.put, List.setIfInBounds_toArray, List.set_cons_succ, List.set_cons_zero], rfl⟩ ?steps ?fin
        case tr =>
          rintro i v h
          rcases i with _ | _ | _ | _ | _ | _ | _ | _ | _ | _ | _ | _ | _ | _ | _ | _ | _ | _ | _ | _ | _ | _ | i
          all_goals first | trivial | (exfalso; rcases h with h | h <;> simp at h)
        case steps =>
          simp only [boxSteps, Nat.reduceAdd, Nat.zero_add, List.getD_cons_succ, List.getD_cons_zero]
          refine ⟨?_, ?_, ?_, ?_, ?_, ?_, ?_, ?_, ?_, ?_, ?_, ?_, ?_, ?_, ?_, ?_, ?_, ?_, ?_, ?_, ?_, ?_, trivial⟩
          · rintro vs W K hc hvl hw hK
            obtain ⟨x0, x1, x2, x3, x4, x5, x6, x7, x8, x9, x10, x11, x12, x13, x14, x15, x16, x17, x18, x19, x20, x21, rfl⟩ := len22 hvl
            have HK := Lib.hid hK
            have HC := Lib.hid hc
            have HW := Lib.hid hw
            clear hK hc hw hvl
            simp only [putAll, Act.put, List.setIfInBounds_toArray, List.set_cons_succ, List.set_cons_zero]
            clear HW
            go_wp2_with fail
            have fin := HK.out (.int .i64 DI) W (Below.refl _ _) rfl
            simp only [putAll, Act.put, List.setIfInBounds_toArray, List.set_cons_succ, List.set_cons_zero] at fin
            exact fin
          · rintro vs W K hc hvl hw hK
            obtain ⟨x0, x1, x2, x3, x4, x5, x6, x7, x8, x9, x10, x11, x12, x13, x14, x15, x16, x17, x18, x19, x20, x21, rfl⟩ := len22 hvl
            have HK := Lib.hid hK
            have HC := Lib.hid hc
            have HW := Lib.hid hw
            clear hK hc hw hvl
            simp only [putAll, Act.put, List.setIfInBounds_toArray, List.set_cons_succ, List.set_cons_zero]
            clear HW
            go_wp2_with fail
            have fin := HK.out (.slice (some ⟨gx, 0, none⟩) n cx) W (Below.refl _ _) rfl
            simp only [putAll, Act.put, List.setIfInBounds_toArray, List.set_cons_succ, List.set_cons_zero] at fin
            exact fin
          · rintro vs W K hc hvl hw hK
            obtain ⟨x0, x1, x2, x3, x4, x5, x6, x7, x8, x9, x10, x11, x12, x13, x14, x15, x16, x17, x18, x19, x20, x21, rfl⟩ := len22 hvl
            have HK := Lib.hid hK
            have HC := Lib.hid hc
            have HW := Lib.hid hw
            clear hK hc hw hvl
            simp only [putAll, Act.put, List.setIfInBounds_toArray, List.set_cons_succ, List.set_cons_zero]
            clear HW
            go_wp2_with fail
            have fin := HK.out (.slice (some ⟨g1, 0, none⟩) (l1 + 1) c1) W (Below.refl _ _) rfl
            simp only [putAll, Act.put, List.setIfInBounds_toArray, List.set_cons_succ, List.set_cons_zero] at fin
            exact fin
          · rintro vs W K hc hvl hw hK
            obtain ⟨x0, x1, x2, x3, x4, x5, x6, x7, x8, x9, x10, x11, x12, x13, x14, x15, x16, x17, x18, x19, x20, x21, rfl⟩ := len22 hvl
            have HK := Lib.hid hK
            have HC := Lib.hid hc
            have HW := Lib.hid hw
            clear hK hc hw hvl
            obtain rfl : x2 = .slice (some ⟨g1, 0, none⟩) (l1 + 1) c1 := box_get (HW.out ⟨2, .data⟩ (by simp) rfl) rfl
            simp only [putAll, Act.put, List.setIfInBounds_toArray, List.set_cons_succ, List.set_cons_zero]
            have hp1 : (0 : Int) < (l1 : Int) + 1 := by omega
            clear HW
            go_wp2_with fail
            have fin := HK.out (.pointer (some ⟨g1, 0, none⟩)) W (Below.refl _ _) rfl
            simp only [putAll, Act.put, List.setIfInBounds_toArray, List.set_cons_succ, List.set_cons_zero] at fin
            exact fin
          · rintro vs W K hc hvl hw hK
            obtain ⟨x0, x1, x2, x3, x4, x5, x6, x7, x8, x9, x10, x11, x12, x13, x14, x15, x16, x17, x18, x19, x20, x21, rfl⟩ := len22 hvl
            have HK := Lib.hid hK
            have HC := Lib.hid hc
            have HW := Lib.hid hw
            clear hK hc hw hvl
            obtain rfl : x3 = .pointer (some ⟨g1, 0, none⟩) := box_get (HW.out ⟨3, .data⟩ (by simp) rfl) rfl
            simp only [putAll, Act.put, List.setIfInBounds_toArray, List.set_cons_succ, List.set_cons_zero]
            have d0 := below_at HC.out HGW7.out.1 D17.out
            clear HW
            go_wp2_with fail
            have fin := HK.out (.int .i64 (i0 : Int)) W (Below.refl _ _) rfl
            simp only [putAll, Act.put, List.setIfInBounds_toArray, List.set_cons_succ, List.set_cons_zero] at fin
            exact fin
          · rintro vs W K hc hvl hw hK
            obtain ⟨x0, x1, x2, x3, x4, x5, x6, x7, x8, x9, x10, x11, x12, x13, x14, x15, x16, x17, x18, x19, x20, x21, rfl⟩ := len22 hvl
            have HK := Lib.hid hK
            have HC := Lib.hid hc
            have HW := Lib.hid hw
            clear hK hc hw hvl
            obtain rfl : x1 = .slice (some ⟨gx, 0, none⟩) n cx := box_get (HW.out ⟨1, .data⟩ (by simp) rfl) rfl
            obtain rfl : x4 = .int .i64 (i0 : Int) := box_get (HW.out ⟨4, .data⟩ (by simp) rfl) rfl
            simp only [putAll, Act.put, List.setIfInBounds_toArray, List.set_cons_succ, List.set_cons_zero]
            have hi1 : (i0 : Int) < (n : Int) := by have := HI0.out; omega
            clear HW
            go_wp2_with fail
            have fin := HK.out (.pointer (some ⟨gx, i0 * 2, none⟩)) W (Below.refl _ _) rfl
            simp only [putAll, Act.put, List.setIfInBounds_toArray, List.set_cons_succ, List.set_cons_zero] at fin
            exact fin
          · rintro vs W K hc hvl hw hK
            obtain ⟨x0, x1, x2, x3, x4, x5, x6, x7, x8, x9, x10, x11, x12, x13, x14, x15, x16, x17, x18, x19, x20, x21, rfl⟩ := len22 hvl
            have HK := Lib.hid hK
            have HC := Lib.hid hc
            have HW := Lib.hid hw
            clear hK hc hw hvl
            obtain rfl : x5 = .pointer (some ⟨gx, i0 * 2, none⟩) := box_get (HW.out ⟨5, .data⟩ (by simp) rfl) rfl
            simp only [putAll, Act.put, List.setIfInBounds_toArray, List.set_cons_succ, List.set_cons_zero]
            have d0 := HX0.out.1 W (Below.andThen BB7.out HC.out (Nat.le_refl _))
            have d1 := HX0.out.2 W (Below.andThen BB7.out HC.out (Nat.le_refl _))
            clear HW
            go_wp2_with fail
            have fin := HK.out (.agg #[.int .i64 xo, .int .i64 yo]) W (Below.refl _ _) rfl
            simp only [putAll, Act.put, List.setIfInBounds_toArray, List.set_cons_succ, List.set_cons_zero] at fin
            exact fin
          · rintro vs W K hc hvl hw hK
            obtain ⟨x0, x1, x2, x3, x4, x5, x6, x7, x8, x9, x10, x11, x12, x13, x14, x15, x16, x17, x18, x19, x20, x21, rfl⟩ := len22 hvl
            have HK := Lib.hid hK
            have HC := Lib.hid hc
            have HW := Lib.hid hw
            clear hK hc hw hvl
            simp only [putAll, Act.put, List.setIfInBounds_toArray, List.set_cons_succ, List.set_cons_zero]
            have rr := R7.out.below HC.out R7.out.lt
            have d0 := rr.cell 0
            have d1 := rr.cell 1
            simp only [List.getElem?_cons_zero, List.getElem?_cons_succ] at d0 d1
            clear rr
            clear HW
            go_wp2_with fail
            have fin := HK.out (.agg #[.int .i64 p1, .int .i64 p2]) W (Below.refl _ _) rfl
            simp only [putAll, Act.put, List.setIfInBounds_toArray, List.set_cons_succ, List.set_cons_zero] at fin
            exact fin
          · rintro vs W K hc hvl hw hK
            obtain ⟨x0, x1, x2, x3, x4, x5, x6, x7, x8, x9, x10, x11, x12, x13, x14, x15, x16, x17, x18, x19, x20, x21, rfl⟩ := len22 hvl
            have HK := Lib.hid hK
            have HC := Lib.hid hc
            have HW := Lib.hid hw
            clear hK hc hw hvl
            obtain rfl : x6 = .agg #[.int .i64 xo, .int .i64 yo] := box_get (HW.out ⟨6, .data⟩ (by simp) rfl) rfl
            obtain rfl : x7 = .agg #[.int .i64 p1, .int .i64 p2] := box_get (HW.out ⟨7, .data⟩ (by simp) rfl) rfl
            simp only [putAll, Act.put, List.setIfInBounds_toArray, List.set_cons_succ, List.set_cons_zero]
            clear HW
            go_wp2_with fail
            refine (HFO.out W).mono ?_
            rintro e W' ⟨rfl, hb'⟩
            have HB' := Lib.hid hb'
            clear hb'
            go_wp2_with fail
            have fin := HK.out (.int .i64 DO) W' HB'.out rfl
            simp only [putAll, Act.put, List.setIfInBounds_toArray, List.set_cons_succ, List.set_cons_zero] at fin
            exact fin
          · rintro vs W K hc hvl hw hK
            obtain ⟨x0, x1, x2, x3, x4, x5, x6, x7, x8, x9, x10, x11, x12, x13, x14, x15, x16, x17, x18, x19, x20, x21, rfl⟩ := len22 hvl
            have HK := Lib.hid hK
            have HC := Lib.hid hc
            have HW := Lib.hid hw
            clear hK hc hw hvl
            obtain rfl : x0 = .int .i64 DI := box_get (HW.out ⟨0, .data⟩ (by simp) rfl) rfl
            obtain rfl : x8 = .int .i64 DO := box_get (HW.out ⟨8, .data⟩ (by simp) rfl) rfl
            simp only [putAll, Act.put, List.setIfInBounds_toArray, List.set_cons_succ, List.set_cons_zero]
            have hd3 := HD.out.1
            clear HW
            go_wp2_with fail
            have fin := HK.out (.bool false) W (Below.refl _ _) rfl
            simp only [putAll, Act.put, List.setIfInBounds_toArray, List.set_cons_succ, List.set_cons_zero] at fin
            exact fin
          · rintro vs W K hc hvl hw hK
            obtain ⟨x0, x1, x2, x3, x4, x5, x6, x7, x8, x9, x10, x11, x12, x13, x14, x15, x16, x17, x18, x19, x20, x21, rfl⟩ := len22 hvl
            have HK := Lib.hid hK
            have HC := Lib.hid hc
            have HW := Lib.hid hw
            clear hK hc hw hvl
            obtain rfl : x9 = .bool false := box_get (HW.out ⟨9, .data⟩ (by simp) rfl) rfl
            simp only [putAll, Act.put, List.setIfInBounds_toArray, List.set_cons_succ, List.set_cons_zero]
            clear HW
            go_wp2_with fail
            have fin := HK.out (.bool false) W (Below.refl _ _) rfl
            simp only [putAll, Act.put, List.setIfInBounds_toArray, List.set_cons_succ, List.set_cons_zero] at fin
            exact fin
          · rintro vs W K hc hvl hw hK
            obtain ⟨x0, x1, x2, x3, x4, x5, x6, x7, x8, x9, x10, x11, x12, x13, x14, x15, x16, x17, x18, x19, x20, x21, rfl⟩ := len22 hvl
            have HK := Lib.hid hK
            have HC := Lib.hid hc
            have HW := Lib.hid hw
            clear hK hc hw hvl
            obtain rfl : x10 = .bool false := box_get (HW.out ⟨10, .guard⟩ (by simp) rfl) rfl
            simp only [putAll, Act.put, List.setIfInBounds_toArray, List.set_cons_succ, List.set_cons_zero]
            clear HW
            go_wp2_with fail
            have fin := HK.out (.int .i64 DI) W (Below.refl _ _) rfl
            simp only [putAll, Act.put, List.setIfInBounds_toArray, List.set_cons_succ, List.set_cons_zero] at fin
            exact fin
          · rintro vs W K hc hvl hw hK
            obtain ⟨x0, x1, x2, x3, x4, x5, x6, x7, x8, x9, x10, x11, x12, x13, x14, x15, x16, x17, x18, x19, x20, x21, rfl⟩ := len22 hvl
            have HK := Lib.hid hK
            have HC := Lib.hid hc
            have HW := Lib.hid hw
            clear hK hc hw hvl
            obtain rfl : x10 = .bool false := box_get (HW.out ⟨10, .guard⟩ (by simp) rfl) rfl
            simp only [putAll, Act.put, List.setIfInBounds_toArray, List.set_cons_succ, List.set_cons_zero]
            clear HW
            go_wp2_with fail
            have fin := HK.out (.slice (some ⟨gx, 0, none⟩) n cx) W (Below.refl _ _) rfl
            simp only [putAll, Act.put, List.setIfInBounds_toArray, List.set_cons_succ, List.set_cons_zero] at fin
            exact fin
          · rintro vs W K hc hvl hw hK
            obtain ⟨x0, x1, x2, x3, x4, x5, x6, x7, x8, x9, x10, x11, x12, x13, x14, x15, x16, x17, x18, x19, x20, x21, rfl⟩ := len22 hvl
            have HK := Lib.hid hK
            have HC := Lib.hid hc
            have HW := Lib.hid hw
            clear hK hc hw hvl
            obtain rfl : x10 = .bool false := box_get (HW.out ⟨10, .guard⟩ (by simp) rfl) rfl
            simp only [putAll, Act.put, List.setIfInBounds_toArray, List.set_cons_succ, List.set_cons_zero]
            clear HW
            go_wp2_with fail
            have fin := HK.out (.slice (some ⟨g2, 0, none⟩) (l2 + 1) c2) W (Below.refl _ _) rfl
            simp only [putAll, Act.put, List.setIfInBounds_toArray, List.set_cons_succ, List.set_cons_zero] at fin
            exact fin
          · rintro vs W K hc hvl hw hK
            obtain ⟨x0, x1, x2, x3, x4, x5, x6, x7, x8, x9, x10, x11, x12, x13, x14, x15, x16, x17, x18, x19, x20, x21, rfl⟩ := len22 hvl
            have HK := Lib.hid hK
            have HC := Lib.hid hc
            have HW := Lib.hid hw
            clear hK hc hw hvl
            obtain rfl : x13 = .slice (some ⟨g2, 0, none⟩) (l2 + 1) c2 := box_get (HW.out ⟨13, .data⟩ (by simp) rfl) rfl
            obtain rfl : x10 = .bool false := box_get (HW.out ⟨10, .guard⟩ (by simp) rfl) rfl
            simp only [putAll, Act.put, List.setIfInBounds_toArray, List.set_cons_succ, List.set_cons_zero]
            have hp1 : (0 : Int) < (l2 : Int) + 1 := by omega
            clear HW
            go_wp2_with fail
            have fin := HK.out (.pointer (some ⟨g2, 0, none⟩)) W (Below.refl _ _) rfl
            simp only [putAll, Act.put, List.setIfInBounds_toArray, List.set_cons_succ, List.set_cons_zero] at fin
            exact fin
          · rintro vs W K hc hvl hw hK
            obtain ⟨x0, x1, x2, x3, x4, x5, x6, x7, x8, x9, x10, x11, x12, x13, x14, x15, x16, x17, x18, x19, x20, x21, rfl⟩ := len22 hvl
            have HK := Lib.hid hK
            have HC := Lib.hid hc
            have HW := Lib.hid hw
            clear hK hc hw hvl
            obtain rfl : x14 = .pointer (some ⟨g2, 0, none⟩) := box_get (HW.out ⟨14, .data⟩ (by simp) rfl) rfl
            obtain rfl : x10 = .bool false := box_get (HW.out ⟨10, .guard⟩ (by simp) rfl) rfl
            simp only [putAll, Act.put, List.setIfInBounds_toArray, List.set_cons_succ, List.set_cons_zero]
            have d0 := below_at HC.out HGW7.out.2 D27.out
            clear HW
            go_wp2_with fail
            have fin := HK.out (.int .i64 (m0 : Int)) W (Below.refl _ _) rfl
            simp only [putAll, Act.put, List.setIfInBounds_toArray, List.set_cons_succ, List.set_cons_zero] at fin
            exact fin
          · rintro vs W K hc hvl hw hK
            obtain ⟨x0, x1, x2, x3, x4, x5, x6, x7, x8, x9, x10, x11, x12, x13, x14, x15, x16, x17, x18, x19, x20, x21, rfl⟩ := len22 hvl
            have HK := Lib.hid hK
            have HC := Lib.hid hc
            have HW := Lib.hid hw
            clear hK hc hw hvl
            obtain rfl : x12 = .slice (some ⟨gx, 0, none⟩) n cx := box_get (HW.out ⟨12, .data⟩ (by simp) rfl) rfl
            obtain rfl : x15 = .int .i64 (m0 : Int) := box_get (HW.out ⟨15, .data⟩ (by simp) rfl) rfl
            obtain rfl : x10 = .bool false := box_get (HW.out ⟨10, .guard⟩ (by simp) rfl) rfl
            simp only [putAll, Act.put, List.setIfInBounds_toArray, List.set_cons_succ, List.set_cons_zero]
            have hi1 : (m0 : Int) < (n : Int) := by have := HM0.out; omega
            clear HW
            go_wp2_with fail
            have fin := HK.out (.pointer (some ⟨gx, m0 * 2, none⟩)) W (Below.refl _ _) rfl
            simp only [putAll, Act.put, List.setIfInBounds_toArray, List.set_cons_succ, List.set_cons_zero] at fin
            exact fin
          · rintro vs W K hc hvl hw hK
            obtain ⟨x0, x1, x2, x3, x4, x5, x6, x7, x8, x9, x10, x11, x12, x13, x14, x15, x16, x17, x18, x19, x20, x21, rfl⟩ := len22 hvl
            have HK := Lib.hid hK
            have HC := Lib.hid hc
            have HW := Lib.hid hw
            clear hK hc hw hvl
            obtain rfl : x16 = .pointer (some ⟨gx, m0 * 2, none⟩) := box_get (HW.out ⟨16, .data⟩ (by simp) rfl) rfl
            obtain rfl : x10 = .bool false := box_get (HW.out ⟨10, .guard⟩ (by simp) rfl) rfl
            simp only [putAll, Act.put, List.setIfInBounds_toArray, List.set_cons_succ, List.set_cons_zero]
            have d0 := HXM.out.1 W (Below.andThen BB7.out HC.out (Nat.le_refl _))
            have d1 := HXM.out.2 W (Below.andThen BB7.out HC.out (Nat.le_refl _))
            clear HW
            go_wp2_with fail
            have fin := HK.out (.agg #[.int .i64 xm, .int .i64 ym]) W (Below.refl _ _) rfl
            simp only [putAll, Act.put, List.setIfInBounds_toArray, List.set_cons_succ, List.set_cons_zero] at fin
            exact fin
          · rintro vs W K hc hvl hw hK
            obtain ⟨x0, x1, x2, x3, x4, x5, x6, x7, x8, x9, x10, x11, x12, x13, x14, x15, x16, x17, x18, x19, x20, x21, rfl⟩ := len22 hvl
            have HK := Lib.hid hK
            have HC := Lib.hid hc
            have HW := Lib.hid hw
            clear hK hc hw hvl
            obtain rfl : x10 = .bool false := box_get (HW.out ⟨10, .guard⟩ (by simp) rfl) rfl
            simp only [putAll, Act.put, List.setIfInBounds_toArray, List.set_cons_succ, List.set_cons_zero]
            have rr := R7.out.below HC.out R7.out.lt
            have d0 := rr.cell 0
            have d1 := rr.cell 1
            simp only [List.getElem?_cons_zero, List.getElem?_cons_succ] at d0 d1
            clear rr
            clear HW
            go_wp2_with fail
            have fin := HK.out (.agg #[.int .i64 p1, .int .i64 p2]) W (Below.refl _ _) rfl
            simp only [putAll, Act.put, List.setIfInBounds_toArray, List.set_cons_succ, List.set_cons_zero] at fin
            exact fin
          · rintro vs W K hc hvl hw hK
            obtain ⟨x0, x1, x2, x3, x4, x5, x6, x7, x8, x9, x10, x11, x12, x13, x14, x15, x16, x17, x18, x19, x20, x21, rfl⟩ := len22 hvl
            have HK := Lib.hid hK
            have HC := Lib.hid hc
            have HW := Lib.hid hw
            clear hK hc hw hvl
            obtain rfl : x17 = .agg #[.int .i64 xm, .int .i64 ym] := box_get (HW.out ⟨17, .data⟩ (by simp) rfl) rfl
            obtain rfl : x18 = .agg #[.int .i64 p1, .int .i64 p2] := box_get (HW.out ⟨18, .data⟩ (by simp) rfl) rfl
            obtain rfl : x10 = .bool false := box_get (HW.out ⟨10, .guard⟩ (by simp) rfl) rfl
            simp only [putAll, Act.put, List.setIfInBounds_toArray, List.set_cons_succ, List.set_cons_zero]
            clear HW
            go_wp2_with fail
            refine (HFM.out W).mono ?_
            rintro e W' ⟨rfl, hb'⟩
            have HB' := Lib.hid hb'
            clear hb'
            go_wp2_with fail
            have fin := HK.out (.int .i64 DM) W' HB'.out rfl
            simp only [putAll, Act.put, List.setIfInBounds_toArray, List.set_cons_succ, List.set_cons_zero] at fin
            exact fin
          · rintro vs W K hc hvl hw hK
            obtain ⟨x0, x1, x2, x3, x4, x5, x6, x7, x8, x9, x10, x11, x12, x13, x14, x15, x16, x17, x18, x19, x20, x21, rfl⟩ := len22 hvl
            have HK := Lib.hid hK
            have HC := Lib.hid hc
            have HW := Lib.hid hw
            clear hK hc hw hvl
            obtain rfl : x11 = .int .i64 DI := box_get (HW.out ⟨11, .data⟩ (by simp) rfl) rfl
            obtain rfl : x19 = .int .i64 DM := box_get (HW.out ⟨19, .data⟩ (by simp) rfl) rfl
            obtain rfl : x10 = .bool false := box_get (HW.out ⟨10, .guard⟩ (by simp) rfl) rfl
            simp only [putAll, Act.put, List.setIfInBounds_toArray, List.set_cons_succ, List.set_cons_zero]
            have hd3 := HD.out.2
            clear HW
            go_wp2_with fail
            have fin := HK.out (.bool false) W (Below.refl _ _) rfl
            simp only [putAll, Act.put, List.setIfInBounds_toArray, List.set_cons_succ, List.set_cons_zero] at fin
            exact fin
          · rintro vs W K hc hvl hw hK
            obtain ⟨x0, x1, x2, x3, x4, x5, x6, x7, x8, x9, x10, x11, x12, x13, x14, x15, x16, x17, x18, x19, x20, x21, rfl⟩ := len22 hvl
            have HK := Lib.hid hK
            have HC := Lib.hid hc
            have HW := Lib.hid hw
            clear hK hc hw hvl
            obtain rfl : x10 = .bool false := box_get (HW.out ⟨10, .data⟩ (by simp) rfl) rfl
            obtain rfl : x20 = .bool false := box_get (HW.out ⟨20, .data⟩ (by simp) rfl) rfl
            simp only [putAll, Act.put, List.setIfInBounds_toArray, List.set_cons_succ, List.set_cons_zero]
            clear HW
            go_wp2_with fail
            have fin := HK.out (.bool false) W (Below.refl _ _) rfl
            simp only [putAll, Act.put, List.setIfInBounds_toArray, List.set_cons_succ, List.set_cons_zero] at fin
            exact fin
        case fin =>
          rintro vs W hJ
          obtain ⟨x0, x1, x2, x3, x4, x5, x6, x7, x8, x9, x10, x11, x12, x13, x14, x15, x16, x17, x18, x19, x20, x21, rfl⟩ := len22 hJ.ln
          obtain rfl : x21 = .bool false := box_get (hJ.val 21 rfl) rfl
          have HC := Lib.hid hJ.bl
          clear hJ
          simp only [putAll, Act.put, List.setIfInBounds_toArray, List.set_cons_succ, List.set_cons_zero]
          have BB8 := Lib.hid (Below.andThen BB7.out HC.out (Nat.le_refl _))
          have B38 := Lib.hid (Below.andThen B73.out HC.out (Nat.le_refl _))
          have k0 := HXI.out.1 W BB8.out
          have k1 := HXI.out.2 W BB8.out
          have hi1 : (i : Int) < (n : Int) := by omega
          clear HC BB7 B73 R7 D17 D27 HGW7 HFO HFM
          go_wp2_with fail
          refine (HNI.out W BB8.out).mono ?_
          rintro e w7 ⟨s3, rfl, ho3, h7⟩
          have HS3 := Lib.hid (show SlI w7 s3 [(i : Int)] from sli_own (zs := [(i : Int)]) ho3)
          have B39 := Lib.hid (Below.andThen B38.out h7 (Nat.le_refl _))
          clear h7 ho3 k0 k1 HNI B38
          go_wp2_with fail
          have hi9 := ints_sli [(i : Int)] [(i : Int)] s3 (.slice (some ⟨w7.heap.size, 0, none⟩) 1 1) (w7.alloc (.cells #[.int .i64 (i : Int)] 3)) (HS3.out.grow (Below.al (Below.refl _ _) (Nat.le_refl _) _)) (ints_one w7 i) (by simp) (by simp)
          rw [decide_eq_true rfl] at hi9
          refine hi9.mono ?_
          rintro e w8 ⟨rfl, h8⟩
          have B40 := Lib.hid (Below.andThen B39.out (Below.andThen (Below.al (Below.refl _ _) (Nat.le_refl _) _) h8 (Nat.le_refl _)) (Nat.le_refl _))
          clear hi9 h8 B39 HS3
          go_wp2_with fail
          exact ⟨⟨i + 1, by omega, rfl, Lib.hid B40.out⟩, by simp [intOf]; omega⟩
    · have hd : decide ((i : Int) < (n : Int)) = false := decide_eq_false (by omega)
      have hdn : decide (i < n) = false := decide_eq_false hlt
      go_wp2_with fail
      refine (awake_any wr).mono ?_
      rintro e w9 ⟨rfl, h9⟩
      have B9 := Lib.hid (Below.andThen (Below.andThen (Below.andThen B3.out B5.out (Nat.le_refl _)) HB.out (Nat.le_refl _)) h9 (Nat.le_refl _))
      clear h9
      go_wp2_with fail
      go_ret
      exact ⟨rfl, B9.out⟩
end Go.Proofs.Ytlemipnplgbckaa
