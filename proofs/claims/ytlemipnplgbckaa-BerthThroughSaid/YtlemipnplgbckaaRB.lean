import Derived.Test.YtlemipnplgbckaaMG
import Derived.Test.YtlemipnplgbckaaME
import Derived.Laws.AppendOwn
import Derived.ChangeKeysEq
import Derived.Maps.RangeWalk
import Derived.Maps.OwnIn
import Derived.Maps.AppendAt
import Derived.RangeFuncNested
import Derived.RangeFuncBound
import Derived.RangeFuncCalls
import Derived.RangeFuncLeaves
import Derived.Shelf.Abstract
import Derived.Shelf.RegionOpen
import Derived.WalkKit
import Derived.WalkMore
import Derived.OwnWalkIn
import Derived.TacticsInMore
import Derived.LoopNIn
import Derived.LoopIn
import Derived.WalkSpells
import Derived.WalkLawsBesides
import Derived.BigQuiet
import Derived.Deep.QuietTactic
import Derived.Lib.Hide
import Derived.Deep.RegionHeld3
import Derived.StillTailTactics
import Derived.Deep.LoopGhost
import Derived.Maps.OwnSet
import Derived.Lib.IndexAny
import Derived.Sort.QuietThIn
import Derived.Sort.QuietTacIn
import Derived.Sort.BigQuietIn
import Derived.Laws.OwnMore
import Derived.DeepKeys4
import Derived.Maps.Views
import Derived.Maps.OwnOps
import Derived.Deep.DeepCutAuto
namespace Go.Proofs.Ytlemipnplgbckaa
open Go.RowKit Go.Shelf
attribute [local go_sem] Oper.semAt_some
theorem ovE_val (a b : Pt) : ovE a b = if okP a = true ∧ okP b = true then 0 else 1 := by unfold ovE; simp [List.all]
theorem ovR_val (a b : Pt) : ovR' a b = if okP a = true ∧ okP b = true then ovC a b else ⟨0, 0, 0, 0⟩ := by unfold ovR'; simp [List.all]
theorem trE_val (a b c : Pt) : trE a b c = if okP a = true ∧ okP b = true ∧ okP c = true then (if thD a b c = 0 then 4 else 0) else 1 := by unfold trE; simp [List.all]
theorem trC_val (a b c : Pt) : trC a b c = if (okP a = true ∧ okP b = true ∧ okP c = true) ∧ thD a b c ≠ 0 then thC a b c else ⟨0, 0, 0, 0⟩ := by unfold trC; simp [List.all]
theorem three_start (w : World) (a1 a2 b1 b2 c1 c2 : Int) : ∃ V, V = ((w.alloc (.cells #[.int .i64 a1, .int .i64 a2] 28)).alloc (.cells #[.int .i64 b1, .int .i64 b2] 28)).alloc (.cells #[.int .i64 c1, .int .i64 c2] 28) ∧
    Row V w.heap.size 28 [.int .i64 a1, .int .i64 a2] ∧ Row V (w.heap.size + 1) 28 [.int .i64 b1, .int .i64 b2] ∧ Row V (w.heap.size + 1 + 1) 28 [.int .i64 c1, .int .i64 c2] ∧ Below w.heap.size w V := by
  obtain ⟨V1, hV, r1, r2, b1', hs⟩ := two_start w 28 28 [.int .i64 a1, .int .i64 a2] [.int .i64 b1, .int .i64 b2]
  obtain ⟨b2', r3⟩ := box_start V1 28 [.int .i64 c1, .int .i64 c2]
  exact ⟨V1.alloc (.cells [.int .i64 c1, .int .i64 c2].toArray 28), by rw [hV], r1.below b2' r1.lt, r2.below b2' r2.lt, by rw [← hs]; exact r3, Below.andThen b1' b2' (Nat.le_refl _)⟩
set_option maxRecDepth 100000 in
set_option maxHeartbeats 2000000 in
theorem BerthThrough_any (s1 s2 t1 t2 r1 r2 : Int) (w : World) :
    Calls Try.prog 5 #[.agg #[.int .i64 s1, .int .i64 s2], .agg #[.int .i64 t1, .int .i64 t2], .agg #[.int .i64 r1, .int .i64 r2]] w fun e w' => e = .returned (.bool true) ∧ Below w.heap.size w w' := by
  obtain ⟨V, hV, ra, rb, rc, bV⟩ := three_start w s1 s2 t1 t2 r1 r2
  have HS := Lib.hid (And.intro ra (And.intro rb (And.intro rc bV)))
  clear ra rb rc bV
  go_enter Try.func5, Try.ntmps5
  go_wp2_with fail
  rw [← hV]
  clear hV
  go_loopw [7] (fun iv wr => ∃ k : Nat, k ≤ 2 ∧ iv = .int .i64 (k : Int) ∧ Hid (∃ a1 a2 b1 b2 c1 c2 : Int, Row wr w.heap.size 28 [.int .i64 a1, .int .i64 a2] ∧ Row wr (w.heap.size + 1) 28 [.int .i64 b1, .int .i64 b2] ∧ Row wr (w.heap.size + 1 + 1) 28 [.int .i64 c1, .int .i64 c2] ∧ Below w.heap.size w wr)) (fun iv _ => (2 - intOf iv).toNat)
  case atStart => exact ⟨0, by omega, rfl, Lib.hid ⟨_, _, _, _, _, _, HS.out⟩⟩
  case round =>
    obtain ⟨k, hk, rfl, HB⟩ := hrel
    have iw : IntKind.i64.wrap ((k : Int) + 1) = ((k + 1 : Nat) : Int) := by rw [i64_of _ (by omega) (by omega)]; omega
    by_cases hlt : k < 2
    · have hd : decide ((k : Int) < 2) = true := decide_eq_true (by omega)
      obtain ⟨a1, a2, b1, b2, c1, c2, ra, rb, rc, bw⟩ := HB.out
      clear HB HS
      have HOV := Lib.hid (fun W => Over_any a1 a2 b1 b2 W)
      have HTH := Lib.hid (fun W => Through_any a1 a2 b1 b2 c1 c2 W)
      have HIA := Lib.hid (fun W => In_any a1 a2 W)
      have HIB := Lib.hid (fun W => In_any b1 b2 W)
      have HIC := Lib.hid (fun W => In_any c1 c2 W)
      have HVE := Lib.hid (ovE_val (a1, a2) (b1, b2))
      have HVR := Lib.hid (ovR_val (a1, a2) (b1, b2))
      have HTE := Lib.hid (trE_val (a1, a2) (b1, b2) (c1, c2))
      have HTC := Lib.hid (trC_val (a1, a2) (b1, b2) (c1, c2))
      have HTV := Lib.hid (thrV_eq (a1, a2) (b1, b2) (c1, c2))
      have HRO := Lib.hid (fun (ha : okP (a1, a2) = true) (hb : okP (b1, b2) = true) W => rOver_any a1 a2 b1 b2 W (okP_iff.1 ha).1 (okP_iff.1 ha).2 (okP_iff.1 hb).1 (okP_iff.1 hb).2)
      have HRT := Lib.hid (fun (ha : okP (a1, a2) = true) (hb : okP (b1, b2) = true) (hc : okP (c1, c2) = true) W => rThrough_any a1 a2 b1 b2 c1 c2 W (okP_iff.1 ha).1 (okP_iff.1 ha).2 (okP_iff.1 hb).1 (okP_iff.1 hb).2 (okP_iff.1 hc).1 (okP_iff.1 hc).2)
      have HPA := Lib.hid (fun W => place_any a1 a2 W)
      have HPB := Lib.hid (fun W => place_any b1 b2 W)
      have HPC := Lib.hid (fun W => place_any c1 c2 W)
      generalize okP (a1, a2) = okA at *
      generalize okP (b1, b2) = okB at *
      generalize okP (c1, c2) = okC at *
      generalize ovE (a1, a2) (b1, b2) = OE at *
      generalize ovR' (a1, a2) (b1, b2) = O at *
      generalize trE (a1, a2) (b1, b2) (c1, c2) = TE at *
      generalize trC (a1, a2) (b1, b2) (c1, c2) = T at *
      generalize ovC (a1, a2) (b1, b2) = M at *
      generalize thC (a1, a2) (b1, b2) (c1, c2) = N at *
      generalize thD (a1, a2) (b1, b2) (c1, c2) = D at *
      generalize thrV (a1, a2) (b1, b2) (c1, c2) = TV at *
      obtain ⟨O1, O2, O3, O4⟩ := O
      obtain ⟨T1, T2, T3, T4⟩ := T
      obtain ⟨M1, M2, M3, M4⟩ := M
      obtain ⟨N1, N2, N3, N4⟩ := N
      unfold Cir.V cirV at HOV HTH HTV HRO
      dsimp only at HOV HTH HTV HRO
      have RA := Lib.hid ra
      have RB := Lib.hid rb
      have RC := Lib.hid rc
      have BW := Lib.hid bw
      clear ra rb rc bw
      have qa := RA.out
      have ka0 := qa.cell 0
      have ka1 := qa.cell 1
      have qb := RB.out
      have kb0 := qb.cell 0
      have kb1 := qb.cell 1
      have qc := RC.out
      have kc0 := qc.cell 0
      have kc1 := qc.cell 1
      simp only [List.getElem?_cons_zero, List.getElem?_cons_succ] at ka0 ka1 kb0 kb1 kc0 kc1
      clear qa qb qc
      go_wp2_with fail
      refine (HOV.out _).mono ?_
      rintro e w1 ⟨rfl, h1⟩
      obtain ⟨bb1, rr1⟩ := box_start w1 30 [.int .i64 O1, .int .i64 O2, .int .i64 O3, .int .i64 O4]
      have h1' := Below.andThen h1 bb1 (Nat.le_refl _)
      have RA1 := Lib.hid (RA.out.below h1' RA.out.lt)
      have RB1 := Lib.hid (RB.out.below h1' RB.out.lt)
      have RC1 := Lib.hid (RC.out.below h1' RC.out.lt)
      have BW1 := Lib.hid (Below.andThen BW.out h1' (Nat.le_refl _))
      have RO1 := Lib.hid rr1
      clear h1 h1' bb1 rr1 HOV RA RB RC BW ka0 ka1 kb0 kb1 kc0 kc1
      have qa := RA1.out
      have ka0 := qa.cell 0
      have ka1 := qa.cell 1
      have qb := RB1.out
      have kb0 := qb.cell 0
      have kb1 := qb.cell 1
      have qc := RC1.out
      have kc0 := qc.cell 0
      have kc1 := qc.cell 1
      simp only [List.getElem?_cons_zero, List.getElem?_cons_succ] at ka0 ka1 kb0 kb1 kc0 kc1
      clear qa qb qc
      go_wp2_with fail
      refine (HTH.out _).mono ?_
      rintro e w2 ⟨rfl, h2⟩
      obtain ⟨bb2, rr2⟩ := box_start w2 30 [.int .i64 T1, .int .i64 T2, .int .i64 T3, .int .i64 T4]
      have h2' := Below.andThen h2 bb2 (Nat.le_refl _)
      have RA2 := Lib.hid (RA1.out.below h2' RA1.out.lt)
      have RB2 := Lib.hid (RB1.out.below h2' RB1.out.lt)
      have RC2 := Lib.hid (RC1.out.below h2' RC1.out.lt)
      have BW2 := Lib.hid (Below.andThen BW1.out h2' (Nat.le_refl _))
      have RO2 := Lib.hid (RO1.out.below h2' RO1.out.lt)
      have RT2 := Lib.hid rr2
      clear h2 h2' bb2 rr2 HTH RA1 RB1 RC1 BW1 RO1 ka0 ka1 kb0 kb1 kc0 kc1
      have qa := RA2.out
      have ka0 := qa.cell 0
      have ka1 := qa.cell 1
      have qb := RB2.out
      have kb0 := qb.cell 0
      have kb1 := qb.cell 1
      have qc := RC2.out
      have kc0 := qc.cell 0
      have kc1 := qc.cell 1
      simp only [List.getElem?_cons_zero, List.getElem?_cons_succ] at ka0 ka1 kb0 kb1 kc0 kc1
      clear qa qb qc
      go_wp2_with fail
      refine (HIA.out _).mono ?_
      rintro e w3 ⟨rfl, h3⟩
      have RA3 := Lib.hid (RA2.out.below h3 RA2.out.lt)
      have RB3 := Lib.hid (RB2.out.below h3 RB2.out.lt)
      have RC3 := Lib.hid (RC2.out.below h3 RC2.out.lt)
      have BW3 := Lib.hid (Below.andThen BW2.out h3 (Nat.le_refl _))
      have RO3 := Lib.hid (RO2.out.below h3 RO2.out.lt)
      have RT3 := Lib.hid (RT2.out.below h3 RT2.out.lt)
      clear h3 RA2 RB2 RC2 BW2 RO2 RT2 ka0 ka1 kb0 kb1 kc0 kc1
      cases okA with
      | false =>
        have e1 : OE = 1 := by rw [HVE.out]; simp
        have e2 : (⟨O1, O2, O3, O4⟩ : Cir) = ⟨0, 0, 0, 0⟩ := by rw [HVR.out]; simp
        have e3 : TE = 1 := by rw [HTE.out]; simp
        have e4 : (⟨T1, T2, T3, T4⟩ : Cir) = ⟨0, 0, 0, 0⟩ := by rw [HTC.out]; simp
        injection e2 with f1 f2 f3 f4
        injection e4 with f5 f6 f7 f8
        subst e1 e3 f1 f2 f3 f4 f5 f6 f7 f8
        clear HVE HVR HTE HTC HTV HRO HRT HIB HIC
        have qo := RO3.out
        have o0 := qo.cell 0
        have o1 := qo.cell 1
        have o2 := qo.cell 2
        have o3 := qo.cell 3
        simp only [List.getElem?_cons_zero, List.getElem?_cons_succ] at o0 o1 o2 o3
        clear qo
        have qa := RA3.out
        have ka0 := qa.cell 0
        have ka1 := qa.cell 1
        have qb := RB3.out
        have kb0 := qb.cell 0
        have kb1 := qb.cell 1
        have qc := RC3.out
        have kc0 := qc.cell 0
        have kc1 := qc.cell 1
        simp only [List.getElem?_cons_zero, List.getElem?_cons_succ] at ka0 ka1 kb0 kb1 kc0 kc1
        clear qa qb qc
        go_wp2_with fail
        refine (HIA.out _).mono ?_
        rintro e w4 ⟨rfl, h4⟩
        have RA4 := Lib.hid (RA3.out.below h4 RA3.out.lt)
        have RB4 := Lib.hid (RB3.out.below h4 RB3.out.lt)
        have RC4 := Lib.hid (RC3.out.below h4 RC3.out.lt)
        have RO4 := Lib.hid (RO3.out.below h4 RO3.out.lt)
        have RT4 := Lib.hid (RT3.out.below h4 RT3.out.lt)
        have BW4 := Lib.hid (Below.andThen BW3.out h4 (Nat.le_refl _))
        clear RA3 RB3 RC3 BW3 RO3 RT3
        clear h4 ka0 ka1 kb0 kb1 kc0 kc1 o0 o1 o2 o3
        have qo := RT4.out
        have o0 := qo.cell 0
        have o1 := qo.cell 1
        have o2 := qo.cell 2
        have o3 := qo.cell 3
        simp only [List.getElem?_cons_zero, List.getElem?_cons_succ] at o0 o1 o2 o3
        clear qo
        have qa := RA4.out
        have ka0 := qa.cell 0
        have ka1 := qa.cell 1
        have qb := RB4.out
        have kb0 := qb.cell 0
        have kb1 := qb.cell 1
        have qc := RC4.out
        have kc0 := qc.cell 0
        have kc1 := qc.cell 1
        simp only [List.getElem?_cons_zero, List.getElem?_cons_succ] at ka0 ka1 kb0 kb1 kc0 kc1
        clear qa qb qc
        go_wp2_with fail
        refine (HPA.out _).mono ?_
        rintro e v1 ⟨rfl, g1⟩
        have RAx := Lib.hid (RA4.out.below g1 RA4.out.lt)
        have RBx := Lib.hid (RB4.out.below g1 RB4.out.lt)
        have RCx := Lib.hid (RC4.out.below g1 RC4.out.lt)
        have BWx := Lib.hid (Below.andThen BW4.out g1 (Nat.le_refl _))
        clear g1 HPA RA4 RB4 RC4 BW4 RO4 RT4 ka0 ka1 kb0 kb1 kc0 kc1
        have qq := RAx.out
        have s0 := qq.cell 0
        have s1 := qq.cell 1
        have z0 := frozen_of_row _ (w.heap.size) 0 _ _ qq
        have z1 := frozen_of_row _ (w.heap.size) 1 _ _ qq
        simp only [List.getElem?_cons_zero, List.getElem?_cons_succ] at s0 s1
        have hs := (qq.set 0 (.int .i64 (plN a1))).set 1 (.int .i64 (plN a2))
        simp only [List.set_cons_zero, List.set_cons_succ] at hs
        have RAy := Lib.hid hs
        have RBy := Lib.hid ((RBx.out.other 0 (.int .i64 (plN a1)) (show w.heap.size + 1 ≠ w.heap.size by omega)).other 1 (.int .i64 (plN a2)) (show w.heap.size + 1 ≠ w.heap.size by omega))
        have RCy := Lib.hid ((RCx.out.other 0 (.int .i64 (plN a1)) (show w.heap.size + 1 + 1 ≠ w.heap.size by omega)).other 1 (.int .i64 (plN a2)) (show w.heap.size + 1 + 1 ≠ w.heap.size by omega))
        have BWy := Lib.hid ((BWx.out.setCell (p := ⟨w.heap.size, 0, none⟩) (by dsimp only; omega) (.int .i64 (plN a1))).setCell (p := ⟨w.heap.size, 1, none⟩) (by dsimp only; omega) (.int .i64 (plN a2)))
        clear qq hs RAx RBx RCx BWx
        have qn := RBy.out
        have kb0 := qn.cell 0
        have kb1 := qn.cell 1
        simp only [List.getElem?_cons_zero, List.getElem?_cons_succ] at kb0 kb1
        clear qn
        go_wp2_with fail
        refine (HPB.out _).mono ?_
        rintro e vB ⟨rfl, g1⟩
        have RAx := Lib.hid (RAy.out.below g1 RAy.out.lt)
        have RBx := Lib.hid (RBy.out.below g1 RBy.out.lt)
        have RCx := Lib.hid (RCy.out.below g1 RCy.out.lt)
        have BWx := Lib.hid (Below.andThen BWy.out g1 (Nat.le_refl _))
        clear g1 RAy RBy RCy BWy HPB s0 s1 z0 z1 kb0 kb1
        have qq := RBx.out
        have s0 := qq.cell 0
        have s1 := qq.cell 1
        have z0 := frozen_of_row _ (w.heap.size + 1) 0 _ _ qq
        have z1 := frozen_of_row _ (w.heap.size + 1) 1 _ _ qq
        simp only [List.getElem?_cons_zero, List.getElem?_cons_succ] at s0 s1
        have hs := (qq.set 0 (.int .i64 (plN b1))).set 1 (.int .i64 (plN b2))
        simp only [List.set_cons_zero, List.set_cons_succ] at hs
        have RBy := Lib.hid hs
        have RAy := Lib.hid ((RAx.out.other 0 (.int .i64 (plN b1)) (show w.heap.size ≠ w.heap.size + 1 by omega)).other 1 (.int .i64 (plN b2)) (show w.heap.size ≠ w.heap.size + 1 by omega))
        have RCy := Lib.hid ((RCx.out.other 0 (.int .i64 (plN b1)) (show w.heap.size + 1 + 1 ≠ w.heap.size + 1 by omega)).other 1 (.int .i64 (plN b2)) (show w.heap.size + 1 + 1 ≠ w.heap.size + 1 by omega))
        have BWy := Lib.hid ((BWx.out.setCell (p := ⟨w.heap.size + 1, 0, none⟩) (by dsimp only; omega) (.int .i64 (plN b1))).setCell (p := ⟨w.heap.size + 1, 1, none⟩) (by dsimp only; omega) (.int .i64 (plN b2)))
        clear qq hs RAx RBx RCx BWx
        have qn := RCy.out
        have kc0 := qn.cell 0
        have kc1 := qn.cell 1
        simp only [List.getElem?_cons_zero, List.getElem?_cons_succ] at kc0 kc1
        clear qn
        go_wp2_with fail
        refine (HPC.out _).mono ?_
        rintro e vC ⟨rfl, g1⟩
        have RAx := Lib.hid (RAy.out.below g1 RAy.out.lt)
        have RBx := Lib.hid (RBy.out.below g1 RBy.out.lt)
        have RCx := Lib.hid (RCy.out.below g1 RCy.out.lt)
        have BWx := Lib.hid (Below.andThen BWy.out g1 (Nat.le_refl _))
        clear g1 RAy RBy RCy BWy HPC s0 s1 z0 z1 kc0 kc1
        have qq := RCx.out
        have s0 := qq.cell 0
        have s1 := qq.cell 1
        have z0 := frozen_of_row _ (w.heap.size + 1 + 1) 0 _ _ qq
        have z1 := frozen_of_row _ (w.heap.size + 1 + 1) 1 _ _ qq
        simp only [List.getElem?_cons_zero, List.getElem?_cons_succ] at s0 s1
        have hs := (qq.set 0 (.int .i64 (plN c1))).set 1 (.int .i64 (plN c2))
        simp only [List.set_cons_zero, List.set_cons_succ] at hs
        have RCy := Lib.hid hs
        have RAy := Lib.hid ((RAx.out.other 0 (.int .i64 (plN c1)) (show w.heap.size ≠ w.heap.size + 1 + 1 by omega)).other 1 (.int .i64 (plN c2)) (show w.heap.size ≠ w.heap.size + 1 + 1 by omega))
        have RBy := Lib.hid ((RBx.out.other 0 (.int .i64 (plN c1)) (show w.heap.size + 1 ≠ w.heap.size + 1 + 1 by omega)).other 1 (.int .i64 (plN c2)) (show w.heap.size + 1 ≠ w.heap.size + 1 + 1 by omega))
        have BWy := Lib.hid ((BWx.out.setCell (p := ⟨w.heap.size + 1 + 1, 0, none⟩) (by dsimp only; omega) (.int .i64 (plN c1))).setCell (p := ⟨w.heap.size + 1 + 1, 1, none⟩) (by dsimp only; omega) (.int .i64 (plN c2)))
        clear qq hs RAx RBx RCx BWx
        go_wp2_with fail
        exact ⟨⟨k + 1, by omega, rfl, Lib.hid ⟨_, _, _, _, _, _, RAy.out, RBy.out, RCy.out, BWy.out⟩⟩, by simp [intOf]; omega⟩
      | true =>
        have qa := RA3.out
        have ka0 := qa.cell 0
        have ka1 := qa.cell 1
        have qb := RB3.out
        have kb0 := qb.cell 0
        have kb1 := qb.cell 1
        have qc := RC3.out
        have kc0 := qc.cell 0
        have kc1 := qc.cell 1
        simp only [List.getElem?_cons_zero, List.getElem?_cons_succ] at ka0 ka1 kb0 kb1 kc0 kc1
        clear qa qb qc
        go_wp2_with fail
        refine (HIB.out _).mono ?_
        rintro e w4 ⟨rfl, h4⟩
        have RA4 := Lib.hid (RA3.out.below h4 RA3.out.lt)
        have RB4 := Lib.hid (RB3.out.below h4 RB3.out.lt)
        have RC4 := Lib.hid (RC3.out.below h4 RC3.out.lt)
        have RO4 := Lib.hid (RO3.out.below h4 RO3.out.lt)
        have RT4 := Lib.hid (RT3.out.below h4 RT3.out.lt)
        have BW4 := Lib.hid (Below.andThen BW3.out h4 (Nat.le_refl _))
        clear RA3 RB3 RC3 BW3 RO3 RT3
        clear h4 ka0 ka1 kb0 kb1 kc0 kc1
        cases okB with
        | false =>
          have e1 : OE = 1 := by rw [HVE.out]; simp
          have e2 : (⟨O1, O2, O3, O4⟩ : Cir) = ⟨0, 0, 0, 0⟩ := by rw [HVR.out]; simp
          have e3 : TE = 1 := by rw [HTE.out]; simp
          have e4 : (⟨T1, T2, T3, T4⟩ : Cir) = ⟨0, 0, 0, 0⟩ := by rw [HTC.out]; simp
          injection e2 with f1 f2 f3 f4
          injection e4 with f5 f6 f7 f8
          subst e1 e3 f1 f2 f3 f4 f5 f6 f7 f8
          clear HVE HVR HTE HTC HTV HRO HRT HIC
          have qo := RO4.out
          have o0 := qo.cell 0
          have o1 := qo.cell 1
          have o2 := qo.cell 2
          have o3 := qo.cell 3
          simp only [List.getElem?_cons_zero, List.getElem?_cons_succ] at o0 o1 o2 o3
          clear qo
          have qa := RA4.out
          have ka0 := qa.cell 0
          have ka1 := qa.cell 1
          have qb := RB4.out
          have kb0 := qb.cell 0
          have kb1 := qb.cell 1
          have qc := RC4.out
          have kc0 := qc.cell 0
          have kc1 := qc.cell 1
          simp only [List.getElem?_cons_zero, List.getElem?_cons_succ] at ka0 ka1 kb0 kb1 kc0 kc1
          clear qa qb qc
          go_wp2_with fail
          refine (HIA.out _).mono ?_
          rintro e w5 ⟨rfl, h5⟩
          have RA5 := Lib.hid (RA4.out.below h5 RA4.out.lt)
          have RB5 := Lib.hid (RB4.out.below h5 RB4.out.lt)
          have RC5 := Lib.hid (RC4.out.below h5 RC4.out.lt)
          have RO5 := Lib.hid (RO4.out.below h5 RO4.out.lt)
          have RT5 := Lib.hid (RT4.out.below h5 RT4.out.lt)
          have BW5 := Lib.hid (Below.andThen BW4.out h5 (Nat.le_refl _))
          clear RA4 RB4 RC4 BW4 RO4 RT4
          clear h5 ka0 ka1 kb0 kb1 kc0 kc1 o0 o1 o2 o3
          have qa := RA5.out
          have ka0 := qa.cell 0
          have ka1 := qa.cell 1
          have qb := RB5.out
          have kb0 := qb.cell 0
          have kb1 := qb.cell 1
          have qc := RC5.out
          have kc0 := qc.cell 0
          have kc1 := qc.cell 1
          simp only [List.getElem?_cons_zero, List.getElem?_cons_succ] at ka0 ka1 kb0 kb1 kc0 kc1
          clear qa qb qc
          go_wp2_with fail
          refine (HIB.out _).mono ?_
          rintro e w6 ⟨rfl, h6⟩
          have RA6 := Lib.hid (RA5.out.below h6 RA5.out.lt)
          have RB6 := Lib.hid (RB5.out.below h6 RB5.out.lt)
          have RC6 := Lib.hid (RC5.out.below h6 RC5.out.lt)
          have RO6 := Lib.hid (RO5.out.below h6 RO5.out.lt)
          have RT6 := Lib.hid (RT5.out.below h6 RT5.out.lt)
          have BW6 := Lib.hid (Below.andThen BW5.out h6 (Nat.le_refl _))
          clear RA5 RB5 RC5 BW5 RO5 RT5
          clear h6 ka0 ka1 kb0 kb1 kc0 kc1
          have qo := RT6.out
          have o0 := qo.cell 0
          have o1 := qo.cell 1
          have o2 := qo.cell 2
          have o3 := qo.cell 3
          simp only [List.getElem?_cons_zero, List.getElem?_cons_succ] at o0 o1 o2 o3
          clear qo
          have qa := RA6.out
          have ka0 := qa.cell 0
          have ka1 := qa.cell 1
          have qb := RB6.out
          have kb0 := qb.cell 0
          have kb1 := qb.cell 1
          have qc := RC6.out
          have kc0 := qc.cell 0
          have kc1 := qc.cell 1
          simp only [List.getElem?_cons_zero, List.getElem?_cons_succ] at ka0 ka1 kb0 kb1 kc0 kc1
          clear qa qb qc
          go_wp2_with fail
          refine (HPA.out _).mono ?_
          rintro e v1 ⟨rfl, g1⟩
          have RAx := Lib.hid (RA6.out.below g1 RA6.out.lt)
          have RBx := Lib.hid (RB6.out.below g1 RB6.out.lt)
          have RCx := Lib.hid (RC6.out.below g1 RC6.out.lt)
          have BWx := Lib.hid (Below.andThen BW6.out g1 (Nat.le_refl _))
          clear g1 HPA RA6 RB6 RC6 BW6 RO6 RT6 ka0 ka1 kb0 kb1 kc0 kc1
          have qq := RAx.out
          have s0 := qq.cell 0
          have s1 := qq.cell 1
          have z0 := frozen_of_row _ (w.heap.size) 0 _ _ qq
          have z1 := frozen_of_row _ (w.heap.size) 1 _ _ qq
          simp only [List.getElem?_cons_zero, List.getElem?_cons_succ] at s0 s1
          have hs := (qq.set 0 (.int .i64 (plN a1))).set 1 (.int .i64 (plN a2))
          simp only [List.set_cons_zero, List.set_cons_succ] at hs
          have RAy := Lib.hid hs
          have RBy := Lib.hid ((RBx.out.other 0 (.int .i64 (plN a1)) (show w.heap.size + 1 ≠ w.heap.size by omega)).other 1 (.int .i64 (plN a2)) (show w.heap.size + 1 ≠ w.heap.size by omega))
          have RCy := Lib.hid ((RCx.out.other 0 (.int .i64 (plN a1)) (show w.heap.size + 1 + 1 ≠ w.heap.size by omega)).other 1 (.int .i64 (plN a2)) (show w.heap.size + 1 + 1 ≠ w.heap.size by omega))
          have BWy := Lib.hid ((BWx.out.setCell (p := ⟨w.heap.size, 0, none⟩) (by dsimp only; omega) (.int .i64 (plN a1))).setCell (p := ⟨w.heap.size, 1, none⟩) (by dsimp only; omega) (.int .i64 (plN a2)))
          clear qq hs RAx RBx RCx BWx
          have qn := RBy.out
          have kb0 := qn.cell 0
          have kb1 := qn.cell 1
          simp only [List.getElem?_cons_zero, List.getElem?_cons_succ] at kb0 kb1
          clear qn
          go_wp2_with fail
          refine (HPB.out _).mono ?_
          rintro e vB ⟨rfl, g1⟩
          have RAx := Lib.hid (RAy.out.below g1 RAy.out.lt)
          have RBx := Lib.hid (RBy.out.below g1 RBy.out.lt)
          have RCx := Lib.hid (RCy.out.below g1 RCy.out.lt)
          have BWx := Lib.hid (Below.andThen BWy.out g1 (Nat.le_refl _))
          clear g1 RAy RBy RCy BWy HPB s0 s1 z0 z1 kb0 kb1
          have qq := RBx.out
          have s0 := qq.cell 0
          have s1 := qq.cell 1
          have z0 := frozen_of_row _ (w.heap.size + 1) 0 _ _ qq
          have z1 := frozen_of_row _ (w.heap.size + 1) 1 _ _ qq
          simp only [List.getElem?_cons_zero, List.getElem?_cons_succ] at s0 s1
          have hs := (qq.set 0 (.int .i64 (plN b1))).set 1 (.int .i64 (plN b2))
          simp only [List.set_cons_zero, List.set_cons_succ] at hs
          have RBy := Lib.hid hs
          have RAy := Lib.hid ((RAx.out.other 0 (.int .i64 (plN b1)) (show w.heap.size ≠ w.heap.size + 1 by omega)).other 1 (.int .i64 (plN b2)) (show w.heap.size ≠ w.heap.size + 1 by omega))
          have RCy := Lib.hid ((RCx.out.other 0 (.int .i64 (plN b1)) (show w.heap.size + 1 + 1 ≠ w.heap.size + 1 by omega)).other 1 (.int .i64 (plN b2)) (show w.heap.size + 1 + 1 ≠ w.heap.size + 1 by omega))
          have BWy := Lib.hid ((BWx.out.setCell (p := ⟨w.heap.size + 1, 0, none⟩) (by dsimp only; omega) (.int .i64 (plN b1))).setCell (p := ⟨w.heap.size + 1, 1, none⟩) (by dsimp only; omega) (.int .i64 (plN b2)))
          clear qq hs RAx RBx RCx BWx
          have qn := RCy.out
          have kc0 := qn.cell 0
          have kc1 := qn.cell 1
          simp only [List.getElem?_cons_zero, List.getElem?_cons_succ] at kc0 kc1
          clear qn
          go_wp2_with fail
          refine (HPC.out _).mono ?_
          rintro e vC ⟨rfl, g1⟩
          have RAx := Lib.hid (RAy.out.below g1 RAy.out.lt)
          have RBx := Lib.hid (RBy.out.below g1 RBy.out.lt)
          have RCx := Lib.hid (RCy.out.below g1 RCy.out.lt)
          have BWx := Lib.hid (Below.andThen BWy.out g1 (Nat.le_refl _))
          clear g1 RAy RBy RCy BWy HPC s0 s1 z0 z1 kc0 kc1
          have qq := RCx.out
          have s0 := qq.cell 0
          have s1 := qq.cell 1
          have z0 := frozen_of_row _ (w.heap.size + 1 + 1) 0 _ _ qq
          have z1 := frozen_of_row _ (w.heap.size + 1 + 1) 1 _ _ qq
          simp only [List.getElem?_cons_zero, List.getElem?_cons_succ] at s0 s1
          have hs := (qq.set 0 (.int .i64 (plN c1))).set 1 (.int .i64 (plN c2))
          simp only [List.set_cons_zero, List.set_cons_succ] at hs
          have RCy := Lib.hid hs
          have RAy := Lib.hid ((RAx.out.other 0 (.int .i64 (plN c1)) (show w.heap.size ≠ w.heap.size + 1 + 1 by omega)).other 1 (.int .i64 (plN c2)) (show w.heap.size ≠ w.heap.size + 1 + 1 by omega))
          have RBy := Lib.hid ((RBx.out.other 0 (.int .i64 (plN c1)) (show w.heap.size + 1 ≠ w.heap.size + 1 + 1 by omega)).other 1 (.int .i64 (plN c2)) (show w.heap.size + 1 ≠ w.heap.size + 1 + 1 by omega))
          have BWy := Lib.hid ((BWx.out.setCell (p := ⟨w.heap.size + 1 + 1, 0, none⟩) (by dsimp only; omega) (.int .i64 (plN c1))).setCell (p := ⟨w.heap.size + 1 + 1, 1, none⟩) (by dsimp only; omega) (.int .i64 (plN c2)))
          clear qq hs RAx RBx RCx BWx
          go_wp2_with fail
          exact ⟨⟨k + 1, by omega, rfl, Lib.hid ⟨_, _, _, _, _, _, RAy.out, RBy.out, RCy.out, BWy.out⟩⟩, by simp [intOf]; omega⟩
        | true =>
          have e1 : OE = 0 := by rw [HVE.out]; simp
          have e2 : (⟨O1, O2, O3, O4⟩ : Cir) = ⟨M1, M2, M3, M4⟩ := by rw [HVR.out]; simp
          injection e2 with f1 f2 f3 f4
          subst e1 f1 f2 f3 f4
          clear HVE HVR
          have HRO2 := Lib.hid (HRO.out (by trivial) (by trivial))
          have HCI := Lib.hid (fun W => circle_any O1 O2 O3 O4 W)
          clear HRO
          go_wp2_with fail
          refine wp_region_box (by kernel_rfl) (by kernel_rfl) [46, 47, 48, 49, 50, 51, 52, 53, 54, 55] [(fun v => v = .int .i64 0), (fun v => v = .bool false), (fun v => v = .bool false), (fun v => v = .agg #[.int .i64 O1, .int .i64 O2, .int .i64 O3, .int .i64 O4]), (fun v => v = .agg #[.int .i64 O1, .int .i64 O2, .int .i64 O3, .int .i64 O4]), (fun v => v = .agg #[.int .i64 a1, .int .i64 a2]), (fun v => v = .agg #[.int .i64 b1, .int .i64 b2]), (fun v => v = .agg #[.int .i64 O1, .int .i64 O2, .int .i64 O3, .int .i64 O4]), (fun v => v = .bool false), (fun v => v = .bool false)] [none, none, none, none, none, none, none, none, none, none] [none, none, none, none, none, none, none, none, none, none] 10 rfl (by kernel_rfl) ?tr ⟨[u46, u47, u48, u49, u50, u51, u52, u53, u54, u55], by simp only [putAll, Act.put, List.setIfInBounds_toArray, List.set_cons_succ, List.set_cons_zero], rfl⟩ ?steps ?fin
          case tr =>
            rintro i v h
            rcases i with _ | _ | _ | _ | _ | _ | _ | _ | _ | _ | i
            all_goals first | trivial | (exfalso; rcases h with h | h <;> simp at h)
          case steps =>
            simp only [boxSteps, Nat.reduceAdd, Nat.zero_add, List.getD_cons_succ, List.getD_cons_zero]
            refine ⟨?_, ?_, ?_, ?_, ?_, ?_, ?_, ?_, ?_, ?_, trivial⟩
            · rintro vs W K hc hvl hw hK
              obtain ⟨x0, x1, x2, x3, x4, x5, x6, x7, x8, x9, rfl⟩ := len10 hvl
              have HK := Lib.hid hK
              have HC := Lib.hid hc
              have HW := Lib.hid hw
              clear hK hc hw hvl
              simp only [putAll, Act.put, List.setIfInBounds_toArray, List.set_cons_succ, List.set_cons_zero]
              clear HW
              go_wp2_with fail
              have fin := HK.out (.int .i64 0) W (Below.refl _ _) rfl
              simp only [putAll, Act.put, List.setIfInBounds_toArray, List.set_cons_succ, List.set_cons_zero] at fin
              exact fin
            · rintro vs W K hc hvl hw hK
              obtain ⟨x0, x1, x2, x3, x4, x5, x6, x7, x8, x9, rfl⟩ := len10 hvl
              have HK := Lib.hid hK
              have HC := Lib.hid hc
              have HW := Lib.hid hw
              clear hK hc hw hvl
              obtain rfl : x0 = .int .i64 0 := box_get (HW.out ⟨0, .data⟩ (by simp) rfl) rfl
              simp only [putAll, Act.put, List.setIfInBounds_toArray, List.set_cons_succ, List.set_cons_zero]
              clear HW
              go_wp2_with fail
              have fin := HK.out (.bool false) W (Below.refl _ _) rfl
              simp only [putAll, Act.put, List.setIfInBounds_toArray, List.set_cons_succ, List.set_cons_zero] at fin
              exact fin
            · rintro vs W K hc hvl hw hK
              obtain ⟨x0, x1, x2, x3, x4, x5, x6, x7, x8, x9, rfl⟩ := len10 hvl
              have HK := Lib.hid hK
              have HC := Lib.hid hc
              have HW := Lib.hid hw
              clear hK hc hw hvl
              obtain rfl : x1 = .bool false := box_get (HW.out ⟨1, .data⟩ (by simp) rfl) rfl
              simp only [putAll, Act.put, List.setIfInBounds_toArray, List.set_cons_succ, List.set_cons_zero]
              clear HW
              go_wp2_with fail
              have fin := HK.out (.bool false) W (Below.refl _ _) rfl
              simp only [putAll, Act.put, List.setIfInBounds_toArray, List.set_cons_succ, List.set_cons_zero] at fin
              exact fin
            · rintro vs W K hc hvl hw hK
              obtain ⟨x0, x1, x2, x3, x4, x5, x6, x7, x8, x9, rfl⟩ := len10 hvl
              have HK := Lib.hid hK
              have HC := Lib.hid hc
              have HW := Lib.hid hw
              clear hK hc hw hvl
              obtain rfl : x2 = .bool false := box_get (HW.out ⟨2, .guard⟩ (by simp) rfl) rfl
              simp only [putAll, Act.put, List.setIfInBounds_toArray, List.set_cons_succ, List.set_cons_zero]
              have rr := RO4.out.below HC.out RO4.out.lt
              have d0 := rr.cell 0
              have d1 := rr.cell 1
              have d2 := rr.cell 2
              have d3 := rr.cell 3
              simp only [List.getElem?_cons_zero, List.getElem?_cons_succ] at d0 d1 d2 d3
              clear rr
              clear HW
              go_wp2_with fail
              have fin := HK.out (.agg #[.int .i64 O1, .int .i64 O2, .int .i64 O3, .int .i64 O4]) W (Below.refl _ _) rfl
              simp only [putAll, Act.put, List.setIfInBounds_toArray, List.set_cons_succ, List.set_cons_zero] at fin
              exact fin
            · rintro vs W K hc hvl hw hK
              obtain ⟨x0, x1, x2, x3, x4, x5, x6, x7, x8, x9, rfl⟩ := len10 hvl
              have HK := Lib.hid hK
              have HC := Lib.hid hc
              have HW := Lib.hid hw
              clear hK hc hw hvl
              obtain rfl : x3 = .agg #[.int .i64 O1, .int .i64 O2, .int .i64 O3, .int .i64 O4] := box_get (HW.out ⟨3, .data⟩ (by simp) rfl) rfl
              obtain rfl : x2 = .bool false := box_get (HW.out ⟨2, .guard⟩ (by simp) rfl) rfl
              simp only [putAll, Act.put, List.setIfInBounds_toArray, List.set_cons_succ, List.set_cons_zero]
              clear HW
              go_wp2_with fail
              refine (HCI.out W).mono ?_
              rintro e W' ⟨rfl, hb'⟩
              have HB' := Lib.hid hb'
              clear hb'
              go_wp2_with fail
              have fin := HK.out (.agg #[.int .i64 O1, .int .i64 O2, .int .i64 O3, .int .i64 O4]) W' HB'.out rfl
              simp only [putAll, Act.put, List.setIfInBounds_toArray, List.set_cons_succ, List.set_cons_zero] at fin
              exact fin
            · rintro vs W K hc hvl hw hK
              obtain ⟨x0, x1, x2, x3, x4, x5, x6, x7, x8, x9, rfl⟩ := len10 hvl
              have HK := Lib.hid hK
              have HC := Lib.hid hc
              have HW := Lib.hid hw
              clear hK hc hw hvl
              obtain rfl : x2 = .bool false := box_get (HW.out ⟨2, .guard⟩ (by simp) rfl) rfl
              simp only [putAll, Act.put, List.setIfInBounds_toArray, List.set_cons_succ, List.set_cons_zero]
              have rr := RA4.out.below HC.out RA4.out.lt
              have d0 := rr.cell 0
              have d1 := rr.cell 1
              simp only [List.getElem?_cons_zero, List.getElem?_cons_succ] at d0 d1
              clear rr
              clear HW
              go_wp2_with fail
              have fin := HK.out (.agg #[.int .i64 a1, .int .i64 a2]) W (Below.refl _ _) rfl
              simp only [putAll, Act.put, List.setIfInBounds_toArray, List.set_cons_succ, List.set_cons_zero] at fin
              exact fin
            · rintro vs W K hc hvl hw hK
              obtain ⟨x0, x1, x2, x3, x4, x5, x6, x7, x8, x9, rfl⟩ := len10 hvl
              have HK := Lib.hid hK
              have HC := Lib.hid hc
              have HW := Lib.hid hw
              clear hK hc hw hvl
              obtain rfl : x2 = .bool false := box_get (HW.out ⟨2, .guard⟩ (by simp) rfl) rfl
              simp only [putAll, Act.put, List.setIfInBounds_toArray, List.set_cons_succ, List.set_cons_zero]
              have rr := RB4.out.below HC.out RB4.out.lt
              have d0 := rr.cell 0
              have d1 := rr.cell 1
              simp only [List.getElem?_cons_zero, List.getElem?_cons_succ] at d0 d1
              clear rr
              clear HW
              go_wp2_with fail
              have fin := HK.out (.agg #[.int .i64 b1, .int .i64 b2]) W (Below.refl _ _) rfl
              simp only [putAll, Act.put, List.setIfInBounds_toArray, List.set_cons_succ, List.set_cons_zero] at fin
              exact fin
            · rintro vs W K hc hvl hw hK
              obtain ⟨x0, x1, x2, x3, x4, x5, x6, x7, x8, x9, rfl⟩ := len10 hvl
              have HK := Lib.hid hK
              have HC := Lib.hid hc
              have HW := Lib.hid hw
              clear hK hc hw hvl
              obtain rfl : x5 = .agg #[.int .i64 a1, .int .i64 a2] := box_get (HW.out ⟨5, .data⟩ (by simp) rfl) rfl
              obtain rfl : x6 = .agg #[.int .i64 b1, .int .i64 b2] := box_get (HW.out ⟨6, .data⟩ (by simp) rfl) rfl
              obtain rfl : x2 = .bool false := box_get (HW.out ⟨2, .guard⟩ (by simp) rfl) rfl
              simp only [putAll, Act.put, List.setIfInBounds_toArray, List.set_cons_succ, List.set_cons_zero]
              clear HW
              go_wp2_with fail
              refine (HRO2.out W).mono ?_
              rintro e W' ⟨rfl, hb'⟩
              have HB' := Lib.hid hb'
              clear hb'
              go_wp2_with fail
              have fin := HK.out (.agg #[.int .i64 O1, .int .i64 O2, .int .i64 O3, .int .i64 O4]) W' HB'.out rfl
              simp only [putAll, Act.put, List.setIfInBounds_toArray, List.set_cons_succ, List.set_cons_zero] at fin
              exact fin
            · rintro vs W K hc hvl hw hK
              obtain ⟨x0, x1, x2, x3, x4, x5, x6, x7, x8, x9, rfl⟩ := len10 hvl
              have HK := Lib.hid hK
              have HC := Lib.hid hc
              have HW := Lib.hid hw
              clear hK hc hw hvl
              obtain rfl : x4 = .agg #[.int .i64 O1, .int .i64 O2, .int .i64 O3, .int .i64 O4] := box_get (HW.out ⟨4, .data⟩ (by simp) rfl) rfl
              obtain rfl : x7 = .agg #[.int .i64 O1, .int .i64 O2, .int .i64 O3, .int .i64 O4] := box_get (HW.out ⟨7, .data⟩ (by simp) rfl) rfl
              obtain rfl : x2 = .bool false := box_get (HW.out ⟨2, .guard⟩ (by simp) rfl) rfl
              simp only [putAll, Act.put, List.setIfInBounds_toArray, List.set_cons_succ, List.set_cons_zero]
              clear HW
              go_wp2_with fail
              have fin := HK.out (.bool false) W (Below.refl _ _) rfl
              simp only [putAll, Act.put, List.setIfInBounds_toArray, List.set_cons_succ, List.set_cons_zero] at fin
              exact fin
            · rintro vs W K hc hvl hw hK
              obtain ⟨x0, x1, x2, x3, x4, x5, x6, x7, x8, x9, rfl⟩ := len10 hvl
              have HK := Lib.hid hK
              have HC := Lib.hid hc
              have HW := Lib.hid hw
              clear hK hc hw hvl
              obtain rfl : x2 = .bool false := box_get (HW.out ⟨2, .data⟩ (by simp) rfl) rfl
              obtain rfl : x8 = .bool false := box_get (HW.out ⟨8, .data⟩ (by simp) rfl) rfl
              simp only [putAll, Act.put, List.setIfInBounds_toArray, List.set_cons_succ, List.set_cons_zero]
              clear HW
              go_wp2_with fail
              have fin := HK.out (.bool false) W (Below.refl _ _) rfl
              simp only [putAll, Act.put, List.setIfInBounds_toArray, List.set_cons_succ, List.set_cons_zero] at fin
              exact fin
          case fin =>
            rintro vs W hJ
            obtain ⟨x0, x1, x2, x3, x4, x5, x6, x7, x8, x9, rfl⟩ := len10 hJ.ln
            obtain rfl : x9 = .bool false := box_get (hJ.val 9 rfl) rfl
            have HC := Lib.hid hJ.bl
            clear hJ
            simp only [putAll, Act.put, List.setIfInBounds_toArray, List.set_cons_succ, List.set_cons_zero]
            have hcw := HC.out
            have RA5 := Lib.hid (RA4.out.below hcw RA4.out.lt)
            have RB5 := Lib.hid (RB4.out.below hcw RB4.out.lt)
            have RC5 := Lib.hid (RC4.out.below hcw RC4.out.lt)
            have RO5 := Lib.hid (RO4.out.below hcw RO4.out.lt)
            have RT5 := Lib.hid (RT4.out.below hcw RT4.out.lt)
            have BW5 := Lib.hid (Below.andThen BW4.out hcw (Nat.le_refl _))
            clear RA4 RB4 RC4 BW4 RO4 RT4
            clear hcw HC HCI HRO2
            have qa := RA5.out
            have ka0 := qa.cell 0
            have ka1 := qa.cell 1
            have qb := RB5.out
            have kb0 := qb.cell 0
            have kb1 := qb.cell 1
            have qc := RC5.out
            have kc0 := qc.cell 0
            have kc1 := qc.cell 1
            simp only [List.getElem?_cons_zero, List.getElem?_cons_succ] at ka0 ka1 kb0 kb1 kc0 kc1
            clear qa qb qc
            go_wp2_with fail
            refine (HIA.out _).mono ?_
            rintro e w6 ⟨rfl, h6⟩
            have RA6 := Lib.hid (RA5.out.below h6 RA5.out.lt)
            have RB6 := Lib.hid (RB5.out.below h6 RB5.out.lt)
            have RC6 := Lib.hid (RC5.out.below h6 RC5.out.lt)
            have RO6 := Lib.hid (RO5.out.below h6 RO5.out.lt)
            have RT6 := Lib.hid (RT5.out.below h6 RT5.out.lt)
            have BW6 := Lib.hid (Below.andThen BW5.out h6 (Nat.le_refl _))
            clear RA5 RB5 RC5 BW5 RO5 RT5
            clear h6 ka0 ka1 kb0 kb1 kc0 kc1
            have qa := RA6.out
            have ka0 := qa.cell 0
            have ka1 := qa.cell 1
            have qb := RB6.out
            have kb0 := qb.cell 0
            have kb1 := qb.cell 1
            have qc := RC6.out
            have kc0 := qc.cell 0
            have kc1 := qc.cell 1
            simp only [List.getElem?_cons_zero, List.getElem?_cons_succ] at ka0 ka1 kb0 kb1 kc0 kc1
            clear qa qb qc
            go_wp2_with fail
            refine (HIB.out _).mono ?_
            rintro e w7 ⟨rfl, h7⟩
            have RA7 := Lib.hid (RA6.out.below h7 RA6.out.lt)
            have RB7 := Lib.hid (RB6.out.below h7 RB6.out.lt)
            have RC7 := Lib.hid (RC6.out.below h7 RC6.out.lt)
            have RO7 := Lib.hid (RO6.out.below h7 RO6.out.lt)
            have RT7 := Lib.hid (RT6.out.below h7 RT6.out.lt)
            have BW7 := Lib.hid (Below.andThen BW6.out h7 (Nat.le_refl _))
            clear RA6 RB6 RC6 BW6 RO6 RT6
            clear h7 ka0 ka1 kb0 kb1 kc0 kc1
            have qa := RA7.out
            have ka0 := qa.cell 0
            have ka1 := qa.cell 1
            have qb := RB7.out
            have kb0 := qb.cell 0
            have kb1 := qb.cell 1
            have qc := RC7.out
            have kc0 := qc.cell 0
            have kc1 := qc.cell 1
            simp only [List.getElem?_cons_zero, List.getElem?_cons_succ] at ka0 ka1 kb0 kb1 kc0 kc1
            clear qa qb qc
            go_wp2_with fail
            refine (HIC.out _).mono ?_
            rintro e w8 ⟨rfl, h8⟩
            have RA8 := Lib.hid (RA7.out.below h8 RA7.out.lt)
            have RB8 := Lib.hid (RB7.out.below h8 RB7.out.lt)
            have RC8 := Lib.hid (RC7.out.below h8 RC7.out.lt)
            have RO8 := Lib.hid (RO7.out.below h8 RO7.out.lt)
            have RT8 := Lib.hid (RT7.out.below h8 RT7.out.lt)
            have BW8 := Lib.hid (Below.andThen BW7.out h8 (Nat.le_refl _))
            clear RA7 RB7 RC7 BW7 RO7 RT7
            clear h8 ka0 ka1 kb0 kb1 kc0 kc1
            cases okC with
            | false =>
              have e3 : TE = 1 := by rw [HTE.out]; simp
              have e4 : (⟨T1, T2, T3, T4⟩ : Cir) = ⟨0, 0, 0, 0⟩ := by rw [HTC.out]; simp
              injection e4 with f5 f6 f7 f8
              subst e3 f5 f6 f7 f8
              clear HTE HTC HTV HRT
              have qo := RT8.out
              have o0 := qo.cell 0
              have o1 := qo.cell 1
              have o2 := qo.cell 2
              have o3 := qo.cell 3
              simp only [List.getElem?_cons_zero, List.getElem?_cons_succ] at o0 o1 o2 o3
              clear qo
              have qa := RA8.out
              have ka0 := qa.cell 0
              have ka1 := qa.cell 1
              have qb := RB8.out
              have kb0 := qb.cell 0
              have kb1 := qb.cell 1
              have qc := RC8.out
              have kc0 := qc.cell 0
              have kc1 := qc.cell 1
              simp only [List.getElem?_cons_zero, List.getElem?_cons_succ] at ka0 ka1 kb0 kb1 kc0 kc1
              clear qa qb qc
              go_wp2_with fail
              refine (HPA.out _).mono ?_
              rintro e v1 ⟨rfl, g1⟩
              have RAx := Lib.hid (RA8.out.below g1 RA8.out.lt)
              have RBx := Lib.hid (RB8.out.below g1 RB8.out.lt)
              have RCx := Lib.hid (RC8.out.below g1 RC8.out.lt)
              have BWx := Lib.hid (Below.andThen BW8.out g1 (Nat.le_refl _))
              clear g1 HPA RA8 RB8 RC8 BW8 RO8 RT8 ka0 ka1 kb0 kb1 kc0 kc1
              have qq := RAx.out
              have s0 := qq.cell 0
              have s1 := qq.cell 1
              have z0 := frozen_of_row _ (w.heap.size) 0 _ _ qq
              have z1 := frozen_of_row _ (w.heap.size) 1 _ _ qq
              simp only [List.getElem?_cons_zero, List.getElem?_cons_succ] at s0 s1
              have hs := (qq.set 0 (.int .i64 (plN a1))).set 1 (.int .i64 (plN a2))
              simp only [List.set_cons_zero, List.set_cons_succ] at hs
              have RAy := Lib.hid hs
              have RBy := Lib.hid ((RBx.out.other 0 (.int .i64 (plN a1)) (show w.heap.size + 1 ≠ w.heap.size by omega)).other 1 (.int .i64 (plN a2)) (show w.heap.size + 1 ≠ w.heap.size by omega))
              have RCy := Lib.hid ((RCx.out.other 0 (.int .i64 (plN a1)) (show w.heap.size + 1 + 1 ≠ w.heap.size by omega)).other 1 (.int .i64 (plN a2)) (show w.heap.size + 1 + 1 ≠ w.heap.size by omega))
              have BWy := Lib.hid ((BWx.out.setCell (p := ⟨w.heap.size, 0, none⟩) (by dsimp only; omega) (.int .i64 (plN a1))).setCell (p := ⟨w.heap.size, 1, none⟩) (by dsimp only; omega) (.int .i64 (plN a2)))
              clear qq hs RAx RBx RCx BWx
              have qn := RBy.out
              have kb0 := qn.cell 0
              have kb1 := qn.cell 1
              simp only [List.getElem?_cons_zero, List.getElem?_cons_succ] at kb0 kb1
              clear qn
              go_wp2_with fail
              refine (HPB.out _).mono ?_
              rintro e vB ⟨rfl, g1⟩
              have RAx := Lib.hid (RAy.out.below g1 RAy.out.lt)
              have RBx := Lib.hid (RBy.out.below g1 RBy.out.lt)
              have RCx := Lib.hid (RCy.out.below g1 RCy.out.lt)
              have BWx := Lib.hid (Below.andThen BWy.out g1 (Nat.le_refl _))
              clear g1 RAy RBy RCy BWy HPB s0 s1 z0 z1 kb0 kb1
              have qq := RBx.out
              have s0 := qq.cell 0
              have s1 := qq.cell 1
              have z0 := frozen_of_row _ (w.heap.size + 1) 0 _ _ qq
              have z1 := frozen_of_row _ (w.heap.size + 1) 1 _ _ qq
              simp only [List.getElem?_cons_zero, List.getElem?_cons_succ] at s0 s1
              have hs := (qq.set 0 (.int .i64 (plN b1))).set 1 (.int .i64 (plN b2))
              simp only [List.set_cons_zero, List.set_cons_succ] at hs
              have RBy := Lib.hid hs
              have RAy := Lib.hid ((RAx.out.other 0 (.int .i64 (plN b1)) (show w.heap.size ≠ w.heap.size + 1 by omega)).other 1 (.int .i64 (plN b2)) (show w.heap.size ≠ w.heap.size + 1 by omega))
              have RCy := Lib.hid ((RCx.out.other 0 (.int .i64 (plN b1)) (show w.heap.size + 1 + 1 ≠ w.heap.size + 1 by omega)).other 1 (.int .i64 (plN b2)) (show w.heap.size + 1 + 1 ≠ w.heap.size + 1 by omega))
              have BWy := Lib.hid ((BWx.out.setCell (p := ⟨w.heap.size + 1, 0, none⟩) (by dsimp only; omega) (.int .i64 (plN b1))).setCell (p := ⟨w.heap.size + 1, 1, none⟩) (by dsimp only; omega) (.int .i64 (plN b2)))
              clear qq hs RAx RBx RCx BWx
              have qn := RCy.out
              have kc0 := qn.cell 0
              have kc1 := qn.cell 1
              simp only [List.getElem?_cons_zero, List.getElem?_cons_succ] at kc0 kc1
              clear qn
              go_wp2_with fail
              refine (HPC.out _).mono ?_
              rintro e vC ⟨rfl, g1⟩
              have RAx := Lib.hid (RAy.out.below g1 RAy.out.lt)
              have RBx := Lib.hid (RBy.out.below g1 RBy.out.lt)
              have RCx := Lib.hid (RCy.out.below g1 RCy.out.lt)
              have BWx := Lib.hid (Below.andThen BWy.out g1 (Nat.le_refl _))
              clear g1 RAy RBy RCy BWy HPC s0 s1 z0 z1 kc0 kc1
              have qq := RCx.out
              have s0 := qq.cell 0
              have s1 := qq.cell 1
              have z0 := frozen_of_row _ (w.heap.size + 1 + 1) 0 _ _ qq
              have z1 := frozen_of_row _ (w.heap.size + 1 + 1) 1 _ _ qq
              simp only [List.getElem?_cons_zero, List.getElem?_cons_succ] at s0 s1
              have hs := (qq.set 0 (.int .i64 (plN c1))).set 1 (.int .i64 (plN c2))
              simp only [List.set_cons_zero, List.set_cons_succ] at hs
              have RCy := Lib.hid hs
              have RAy := Lib.hid ((RAx.out.other 0 (.int .i64 (plN c1)) (show w.heap.size ≠ w.heap.size + 1 + 1 by omega)).other 1 (.int .i64 (plN c2)) (show w.heap.size ≠ w.heap.size + 1 + 1 by omega))
              have RBy := Lib.hid ((RBx.out.other 0 (.int .i64 (plN c1)) (show w.heap.size + 1 ≠ w.heap.size + 1 + 1 by omega)).other 1 (.int .i64 (plN c2)) (show w.heap.size + 1 ≠ w.heap.size + 1 + 1 by omega))
              have BWy := Lib.hid ((BWx.out.setCell (p := ⟨w.heap.size + 1 + 1, 0, none⟩) (by dsimp only; omega) (.int .i64 (plN c1))).setCell (p := ⟨w.heap.size + 1 + 1, 1, none⟩) (by dsimp only; omega) (.int .i64 (plN c2)))
              clear qq hs RAx RBx RCx BWx
              go_wp2_with fail
              exact ⟨⟨k + 1, by omega, rfl, Lib.hid ⟨_, _, _, _, _, _, RAy.out, RBy.out, RCy.out, BWy.out⟩⟩, by simp [intOf]; omega⟩
            | true =>
              have HRT2 := Lib.hid (HRT.out (by trivial) (by trivial) (by trivial))
              clear HRT
              have qa := RA8.out
              have ka0 := qa.cell 0
              have ka1 := qa.cell 1
              have qb := RB8.out
              have kb0 := qb.cell 0
              have kb1 := qb.cell 1
              have qc := RC8.out
              have kc0 := qc.cell 0
              have kc1 := qc.cell 1
              simp only [List.getElem?_cons_zero, List.getElem?_cons_succ] at ka0 ka1 kb0 kb1 kc0 kc1
              clear qa qb qc
              go_wp2_with fail
              obtain ⟨U1, U2, U3, U4, hU⟩ : ∃ U1 U2 U3 U4, TV = .agg #[.int .i64 U1, .int .i64 U2, .int .i64 U3, .int .i64 U4] := by
                rw [HTV.out]; split
                · exact ⟨_, _, _, _, rfl⟩
                · exact ⟨_, _, _, _, rfl⟩
              have HTV2 := Lib.hid (hU ▸ HTV.out)
              subst hU
              refine (HRT2.out _).mono ?_
              rintro e w9 ⟨rfl, h9⟩
              obtain ⟨b9, r9⟩ := box_start w9 46 [.int .i64 U1, .int .i64 U2, .int .i64 U3, .int .i64 U4]
              have h9' := Below.andThen h9 b9 (Nat.le_refl _)
              have RA9 := Lib.hid (RA8.out.below h9' RA8.out.lt)
              have RB9 := Lib.hid (RB8.out.below h9' RB8.out.lt)
              have RC9 := Lib.hid (RC8.out.below h9' RC8.out.lt)
              have RO9 := Lib.hid (RO8.out.below h9' RO8.out.lt)
              have RT9 := Lib.hid (RT8.out.below h9' RT8.out.lt)
              have BW9 := Lib.hid (Below.andThen BW8.out h9' (Nat.le_refl _))
              clear RA8 RB8 RC8 BW8 RO8 RT8
              have RU9 := Lib.hid r9
              clear h9 h9' b9 r9 HRT2 ka0 ka1 kb0 kb1 kc0 kc1 HTV
              by_cases hD : D = 0
              · have e3 : TE = 4 := by rw [HTE.out]; simp [hD]
                have e4 : (⟨T1, T2, T3, T4⟩ : Cir) = ⟨0, 0, 0, 0⟩ := by rw [HTC.out]; simp [hD]
                have d1 : decide (D = 0) = true := decide_eq_true hD
                injection e4 with f5 f6 f7 f8
                subst e3 f5 f6 f7 f8
                clear HTE HTC HTV2 hD
                go_wp2_with fail
                refine wp_region_box (by kernel_rfl) (by kernel_rfl) [83, 84, 85, 86, 87, 88, 89, 90, 91, 92, 93, 94, 95, 96, 97, 98, 99, 100, 101, 102, 103, 104, 105, 106] [(fun v => v = .bool false), (fun v => v = .bool false), (fun v => v = undef), (fun v => v = undef), (fun v => v = undef), (fun v => v = undef), (fun v => v = undef), (fun v => v = undef), (fun v => v = undef), (fun v => v = undef), (fun v => v = .bool false), (fun v => v = .bool false), (fun v => v = .bool false), (fun v => v = .bool true), (fun v => v = .bool true), (fun v => v = .int .i64 4), (fun v => v = .bool false), (fun v => v = .bool false), (fun v => v = .agg #[.int .i64 0, .int .i64 0, .int .i64 0, .int .i64 0]), (fun v => v = .agg #[.int .i64 0, .int .i64 0, .int .i64 0, .int .i64 0]), (fun v => v = .bool false), (fun v => v = .bool false), (fun v => v = .bool false), (fun v => v = .bool false)] [none, none, none, none, none, none, none, none, none, none, none, none, none, none, none, none, none, none, none, none, none, none, none, none] [none, none, none, none, none, none, none, none, none, none, none, none, none, none, none, none, none, none, none, none, none, none, none, none] 24 rfl (by kernel_rfl) ?tr ⟨[u83, u84, u85, u86, u87, u88, u89, u90, u91, u92, u93, u94, u95, u96, u97, u98, u99, u100, u101, u102, u103, u104, u105, u106], by simp only [putAll, Act.put, List.setIfInBounds_toArray, List.set_cons_succ, List.set_cons_zero], rfl⟩ ?steps ?fin
                case tr =>
                  rintro i v h
                  rcases i with _ | _ | _ | _ | _ | _ | _ | _ | _ | _ | _ | _ | _ | _ | _ | _ | _ | _ | _ | _ | _ | _ | _ | _ | i
                  all_goals first | trivial | (exfalso; rcases h with h | h <;> simp at h)
                case steps =>
                  simp only [boxSteps, Nat.reduceAdd, Nat.zero_add, List.getD_cons_succ, List.getD_cons_zero]
                  refine ⟨?_, ?_, ?_, ?_, ?_, ?_, ?_, ?_, ?_, ?_, ?_, ?_, ?_, ?_, ?_, ?_, ?_, ?_, ?_, ?_, ?_, ?_, ?_, ?_, trivial⟩
                  · rintro vs W K hc hvl hw hK
                    obtain ⟨x0, x1, x2, x3, x4, x5, x6, x7, x8, x9, x10, x11, x12, x13, x14, x15, x16, x17, x18, x19, x20, x21, x22, x23, rfl⟩ := len24 hvl
                    have HK := Lib.hid hK
                    have HC := Lib.hid hc
                    have HW := Lib.hid hw
                    clear hK hc hw hvl
                    simp only [putAll, Act.put, List.setIfInBounds_toArray, List.set_cons_succ, List.set_cons_zero]
                    clear HW
                    go_wp2_with fail
                    have fin := HK.out (.bool false) W (Below.refl _ _) rfl
                    simp only [putAll, Act.put, List.setIfInBounds_toArray, List.set_cons_succ, List.set_cons_zero] at fin
                    exact fin
                  · rintro vs W K hc hvl hw hK
                    obtain ⟨x0, x1, x2, x3, x4, x5, x6, x7, x8, x9, x10, x11, x12, x13, x14, x15, x16, x17, x18, x19, x20, x21, x22, x23, rfl⟩ := len24 hvl
                    have HK := Lib.hid hK
                    have HC := Lib.hid hc
                    have HW := Lib.hid hw
                    clear hK hc hw hvl
                    obtain rfl : x0 = .bool false := box_get (HW.out ⟨0, .data⟩ (by simp) rfl) rfl
                    simp only [putAll, Act.put, List.setIfInBounds_toArray, List.set_cons_succ, List.set_cons_zero]
                    clear HW
                    go_wp2_with fail
                    have fin := HK.out (.bool false) W (Below.refl _ _) rfl
                    simp only [putAll, Act.put, List.setIfInBounds_toArray, List.set_cons_succ, List.set_cons_zero] at fin
                    exact fin
                  · rintro vs W K hc hvl hw hK
                    obtain ⟨x0, x1, x2, x3, x4, x5, x6, x7, x8, x9, x10, x11, x12, x13, x14, x15, x16, x17, x18, x19, x20, x21, x22, x23, rfl⟩ := len24 hvl
                    have HK := Lib.hid hK
                    have HC := Lib.hid hc
                    have HW := Lib.hid hw
                    clear hK hc hw hvl
                    obtain rfl : x1 = .bool false := box_get (HW.out ⟨1, .guard⟩ (by simp) rfl) rfl
                    simp only [putAll, Act.put, List.setIfInBounds_toArray, List.set_cons_succ, List.set_cons_zero]
                    clear HW
                    go_wp2_with fail
                    have fin := HK.out (undef) W (Below.refl _ _) rfl
                    simp only [putAll, Act.put, List.setIfInBounds_toArray, List.set_cons_succ, List.set_cons_zero] at fin
                    exact fin
                  · rintro vs W K hc hvl hw hK
                    obtain ⟨x0, x1, x2, x3, x4, x5, x6, x7, x8, x9, x10, x11, x12, x13, x14, x15, x16, x17, x18, x19, x20, x21, x22, x23, rfl⟩ := len24 hvl
                    have HK := Lib.hid hK
                    have HC := Lib.hid hc
                    have HW := Lib.hid hw
                    clear hK hc hw hvl
                    obtain rfl : x2 = undef := box_get (HW.out ⟨2, .data⟩ (by simp) rfl) rfl
                    obtain rfl : x1 = .bool false := box_get (HW.out ⟨1, .guard⟩ (by simp) rfl) rfl
                    simp only [putAll, Act.put, List.setIfInBounds_toArray, List.set_cons_succ, List.set_cons_zero]
                    clear HW
                    go_wp2_with fail
                    have fin := HK.out (undef) W (Below.refl _ _) rfl
                    simp only [putAll, Act.put, List.setIfInBounds_toArray, List.set_cons_succ, List.set_cons_zero] at fin
                    exact fin
                  · rintro vs W K hc hvl hw hK
                    obtain ⟨x0, x1, x2, x3, x4, x5, x6, x7, x8, x9, x10, x11, x12, x13, x14, x15, x16, x17, x18, x19, x20, x21, x22, x23, rfl⟩ := len24 hvl
                    have HK := Lib.hid hK
                    have HC := Lib.hid hc
                    have HW := Lib.hid hw
                    clear hK hc hw hvl
                    obtain rfl : x3 = undef := box_get (HW.out ⟨3, .data⟩ (by simp) rfl) rfl
                    obtain rfl : x1 = .bool false := box_get (HW.out ⟨1, .guard⟩ (by simp) rfl) rfl
                    simp only [putAll, Act.put, List.setIfInBounds_toArray, List.set_cons_succ, List.set_cons_zero]
                    clear HW
                    go_wp2_with fail
                    have fin := HK.out (undef) W (Below.refl _ _) rfl
                    simp only [putAll, Act.put, List.setIfInBounds_toArray, List.set_cons_succ, List.set_cons_zero] at fin
                    exact fin
                  · rintro vs W K hc hvl hw hK
                    obtain ⟨x0, x1, x2, x3, x4, x5, x6, x7, x8, x9, x10, x11, x12, x13, x14, x15, x16, x17, x18, x19, x20, x21, x22, x23, rfl⟩ := len24 hvl
                    have HK := Lib.hid hK
                    have HC := Lib.hid hc
                    have HW := Lib.hid hw
                    clear hK hc hw hvl
                    obtain rfl : x4 = undef := box_get (HW.out ⟨4, .guard⟩ (by simp) rfl) rfl
                    simp only [putAll, Act.put, List.setIfInBounds_toArray, List.set_cons_succ, List.set_cons_zero]
                    clear HW
                    go_wp2_with fail
                    have fin := HK.out (undef) W (Below.refl _ _) rfl
                    simp only [putAll, Act.put, List.setIfInBounds_toArray, List.set_cons_succ, List.set_cons_zero] at fin
                    exact fin
                  · rintro vs W K hc hvl hw hK
                    obtain ⟨x0, x1, x2, x3, x4, x5, x6, x7, x8, x9, x10, x11, x12, x13, x14, x15, x16, x17, x18, x19, x20, x21, x22, x23, rfl⟩ := len24 hvl
                    have HK := Lib.hid hK
                    have HC := Lib.hid hc
                    have HW := Lib.hid hw
                    clear hK hc hw hvl
                    obtain rfl : x5 = undef := box_get (HW.out ⟨5, .data⟩ (by simp) rfl) rfl
                    obtain rfl : x4 = undef := box_get (HW.out ⟨4, .guard⟩ (by simp) rfl) rfl
                    simp only [putAll, Act.put, List.setIfInBounds_toArray, List.set_cons_succ, List.set_cons_zero]
                    clear HW
                    go_wp2_with fail
                    have fin := HK.out (undef) W (Below.refl _ _) rfl
                    simp only [putAll, Act.put, List.setIfInBounds_toArray, List.set_cons_succ, List.set_cons_zero] at fin
                    exact fin
                  · rintro vs W K hc hvl hw hK
                    obtain ⟨x0, x1, x2, x3, x4, x5, x6, x7, x8, x9, x10, x11, x12, x13, x14, x15, x16, x17, x18, x19, x20, x21, x22, x23, rfl⟩ := len24 hvl
                    have HK := Lib.hid hK
                    have HC := Lib.hid hc
                    have HW := Lib.hid hw
                    clear hK hc hw hvl
                    obtain rfl : x4 = undef := box_get (HW.out ⟨4, .guard⟩ (by simp) rfl) rfl
                    simp only [putAll, Act.put, List.setIfInBounds_toArray, List.set_cons_succ, List.set_cons_zero]
                    clear HW
                    go_wp2_with fail
                    have fin := HK.out (undef) W (Below.refl _ _) rfl
                    simp only [putAll, Act.put, List.setIfInBounds_toArray, List.set_cons_succ, List.set_cons_zero] at fin
                    exact fin
                  · rintro vs W K hc hvl hw hK
                    obtain ⟨x0, x1, x2, x3, x4, x5, x6, x7, x8, x9, x10, x11, x12, x13, x14, x15, x16, x17, x18, x19, x20, x21, x22, x23, rfl⟩ := len24 hvl
                    have HK := Lib.hid hK
                    have HC := Lib.hid hc
                    have HW := Lib.hid hw
                    clear hK hc hw hvl
                    obtain rfl : x6 = undef := box_get (HW.out ⟨6, .data⟩ (by simp) rfl) rfl
                    obtain rfl : x7 = undef := box_get (HW.out ⟨7, .data⟩ (by simp) rfl) rfl
                    obtain rfl : x4 = undef := box_get (HW.out ⟨4, .guard⟩ (by simp) rfl) rfl
                    simp only [putAll, Act.put, List.setIfInBounds_toArray, List.set_cons_succ, List.set_cons_zero]
                    clear HW
                    go_wp2_with fail
                    have fin := HK.out (undef) W (Below.refl _ _) rfl
                    simp only [putAll, Act.put, List.setIfInBounds_toArray, List.set_cons_succ, List.set_cons_zero] at fin
                    exact fin
                  · rintro vs W K hc hvl hw hK
                    obtain ⟨x0, x1, x2, x3, x4, x5, x6, x7, x8, x9, x10, x11, x12, x13, x14, x15, x16, x17, x18, x19, x20, x21, x22, x23, rfl⟩ := len24 hvl
                    have HK := Lib.hid hK
                    have HC := Lib.hid hc
                    have HW := Lib.hid hw
                    clear hK hc hw hvl
                    obtain rfl : x4 = undef := box_get (HW.out ⟨4, .data⟩ (by simp) rfl) rfl
                    obtain rfl : x8 = undef := box_get (HW.out ⟨8, .data⟩ (by simp) rfl) rfl
                    obtain rfl : x1 = .bool false := box_get (HW.out ⟨1, .guard⟩ (by simp) rfl) rfl
                    simp only [putAll, Act.put, List.setIfInBounds_toArray, List.set_cons_succ, List.set_cons_zero]
                    clear HW
                    go_wp2_with fail
                    have fin := HK.out (undef) W (Below.refl _ _) rfl
                    simp only [putAll, Act.put, List.setIfInBounds_toArray, List.set_cons_succ, List.set_cons_zero] at fin
                    exact fin
                  · rintro vs W K hc hvl hw hK
                    obtain ⟨x0, x1, x2, x3, x4, x5, x6, x7, x8, x9, x10, x11, x12, x13, x14, x15, x16, x17, x18, x19, x20, x21, x22, x23, rfl⟩ := len24 hvl
                    have HK := Lib.hid hK
                    have HC := Lib.hid hc
                    have HW := Lib.hid hw
                    clear hK hc hw hvl
                    obtain rfl : x1 = .bool false := box_get (HW.out ⟨1, .data⟩ (by simp) rfl) rfl
                    obtain rfl : x9 = undef := box_get (HW.out ⟨9, .data⟩ (by simp) rfl) rfl
                    simp only [putAll, Act.put, List.setIfInBounds_toArray, List.set_cons_succ, List.set_cons_zero]
                    clear HW
                    go_wp2_with fail
                    have fin := HK.out (.bool false) W (Below.refl _ _) rfl
                    simp only [putAll, Act.put, List.setIfInBounds_toArray, List.set_cons_succ, List.set_cons_zero] at fin
                    exact fin
                  · rintro vs W K hc hvl hw hK
                    obtain ⟨x0, x1, x2, x3, x4, x5, x6, x7, x8, x9, x10, x11, x12, x13, x14, x15, x16, x17, x18, x19, x20, x21, x22, x23, rfl⟩ := len24 hvl
                    have HK := Lib.hid hK
                    have HC := Lib.hid hc
                    have HW := Lib.hid hw
                    clear hK hc hw hvl
                    obtain rfl : x10 = .bool false := box_get (HW.out ⟨10, .data⟩ (by simp) rfl) rfl
                    simp only [putAll, Act.put, List.setIfInBounds_toArray, List.set_cons_succ, List.set_cons_zero]
                    clear HW
                    go_wp2_with fail
                    have fin := HK.out (.bool false) W (Below.refl _ _) rfl
                    simp only [putAll, Act.put, List.setIfInBounds_toArray, List.set_cons_succ, List.set_cons_zero] at fin
                    exact fin
                  · rintro vs W K hc hvl hw hK
                    obtain ⟨x0, x1, x2, x3, x4, x5, x6, x7, x8, x9, x10, x11, x12, x13, x14, x15, x16, x17, x18, x19, x20, x21, x22, x23, rfl⟩ := len24 hvl
                    have HK := Lib.hid hK
                    have HC := Lib.hid hc
                    have HW := Lib.hid hw
                    clear hK hc hw hvl
                    obtain rfl : x11 = .bool false := box_get (HW.out ⟨11, .guard⟩ (by simp) rfl) rfl
                    simp only [putAll, Act.put, List.setIfInBounds_toArray, List.set_cons_succ, List.set_cons_zero]
                    clear HW
                    go_wp2_with fail
                    have fin := HK.out (.bool false) W (Below.refl _ _) rfl
                    simp only [putAll, Act.put, List.setIfInBounds_toArray, List.set_cons_succ, List.set_cons_zero] at fin
                    exact fin
                  · rintro vs W K hc hvl hw hK
                    obtain ⟨x0, x1, x2, x3, x4, x5, x6, x7, x8, x9, x10, x11, x12, x13, x14, x15, x16, x17, x18, x19, x20, x21, x22, x23, rfl⟩ := len24 hvl
                    have HK := Lib.hid hK
                    have HC := Lib.hid hc
                    have HW := Lib.hid hw
                    clear hK hc hw hvl
                    obtain rfl : x12 = .bool false := box_get (HW.out ⟨12, .data⟩ (by simp) rfl) rfl
                    obtain rfl : x11 = .bool false := box_get (HW.out ⟨11, .guard⟩ (by simp) rfl) rfl
                    simp only [putAll, Act.put, List.setIfInBounds_toArray, List.set_cons_succ, List.set_cons_zero]
                    clear HW
                    go_wp2_with fail
                    have fin := HK.out (.bool true) W (Below.refl _ _) rfl
                    simp only [putAll, Act.put, List.setIfInBounds_toArray, List.set_cons_succ, List.set_cons_zero] at fin
                    exact fin
                  · rintro vs W K hc hvl hw hK
                    obtain ⟨x0, x1, x2, x3, x4, x5, x6, x7, x8, x9, x10, x11, x12, x13, x14, x15, x16, x17, x18, x19, x20, x21, x22, x23, rfl⟩ := len24 hvl
                    have HK := Lib.hid hK
                    have HC := Lib.hid hc
                    have HW := Lib.hid hw
                    clear hK hc hw hvl
                    obtain rfl : x13 = .bool true := box_get (HW.out ⟨13, .data⟩ (by simp) rfl) rfl
                    obtain rfl : x11 = .bool false := box_get (HW.out ⟨11, .guard⟩ (by simp) rfl) rfl
                    simp only [putAll, Act.put, List.setIfInBounds_toArray, List.set_cons_succ, List.set_cons_zero]
                    clear HW
                    go_wp2_with fail
                    have fin := HK.out (.bool true) W (Below.refl _ _) rfl
                    simp only [putAll, Act.put, List.setIfInBounds_toArray, List.set_cons_succ, List.set_cons_zero] at fin
                    exact fin
                  · rintro vs W K hc hvl hw hK
                    obtain ⟨x0, x1, x2, x3, x4, x5, x6, x7, x8, x9, x10, x11, x12, x13, x14, x15, x16, x17, x18, x19, x20, x21, x22, x23, rfl⟩ := len24 hvl
                    have HK := Lib.hid hK
                    have HC := Lib.hid hc
                    have HW := Lib.hid hw
                    clear hK hc hw hvl
                    obtain rfl : x14 = .bool true := box_get (HW.out ⟨14, .guard⟩ (by simp) rfl) rfl
                    simp only [putAll, Act.put, List.setIfInBounds_toArray, List.set_cons_succ, List.set_cons_zero]
                    clear HW
                    go_wp2_with fail
                    have fin := HK.out (.int .i64 4) W (Below.refl _ _) rfl
                    simp only [putAll, Act.put, List.setIfInBounds_toArray, List.set_cons_succ, List.set_cons_zero] at fin
                    exact fin
                  · rintro vs W K hc hvl hw hK
                    obtain ⟨x0, x1, x2, x3, x4, x5, x6, x7, x8, x9, x10, x11, x12, x13, x14, x15, x16, x17, x18, x19, x20, x21, x22, x23, rfl⟩ := len24 hvl
                    have HK := Lib.hid hK
                    have HC := Lib.hid hc
                    have HW := Lib.hid hw
                    clear hK hc hw hvl
                    obtain rfl : x15 = .int .i64 4 := box_get (HW.out ⟨15, .data⟩ (by simp) rfl) rfl
                    obtain rfl : x14 = .bool true := box_get (HW.out ⟨14, .guard⟩ (by simp) rfl) rfl
                    simp only [putAll, Act.put, List.setIfInBounds_toArray, List.set_cons_succ, List.set_cons_zero]
                    clear HW
                    go_wp2_with fail
                    have fin := HK.out (.bool false) W (Below.refl _ _) rfl
                    simp only [putAll, Act.put, List.setIfInBounds_toArray, List.set_cons_succ, List.set_cons_zero] at fin
                    exact fin
                  · rintro vs W K hc hvl hw hK
                    obtain ⟨x0, x1, x2, x3, x4, x5, x6, x7, x8, x9, x10, x11, x12, x13, x14, x15, x16, x17, x18, x19, x20, x21, x22, x23, rfl⟩ := len24 hvl
                    have HK := Lib.hid hK
                    have HC := Lib.hid hc
                    have HW := Lib.hid hw
                    clear hK hc hw hvl
                    obtain rfl : x16 = .bool false := box_get (HW.out ⟨16, .data⟩ (by simp) rfl) rfl
                    obtain rfl : x14 = .bool true := box_get (HW.out ⟨14, .guard⟩ (by simp) rfl) rfl
                    simp only [putAll, Act.put, List.setIfInBounds_toArray, List.set_cons_succ, List.set_cons_zero]
                    clear HW
                    go_wp2_with fail
                    have fin := HK.out (.bool false) W (Below.refl _ _) rfl
                    simp only [putAll, Act.put, List.setIfInBounds_toArray, List.set_cons_succ, List.set_cons_zero] at fin
                    exact fin
                  · rintro vs W K hc hvl hw hK
                    obtain ⟨x0, x1, x2, x3, x4, x5, x6, x7, x8, x9, x10, x11, x12, x13, x14, x15, x16, x17, x18, x19, x20, x21, x22, x23, rfl⟩ := len24 hvl
                    have HK := Lib.hid hK
                    have HC := Lib.hid hc
                    have HW := Lib.hid hw
                    clear hK hc hw hvl
                    obtain rfl : x17 = .bool false := box_get (HW.out ⟨17, .guard⟩ (by simp) rfl) rfl
                    simp only [putAll, Act.put, List.setIfInBounds_toArray, List.set_cons_succ, List.set_cons_zero]
                    have rr := RT9.out.below HC.out RT9.out.lt
                    have d0 := rr.cell 0
                    have d1 := rr.cell 1
                    have d2 := rr.cell 2
                    have d3 := rr.cell 3
                    simp only [List.getElem?_cons_zero, List.getElem?_cons_succ] at d0 d1 d2 d3
                    clear rr
                    clear HW
                    go_wp2_with fail
                    have fin := HK.out (.agg #[.int .i64 0, .int .i64 0, .int .i64 0, .int .i64 0]) W (Below.refl _ _) rfl
                    simp only [putAll, Act.put, List.setIfInBounds_toArray, List.set_cons_succ, List.set_cons_zero] at fin
                    exact fin
                  · rintro vs W K hc hvl hw hK
                    obtain ⟨x0, x1, x2, x3, x4, x5, x6, x7, x8, x9, x10, x11, x12, x13, x14, x15, x16, x17, x18, x19, x20, x21, x22, x23, rfl⟩ := len24 hvl
                    have HK := Lib.hid hK
                    have HC := Lib.hid hc
                    have HW := Lib.hid hw
                    clear hK hc hw hvl
                    obtain rfl : x17 = .bool false := box_get (HW.out ⟨17, .guard⟩ (by simp) rfl) rfl
                    simp only [putAll, Act.put, List.setIfInBounds_toArray, List.set_cons_succ, List.set_cons_zero]
                    clear HW
                    go_wp2_with fail
                    have fin := HK.out (.agg #[.int .i64 0, .int .i64 0, .int .i64 0, .int .i64 0]) W (Below.refl _ _) rfl
                    simp only [putAll, Act.put, List.setIfInBounds_toArray, List.set_cons_succ, List.set_cons_zero] at fin
                    exact fin
                  · rintro vs W K hc hvl hw hK
                    obtain ⟨x0, x1, x2, x3, x4, x5, x6, x7, x8, x9, x10, x11, x12, x13, x14, x15, x16, x17, x18, x19, x20, x21, x22, x23, rfl⟩ := len24 hvl
                    have HK := Lib.hid hK
                    have HC := Lib.hid hc
                    have HW := Lib.hid hw
                    clear hK hc hw hvl
                    obtain rfl : x18 = .agg #[.int .i64 0, .int .i64 0, .int .i64 0, .int .i64 0] := box_get (HW.out ⟨18, .data⟩ (by simp) rfl) rfl
                    obtain rfl : x19 = .agg #[.int .i64 0, .int .i64 0, .int .i64 0, .int .i64 0] := box_get (HW.out ⟨19, .data⟩ (by simp) rfl) rfl
                    obtain rfl : x17 = .bool false := box_get (HW.out ⟨17, .guard⟩ (by simp) rfl) rfl
                    simp only [putAll, Act.put, List.setIfInBounds_toArray, List.set_cons_succ, List.set_cons_zero]
                    clear HW
                    go_wp2_with fail
                    have fin := HK.out (.bool false) W (Below.refl _ _) rfl
                    simp only [putAll, Act.put, List.setIfInBounds_toArray, List.set_cons_succ, List.set_cons_zero] at fin
                    exact fin
                  · rintro vs W K hc hvl hw hK
                    obtain ⟨x0, x1, x2, x3, x4, x5, x6, x7, x8, x9, x10, x11, x12, x13, x14, x15, x16, x17, x18, x19, x20, x21, x22, x23, rfl⟩ := len24 hvl
                    have HK := Lib.hid hK
                    have HC := Lib.hid hc
                    have HW := Lib.hid hw
                    clear hK hc hw hvl
                    obtain rfl : x17 = .bool false := box_get (HW.out ⟨17, .data⟩ (by simp) rfl) rfl
                    obtain rfl : x20 = .bool false := box_get (HW.out ⟨20, .data⟩ (by simp) rfl) rfl
                    obtain rfl : x14 = .bool true := box_get (HW.out ⟨14, .guard⟩ (by simp) rfl) rfl
                    simp only [putAll, Act.put, List.setIfInBounds_toArray, List.set_cons_succ, List.set_cons_zero]
                    clear HW
                    go_wp2_with fail
                    have fin := HK.out (.bool false) W (Below.refl _ _) rfl
                    simp only [putAll, Act.put, List.setIfInBounds_toArray, List.set_cons_succ, List.set_cons_zero] at fin
                    exact fin
                  · rintro vs W K hc hvl hw hK
                    obtain ⟨x0, x1, x2, x3, x4, x5, x6, x7, x8, x9, x10, x11, x12, x13, x14, x15, x16, x17, x18, x19, x20, x21, x22, x23, rfl⟩ := len24 hvl
                    have HK := Lib.hid hK
                    have HC := Lib.hid hc
                    have HW := Lib.hid hw
                    clear hK hc hw hvl
                    obtain rfl : x14 = .bool true := box_get (HW.out ⟨14, .data⟩ (by simp) rfl) rfl
                    obtain rfl : x21 = .bool false := box_get (HW.out ⟨21, .data⟩ (by simp) rfl) rfl
                    obtain rfl : x11 = .bool false := box_get (HW.out ⟨11, .guard⟩ (by simp) rfl) rfl
                    simp only [putAll, Act.put, List.setIfInBounds_toArray, List.set_cons_succ, List.set_cons_zero]
                    clear HW
                    go_wp2_with fail
                    have fin := HK.out (.bool false) W (Below.refl _ _) rfl
                    simp only [putAll, Act.put, List.setIfInBounds_toArray, List.set_cons_succ, List.set_cons_zero] at fin
                    exact fin
                  · rintro vs W K hc hvl hw hK
                    obtain ⟨x0, x1, x2, x3, x4, x5, x6, x7, x8, x9, x10, x11, x12, x13, x14, x15, x16, x17, x18, x19, x20, x21, x22, x23, rfl⟩ := len24 hvl
                    have HK := Lib.hid hK
                    have HC := Lib.hid hc
                    have HW := Lib.hid hw
                    clear hK hc hw hvl
                    obtain rfl : x11 = .bool false := box_get (HW.out ⟨11, .data⟩ (by simp) rfl) rfl
                    obtain rfl : x22 = .bool false := box_get (HW.out ⟨22, .data⟩ (by simp) rfl) rfl
                    simp only [putAll, Act.put, List.setIfInBounds_toArray, List.set_cons_succ, List.set_cons_zero]
                    clear HW
                    go_wp2_with fail
                    have fin := HK.out (.bool false) W (Below.refl _ _) rfl
                    simp only [putAll, Act.put, List.setIfInBounds_toArray, List.set_cons_succ, List.set_cons_zero] at fin
                    exact fin
                case fin =>
                  rintro vs W hJ
                  obtain ⟨x0, x1, x2, x3, x4, x5, x6, x7, x8, x9, x10, x11, x12, x13, x14, x15, x16, x17, x18, x19, x20, x21, x22, x23, rfl⟩ := len24 hJ.ln
                  obtain rfl : x23 = .bool false := box_get (hJ.val 23 rfl) rfl
                  have HC := Lib.hid hJ.bl
                  clear hJ
                  simp only [putAll, Act.put, List.setIfInBounds_toArray, List.set_cons_succ, List.set_cons_zero]
                  have hcw := HC.out
                  have RA10 := Lib.hid (RA9.out.below hcw RA9.out.lt)
                  have RB10 := Lib.hid (RB9.out.below hcw RB9.out.lt)
                  have RC10 := Lib.hid (RC9.out.below hcw RC9.out.lt)
                  have RO10 := Lib.hid (RO9.out.below hcw RO9.out.lt)
                  have RT10 := Lib.hid (RT9.out.below hcw RT9.out.lt)
                  have BW10 := Lib.hid (Below.andThen BW9.out hcw (Nat.le_refl _))
                  clear RA9 RB9 RC9 BW9 RO9 RT9
                  clear hcw HC
                  have qa := RA10.out
                  have ka0 := qa.cell 0
                  have ka1 := qa.cell 1
                  have qb := RB10.out
                  have kb0 := qb.cell 0
                  have kb1 := qb.cell 1
                  have qc := RC10.out
                  have kc0 := qc.cell 0
                  have kc1 := qc.cell 1
                  simp only [List.getElem?_cons_zero, List.getElem?_cons_succ] at ka0 ka1 kb0 kb1 kc0 kc1
                  clear qa qb qc
                  go_wp2_with fail
                  refine (HPA.out _).mono ?_
                  rintro e v1 ⟨rfl, g1⟩
                  have RAx := Lib.hid (RA10.out.below g1 RA10.out.lt)
                  have RBx := Lib.hid (RB10.out.below g1 RB10.out.lt)
                  have RCx := Lib.hid (RC10.out.below g1 RC10.out.lt)
                  have BWx := Lib.hid (Below.andThen BW10.out g1 (Nat.le_refl _))
                  clear g1 HPA RA10 RB10 RC10 BW10 RO10 RT10 ka0 ka1 kb0 kb1 kc0 kc1
                  have qq := RAx.out
                  have s0 := qq.cell 0
                  have s1 := qq.cell 1
                  have z0 := frozen_of_row _ (w.heap.size) 0 _ _ qq
                  have z1 := frozen_of_row _ (w.heap.size) 1 _ _ qq
                  simp only [List.getElem?_cons_zero, List.getElem?_cons_succ] at s0 s1
                  have hs := (qq.set 0 (.int .i64 (plN a1))).set 1 (.int .i64 (plN a2))
                  simp only [List.set_cons_zero, List.set_cons_succ] at hs
                  have RAy := Lib.hid hs
                  have RBy := Lib.hid ((RBx.out.other 0 (.int .i64 (plN a1)) (show w.heap.size + 1 ≠ w.heap.size by omega)).other 1 (.int .i64 (plN a2)) (show w.heap.size + 1 ≠ w.heap.size by omega))
                  have RCy := Lib.hid ((RCx.out.other 0 (.int .i64 (plN a1)) (show w.heap.size + 1 + 1 ≠ w.heap.size by omega)).other 1 (.int .i64 (plN a2)) (show w.heap.size + 1 + 1 ≠ w.heap.size by omega))
                  have BWy := Lib.hid ((BWx.out.setCell (p := ⟨w.heap.size, 0, none⟩) (by dsimp only; omega) (.int .i64 (plN a1))).setCell (p := ⟨w.heap.size, 1, none⟩) (by dsimp only; omega) (.int .i64 (plN a2)))
                  clear qq hs RAx RBx RCx BWx
                  have qn := RBy.out
                  have kb0 := qn.cell 0
                  have kb1 := qn.cell 1
                  simp only [List.getElem?_cons_zero, List.getElem?_cons_succ] at kb0 kb1
                  clear qn
                  go_wp2_with fail
                  refine (HPB.out _).mono ?_
                  rintro e vB ⟨rfl, g1⟩
                  have RAx := Lib.hid (RAy.out.below g1 RAy.out.lt)
                  have RBx := Lib.hid (RBy.out.below g1 RBy.out.lt)
                  have RCx := Lib.hid (RCy.out.below g1 RCy.out.lt)
                  have BWx := Lib.hid (Below.andThen BWy.out g1 (Nat.le_refl _))
                  clear g1 RAy RBy RCy BWy HPB s0 s1 z0 z1 kb0 kb1
                  have qq := RBx.out
                  have s0 := qq.cell 0
                  have s1 := qq.cell 1
                  have z0 := frozen_of_row _ (w.heap.size + 1) 0 _ _ qq
                  have z1 := frozen_of_row _ (w.heap.size + 1) 1 _ _ qq
                  simp only [List.getElem?_cons_zero, List.getElem?_cons_succ] at s0 s1
                  have hs := (qq.set 0 (.int .i64 (plN b1))).set 1 (.int .i64 (plN b2))
                  simp only [List.set_cons_zero, List.set_cons_succ] at hs
                  have RBy := Lib.hid hs
                  have RAy := Lib.hid ((RAx.out.other 0 (.int .i64 (plN b1)) (show w.heap.size ≠ w.heap.size + 1 by omega)).other 1 (.int .i64 (plN b2)) (show w.heap.size ≠ w.heap.size + 1 by omega))
                  have RCy := Lib.hid ((RCx.out.other 0 (.int .i64 (plN b1)) (show w.heap.size + 1 + 1 ≠ w.heap.size + 1 by omega)).other 1 (.int .i64 (plN b2)) (show w.heap.size + 1 + 1 ≠ w.heap.size + 1 by omega))
                  have BWy := Lib.hid ((BWx.out.setCell (p := ⟨w.heap.size + 1, 0, none⟩) (by dsimp only; omega) (.int .i64 (plN b1))).setCell (p := ⟨w.heap.size + 1, 1, none⟩) (by dsimp only; omega) (.int .i64 (plN b2)))
                  clear qq hs RAx RBx RCx BWx
                  have qn := RCy.out
                  have kc0 := qn.cell 0
                  have kc1 := qn.cell 1
                  simp only [List.getElem?_cons_zero, List.getElem?_cons_succ] at kc0 kc1
                  clear qn
                  go_wp2_with fail
                  refine (HPC.out _).mono ?_
                  rintro e vC ⟨rfl, g1⟩
                  have RAx := Lib.hid (RAy.out.below g1 RAy.out.lt)
                  have RBx := Lib.hid (RBy.out.below g1 RBy.out.lt)
                  have RCx := Lib.hid (RCy.out.below g1 RCy.out.lt)
                  have BWx := Lib.hid (Below.andThen BWy.out g1 (Nat.le_refl _))
                  clear g1 RAy RBy RCy BWy HPC s0 s1 z0 z1 kc0 kc1
                  have qq := RCx.out
                  have s0 := qq.cell 0
                  have s1 := qq.cell 1
                  have z0 := frozen_of_row _ (w.heap.size + 1 + 1) 0 _ _ qq
                  have z1 := frozen_of_row _ (w.heap.size + 1 + 1) 1 _ _ qq
                  simp only [List.getElem?_cons_zero, List.getElem?_cons_succ] at s0 s1
                  have hs := (qq.set 0 (.int .i64 (plN c1))).set 1 (.int .i64 (plN c2))
                  simp only [List.set_cons_zero, List.set_cons_succ] at hs
                  have RCy := Lib.hid hs
                  have RAy := Lib.hid ((RAx.out.other 0 (.int .i64 (plN c1)) (show w.heap.size ≠ w.heap.size + 1 + 1 by omega)).other 1 (.int .i64 (plN c2)) (show w.heap.size ≠ w.heap.size + 1 + 1 by omega))
                  have RBy := Lib.hid ((RBx.out.other 0 (.int .i64 (plN c1)) (show w.heap.size + 1 ≠ w.heap.size + 1 + 1 by omega)).other 1 (.int .i64 (plN c2)) (show w.heap.size + 1 ≠ w.heap.size + 1 + 1 by omega))
                  have BWy := Lib.hid ((BWx.out.setCell (p := ⟨w.heap.size + 1 + 1, 0, none⟩) (by dsimp only; omega) (.int .i64 (plN c1))).setCell (p := ⟨w.heap.size + 1 + 1, 1, none⟩) (by dsimp only; omega) (.int .i64 (plN c2)))
                  clear qq hs RAx RBx RCx BWx
                  go_wp2_with fail
                  exact ⟨⟨k + 1, by omega, rfl, Lib.hid ⟨_, _, _, _, _, _, RAy.out, RBy.out, RCy.out, BWy.out⟩⟩, by simp [intOf]; omega⟩
              · have e3 : TE = 0 := by rw [HTE.out]; simp [hD]
                have e4 : (⟨T1, T2, T3, T4⟩ : Cir) = ⟨N1, N2, N3, N4⟩ := by rw [HTC.out]; simp [hD]
                have d1 : decide (D = 0) = false := decide_eq_false hD
                have hq := HTV2.out
                rw [if_neg hD] at hq
                injection e4 with f5 f6 f7 f8
                injection hq with hq
                injection hq with hq
                simp only [List.cons.injEq, Value.int.injEq, true_and, and_true] at hq
                obtain ⟨q1, q2, q3, q4⟩ := hq
                subst e3 f5 f6 f7 f8 q1 q2 q3 q4
                have HCI := Lib.hid (fun W => circle_any U1 U2 U3 U4 W)
                clear HTE HTC HTV2 hD
                go_wp2_with fail
                refine wp_region_box (by kernel_rfl) (by kernel_rfl) [83, 84, 85, 86, 87, 88, 89, 90, 91, 92, 93, 94, 95, 96, 97, 98, 99, 100, 101, 102, 103, 104, 105, 106] [(fun v => v = .bool true), (fun v => v = .bool true), (fun v => v = .int .i64 0), (fun v => v = .bool false), (fun v => v = .bool false), (fun v => v = .agg #[.int .i64 U1, .int .i64 U2, .int .i64 U3, .int .i64 U4]), (fun v => v = .agg #[.int .i64 U1, .int .i64 U2, .int .i64 U3, .int .i64 U4]), (fun v => v = .agg #[.int .i64 U1, .int .i64 U2, .int .i64 U3, .int .i64 U4]), (fun v => v = .bool false), (fun v => v = .bool false), (fun v => v = .bool false), (fun v => v = .bool false), (fun v => v = .bool true), (fun v => v = .bool false), (fun v => v = .bool false), (fun v => v = undef), (fun v => v = undef), (fun v => v = undef), (fun v => v = undef), (fun v => v = undef), (fun v => v = undef), (fun v => v = undef), (fun v => v = .bool false), (fun v => v = .bool false)] [none, none, none, none, none, none, none, none, none, none, none, none, none, none, none, none, none, none, none, none, none, none, none, none] [none, none, none, none, none, none, none, none, none, none, none, none, none, none, none, none, none, none, none, none, none, none, none, none] 24 rfl (by kernel_rfl) ?tr ⟨[u83, u84, u85, u86, u87, u88, u89, u90, u91, u92, u93, u94, u95, u96, u97, u98, u99, u100, u101, u102, u103, u104, u105, u106], by simp only [putAll, Act.put, List.setIfInBounds_toArray, List.set_cons_succ, List.set_cons_zero], rfl⟩ ?steps ?fin
                case tr =>
                  rintro i v h
                  rcases i with _ | _ | _ | _ | _ | _ | _ | _ | _ | _ | _ | _ | _ | _ | _ | _ | _ | _ | _ | _ | _ | _ | _ | _ | i
                  all_goals first | trivial | (exfalso; rcases h with h | h <;> simp at h)
                case steps =>
                  simp only [boxSteps, Nat.reduceAdd, Nat.zero_add, List.getD_cons_succ, List.getD_cons_zero]
                  refine ⟨?_, ?_, ?_, ?_, ?_, ?_, ?_, ?_, ?_, ?_, ?_, ?_, ?_, ?_, ?_, ?_, ?_, ?_, ?_, ?_, ?_, ?_, ?_, ?_, trivial⟩
                  · rintro vs W K hc hvl hw hK
                    obtain ⟨x0, x1, x2, x3, x4, x5, x6, x7, x8, x9, x10, x11, x12, x13, x14, x15, x16, x17, x18, x19, x20, x21, x22, x23, rfl⟩ := len24 hvl
                    have HK := Lib.hid hK
                    have HC := Lib.hid hc
                    have HW := Lib.hid hw
                    clear hK hc hw hvl
                    simp only [putAll, Act.put, List.setIfInBounds_toArray, List.set_cons_succ, List.set_cons_zero]
                    clear HW
                    go_wp2_with fail
                    have fin := HK.out (.bool true) W (Below.refl _ _) rfl
                    simp only [putAll, Act.put, List.setIfInBounds_toArray, List.set_cons_succ, List.set_cons_zero] at fin
                    exact fin
                  · rintro vs W K hc hvl hw hK
                    obtain ⟨x0, x1, x2, x3, x4, x5, x6, x7, x8, x9, x10, x11, x12, x13, x14, x15, x16, x17, x18, x19, x20, x21, x22, x23, rfl⟩ := len24 hvl
                    have HK := Lib.hid hK
                    have HC := Lib.hid hc
                    have HW := Lib.hid hw
                    clear hK hc hw hvl
                    obtain rfl : x0 = .bool true := box_get (HW.out ⟨0, .data⟩ (by simp) rfl) rfl
                    simp only [putAll, Act.put, List.setIfInBounds_toArray, List.set_cons_succ, List.set_cons_zero]
                    clear HW
                    go_wp2_with fail
                    have fin := HK.out (.bool true) W (Below.refl _ _) rfl
                    simp only [putAll, Act.put, List.setIfInBounds_toArray, List.set_cons_succ, List.set_cons_zero] at fin
                    exact fin
                  · rintro vs W K hc hvl hw hK
                    obtain ⟨x0, x1, x2, x3, x4, x5, x6, x7, x8, x9, x10, x11, x12, x13, x14, x15, x16, x17, x18, x19, x20, x21, x22, x23, rfl⟩ := len24 hvl
                    have HK := Lib.hid hK
                    have HC := Lib.hid hc
                    have HW := Lib.hid hw
                    clear hK hc hw hvl
                    obtain rfl : x1 = .bool true := box_get (HW.out ⟨1, .guard⟩ (by simp) rfl) rfl
                    simp only [putAll, Act.put, List.setIfInBounds_toArray, List.set_cons_succ, List.set_cons_zero]
                    clear HW
                    go_wp2_with fail
                    have fin := HK.out (.int .i64 0) W (Below.refl _ _) rfl
                    simp only [putAll, Act.put, List.setIfInBounds_toArray, List.set_cons_succ, List.set_cons_zero] at fin
                    exact fin
                  · rintro vs W K hc hvl hw hK
                    obtain ⟨x0, x1, x2, x3, x4, x5, x6, x7, x8, x9, x10, x11, x12, x13, x14, x15, x16, x17, x18, x19, x20, x21, x22, x23, rfl⟩ := len24 hvl
                    have HK := Lib.hid hK
                    have HC := Lib.hid hc
                    have HW := Lib.hid hw
                    clear hK hc hw hvl
                    obtain rfl : x2 = .int .i64 0 := box_get (HW.out ⟨2, .data⟩ (by simp) rfl) rfl
                    obtain rfl : x1 = .bool true := box_get (HW.out ⟨1, .guard⟩ (by simp) rfl) rfl
                    simp only [putAll, Act.put, List.setIfInBounds_toArray, List.set_cons_succ, List.set_cons_zero]
                    clear HW
                    go_wp2_with fail
                    have fin := HK.out (.bool false) W (Below.refl _ _) rfl
                    simp only [putAll, Act.put, List.setIfInBounds_toArray, List.set_cons_succ, List.set_cons_zero] at fin
                    exact fin
                  · rintro vs W K hc hvl hw hK
                    obtain ⟨x0, x1, x2, x3, x4, x5, x6, x7, x8, x9, x10, x11, x12, x13, x14, x15, x16, x17, x18, x19, x20, x21, x22, x23, rfl⟩ := len24 hvl
                    have HK := Lib.hid hK
                    have HC := Lib.hid hc
                    have HW := Lib.hid hw
                    clear hK hc hw hvl
                    obtain rfl : x3 = .bool false := box_get (HW.out ⟨3, .data⟩ (by simp) rfl) rfl
                    obtain rfl : x1 = .bool true := box_get (HW.out ⟨1, .guard⟩ (by simp) rfl) rfl
                    simp only [putAll, Act.put, List.setIfInBounds_toArray, List.set_cons_succ, List.set_cons_zero]
                    clear HW
                    go_wp2_with fail
                    have fin := HK.out (.bool false) W (Below.refl _ _) rfl
                    simp only [putAll, Act.put, List.setIfInBounds_toArray, List.set_cons_succ, List.set_cons_zero] at fin
                    exact fin
                  · rintro vs W K hc hvl hw hK
                    obtain ⟨x0, x1, x2, x3, x4, x5, x6, x7, x8, x9, x10, x11, x12, x13, x14, x15, x16, x17, x18, x19, x20, x21, x22, x23, rfl⟩ := len24 hvl
                    have HK := Lib.hid hK
                    have HC := Lib.hid hc
                    have HW := Lib.hid hw
                    clear hK hc hw hvl
                    obtain rfl : x4 = .bool false := box_get (HW.out ⟨4, .guard⟩ (by simp) rfl) rfl
                    simp only [putAll, Act.put, List.setIfInBounds_toArray, List.set_cons_succ, List.set_cons_zero]
                    have rr := RT9.out.below HC.out RT9.out.lt
                    have d0 := rr.cell 0
                    have d1 := rr.cell 1
                    have d2 := rr.cell 2
                    have d3 := rr.cell 3
                    simp only [List.getElem?_cons_zero, List.getElem?_cons_succ] at d0 d1 d2 d3
                    clear rr
                    clear HW
                    go_wp2_with fail
                    have fin := HK.out (.agg #[.int .i64 U1, .int .i64 U2, .int .i64 U3, .int .i64 U4]) W (Below.refl _ _) rfl
                    simp only [putAll, Act.put, List.setIfInBounds_toArray, List.set_cons_succ, List.set_cons_zero] at fin
                    exact fin
                  · rintro vs W K hc hvl hw hK
                    obtain ⟨x0, x1, x2, x3, x4, x5, x6, x7, x8, x9, x10, x11, x12, x13, x14, x15, x16, x17, x18, x19, x20, x21, x22, x23, rfl⟩ := len24 hvl
                    have HK := Lib.hid hK
                    have HC := Lib.hid hc
                    have HW := Lib.hid hw
                    clear hK hc hw hvl
                    obtain rfl : x5 = .agg #[.int .i64 U1, .int .i64 U2, .int .i64 U3, .int .i64 U4] := box_get (HW.out ⟨5, .data⟩ (by simp) rfl) rfl
                    obtain rfl : x4 = .bool false := box_get (HW.out ⟨4, .guard⟩ (by simp) rfl) rfl
                    simp only [putAll, Act.put, List.setIfInBounds_toArray, List.set_cons_succ, List.set_cons_zero]
                    clear HW
                    go_wp2_with fail
                    refine (HCI.out W).mono ?_
                    rintro e W' ⟨rfl, hb'⟩
                    have HB' := Lib.hid hb'
                    clear hb'
                    go_wp2_with fail
                    have fin := HK.out (.agg #[.int .i64 U1, .int .i64 U2, .int .i64 U3, .int .i64 U4]) W' HB'.out rfl
                    simp only [putAll, Act.put, List.setIfInBounds_toArray, List.set_cons_succ, List.set_cons_zero] at fin
                    exact fin
                  · rintro vs W K hc hvl hw hK
                    obtain ⟨x0, x1, x2, x3, x4, x5, x6, x7, x8, x9, x10, x11, x12, x13, x14, x15, x16, x17, x18, x19, x20, x21, x22, x23, rfl⟩ := len24 hvl
                    have HK := Lib.hid hK
                    have HC := Lib.hid hc
                    have HW := Lib.hid hw
                    clear hK hc hw hvl
                    obtain rfl : x4 = .bool false := box_get (HW.out ⟨4, .guard⟩ (by simp) rfl) rfl
                    simp only [putAll, Act.put, List.setIfInBounds_toArray, List.set_cons_succ, List.set_cons_zero]
                    have rr := RU9.out.below HC.out RU9.out.lt
                    have d0 := rr.cell 0
                    have d1 := rr.cell 1
                    have d2 := rr.cell 2
                    have d3 := rr.cell 3
                    simp only [List.getElem?_cons_zero, List.getElem?_cons_succ] at d0 d1 d2 d3
                    clear rr
                    clear HW
                    go_wp2_with fail
                    have fin := HK.out (.agg #[.int .i64 U1, .int .i64 U2, .int .i64 U3, .int .i64 U4]) W (Below.refl _ _) rfl
                    simp only [putAll, Act.put, List.setIfInBounds_toArray, List.set_cons_succ, List.set_cons_zero] at fin
                    exact fin
                  · rintro vs W K hc hvl hw hK
                    obtain ⟨x0, x1, x2, x3, x4, x5, x6, x7, x8, x9, x10, x11, x12, x13, x14, x15, x16, x17, x18, x19, x20, x21, x22, x23, rfl⟩ := len24 hvl
                    have HK := Lib.hid hK
                    have HC := Lib.hid hc
                    have HW := Lib.hid hw
                    clear hK hc hw hvl
                    obtain rfl : x6 = .agg #[.int .i64 U1, .int .i64 U2, .int .i64 U3, .int .i64 U4] := box_get (HW.out ⟨6, .data⟩ (by simp) rfl) rfl
                    obtain rfl : x7 = .agg #[.int .i64 U1, .int .i64 U2, .int .i64 U3, .int .i64 U4] := box_get (HW.out ⟨7, .data⟩ (by simp) rfl) rfl
                    obtain rfl : x4 = .bool false := box_get (HW.out ⟨4, .guard⟩ (by simp) rfl) rfl
                    simp only [putAll, Act.put, List.setIfInBounds_toArray, List.set_cons_succ, List.set_cons_zero]
                    clear HW
                    go_wp2_with fail
                    have fin := HK.out (.bool false) W (Below.refl _ _) rfl
                    simp only [putAll, Act.put, List.setIfInBounds_toArray, List.set_cons_succ, List.set_cons_zero] at fin
                    exact fin
                  · rintro vs W K hc hvl hw hK
                    obtain ⟨x0, x1, x2, x3, x4, x5, x6, x7, x8, x9, x10, x11, x12, x13, x14, x15, x16, x17, x18, x19, x20, x21, x22, x23, rfl⟩ := len24 hvl
                    have HK := Lib.hid hK
                    have HC := Lib.hid hc
                    have HW := Lib.hid hw
                    clear hK hc hw hvl
                    obtain rfl : x4 = .bool false := box_get (HW.out ⟨4, .data⟩ (by simp) rfl) rfl
                    obtain rfl : x8 = .bool false := box_get (HW.out ⟨8, .data⟩ (by simp) rfl) rfl
                    obtain rfl : x1 = .bool true := box_get (HW.out ⟨1, .guard⟩ (by simp) rfl) rfl
                    simp only [putAll, Act.put, List.setIfInBounds_toArray, List.set_cons_succ, List.set_cons_zero]
                    clear HW
                    go_wp2_with fail
                    have fin := HK.out (.bool false) W (Below.refl _ _) rfl
                    simp only [putAll, Act.put, List.setIfInBounds_toArray, List.set_cons_succ, List.set_cons_zero] at fin
                    exact fin
                  · rintro vs W K hc hvl hw hK
                    obtain ⟨x0, x1, x2, x3, x4, x5, x6, x7, x8, x9, x10, x11, x12, x13, x14, x15, x16, x17, x18, x19, x20, x21, x22, x23, rfl⟩ := len24 hvl
                    have HK := Lib.hid hK
                    have HC := Lib.hid hc
                    have HW := Lib.hid hw
                    clear hK hc hw hvl
                    obtain rfl : x1 = .bool true := box_get (HW.out ⟨1, .data⟩ (by simp) rfl) rfl
                    obtain rfl : x9 = .bool false := box_get (HW.out ⟨9, .data⟩ (by simp) rfl) rfl
                    simp only [putAll, Act.put, List.setIfInBounds_toArray, List.set_cons_succ, List.set_cons_zero]
                    clear HW
                    go_wp2_with fail
                    have fin := HK.out (.bool false) W (Below.refl _ _) rfl
                    simp only [putAll, Act.put, List.setIfInBounds_toArray, List.set_cons_succ, List.set_cons_zero] at fin
                    exact fin
                  · rintro vs W K hc hvl hw hK
                    obtain ⟨x0, x1, x2, x3, x4, x5, x6, x7, x8, x9, x10, x11, x12, x13, x14, x15, x16, x17, x18, x19, x20, x21, x22, x23, rfl⟩ := len24 hvl
                    have HK := Lib.hid hK
                    have HC := Lib.hid hc
                    have HW := Lib.hid hw
                    clear hK hc hw hvl
                    obtain rfl : x10 = .bool false := box_get (HW.out ⟨10, .data⟩ (by simp) rfl) rfl
                    simp only [putAll, Act.put, List.setIfInBounds_toArray, List.set_cons_succ, List.set_cons_zero]
                    clear HW
                    go_wp2_with fail
                    have fin := HK.out (.bool false) W (Below.refl _ _) rfl
                    simp only [putAll, Act.put, List.setIfInBounds_toArray, List.set_cons_succ, List.set_cons_zero] at fin
                    exact fin
                  · rintro vs W K hc hvl hw hK
                    obtain ⟨x0, x1, x2, x3, x4, x5, x6, x7, x8, x9, x10, x11, x12, x13, x14, x15, x16, x17, x18, x19, x20, x21, x22, x23, rfl⟩ := len24 hvl
                    have HK := Lib.hid hK
                    have HC := Lib.hid hc
                    have HW := Lib.hid hw
                    clear hK hc hw hvl
                    obtain rfl : x11 = .bool false := box_get (HW.out ⟨11, .guard⟩ (by simp) rfl) rfl
                    simp only [putAll, Act.put, List.setIfInBounds_toArray, List.set_cons_succ, List.set_cons_zero]
                    clear HW
                    go_wp2_with fail
                    have fin := HK.out (.bool true) W (Below.refl _ _) rfl
                    simp only [putAll, Act.put, List.setIfInBounds_toArray, List.set_cons_succ, List.set_cons_zero] at fin
                    exact fin
                  · rintro vs W K hc hvl hw hK
                    obtain ⟨x0, x1, x2, x3, x4, x5, x6, x7, x8, x9, x10, x11, x12, x13, x14, x15, x16, x17, x18, x19, x20, x21, x22, x23, rfl⟩ := len24 hvl
                    have HK := Lib.hid hK
                    have HC := Lib.hid hc
                    have HW := Lib.hid hw
                    clear hK hc hw hvl
                    obtain rfl : x12 = .bool true := box_get (HW.out ⟨12, .data⟩ (by simp) rfl) rfl
                    obtain rfl : x11 = .bool false := box_get (HW.out ⟨11, .guard⟩ (by simp) rfl) rfl
                    simp only [putAll, Act.put, List.setIfInBounds_toArray, List.set_cons_succ, List.set_cons_zero]
                    clear HW
                    go_wp2_with fail
                    have fin := HK.out (.bool false) W (Below.refl _ _) rfl
                    simp only [putAll, Act.put, List.setIfInBounds_toArray, List.set_cons_succ, List.set_cons_zero] at fin
                    exact fin
                  · rintro vs W K hc hvl hw hK
                    obtain ⟨x0, x1, x2, x3, x4, x5, x6, x7, x8, x9, x10, x11, x12, x13, x14, x15, x16, x17, x18, x19, x20, x21, x22, x23, rfl⟩ := len24 hvl
                    have HK := Lib.hid hK
                    have HC := Lib.hid hc
                    have HW := Lib.hid hw
                    clear hK hc hw hvl
                    obtain rfl : x13 = .bool false := box_get (HW.out ⟨13, .data⟩ (by simp) rfl) rfl
                    obtain rfl : x11 = .bool false := box_get (HW.out ⟨11, .guard⟩ (by simp) rfl) rfl
                    simp only [putAll, Act.put, List.setIfInBounds_toArray, List.set_cons_succ, List.set_cons_zero]
                    clear HW
                    go_wp2_with fail
                    have fin := HK.out (.bool false) W (Below.refl _ _) rfl
                    simp only [putAll, Act.put, List.setIfInBounds_toArray, List.set_cons_succ, List.set_cons_zero] at fin
                    exact fin
                  · rintro vs W K hc hvl hw hK
                    obtain ⟨x0, x1, x2, x3, x4, x5, x6, x7, x8, x9, x10, x11, x12, x13, x14, x15, x16, x17, x18, x19, x20, x21, x22, x23, rfl⟩ := len24 hvl
                    have HK := Lib.hid hK
                    have HC := Lib.hid hc
                    have HW := Lib.hid hw
                    clear hK hc hw hvl
                    obtain rfl : x14 = .bool false := box_get (HW.out ⟨14, .guard⟩ (by simp) rfl) rfl
                    simp only [putAll, Act.put, List.setIfInBounds_toArray, List.set_cons_succ, List.set_cons_zero]
                    clear HW
                    go_wp2_with fail
                    have fin := HK.out (undef) W (Below.refl _ _) rfl
                    simp only [putAll, Act.put, List.setIfInBounds_toArray, List.set_cons_succ, List.set_cons_zero] at fin
                    exact fin
                  · rintro vs W K hc hvl hw hK
                    obtain ⟨x0, x1, x2, x3, x4, x5, x6, x7, x8, x9, x10, x11, x12, x13, x14, x15, x16, x17, x18, x19, x20, x21, x22, x23, rfl⟩ := len24 hvl
                    have HK := Lib.hid hK
                    have HC := Lib.hid hc
                    have HW := Lib.hid hw
                    clear hK hc hw hvl
                    obtain rfl : x15 = undef := box_get (HW.out ⟨15, .data⟩ (by simp) rfl) rfl
                    obtain rfl : x14 = .bool false := box_get (HW.out ⟨14, .guard⟩ (by simp) rfl) rfl
                    simp only [putAll, Act.put, List.setIfInBounds_toArray, List.set_cons_succ, List.set_cons_zero]
                    clear HW
                    go_wp2_with fail
                    have fin := HK.out (undef) W (Below.refl _ _) rfl
                    simp only [putAll, Act.put, List.setIfInBounds_toArray, List.set_cons_succ, List.set_cons_zero] at fin
                    exact fin
                  · rintro vs W K hc hvl hw hK
                    obtain ⟨x0, x1, x2, x3, x4, x5, x6, x7, x8, x9, x10, x11, x12, x13, x14, x15, x16, x17, x18, x19, x20, x21, x22, x23, rfl⟩ := len24 hvl
                    have HK := Lib.hid hK
                    have HC := Lib.hid hc
                    have HW := Lib.hid hw
                    clear hK hc hw hvl
                    obtain rfl : x16 = undef := box_get (HW.out ⟨16, .data⟩ (by simp) rfl) rfl
                    obtain rfl : x14 = .bool false := box_get (HW.out ⟨14, .guard⟩ (by simp) rfl) rfl
                    simp only [putAll, Act.put, List.setIfInBounds_toArray, List.set_cons_succ, List.set_cons_zero]
                    clear HW
                    go_wp2_with fail
                    have fin := HK.out (undef) W (Below.refl _ _) rfl
                    simp only [putAll, Act.put, List.setIfInBounds_toArray, List.set_cons_succ, List.set_cons_zero] at fin
                    exact fin
                  · rintro vs W K hc hvl hw hK
                    obtain ⟨x0, x1, x2, x3, x4, x5, x6, x7, x8, x9, x10, x11, x12, x13, x14, x15, x16, x17, x18, x19, x20, x21, x22, x23, rfl⟩ := len24 hvl
                    have HK := Lib.hid hK
                    have HC := Lib.hid hc
                    have HW := Lib.hid hw
                    clear hK hc hw hvl
                    obtain rfl : x17 = undef := box_get (HW.out ⟨17, .guard⟩ (by simp) rfl) rfl
                    simp only [putAll, Act.put, List.setIfInBounds_toArray, List.set_cons_succ, List.set_cons_zero]
                    clear HW
                    go_wp2_with fail
                    have fin := HK.out (undef) W (Below.refl _ _) rfl
                    simp only [putAll, Act.put, List.setIfInBounds_toArray, List.set_cons_succ, List.set_cons_zero] at fin
                    exact fin
                  · rintro vs W K hc hvl hw hK
                    obtain ⟨x0, x1, x2, x3, x4, x5, x6, x7, x8, x9, x10, x11, x12, x13, x14, x15, x16, x17, x18, x19, x20, x21, x22, x23, rfl⟩ := len24 hvl
                    have HK := Lib.hid hK
                    have HC := Lib.hid hc
                    have HW := Lib.hid hw
                    clear hK hc hw hvl
                    obtain rfl : x17 = undef := box_get (HW.out ⟨17, .guard⟩ (by simp) rfl) rfl
                    simp only [putAll, Act.put, List.setIfInBounds_toArray, List.set_cons_succ, List.set_cons_zero]
                    clear HW
                    go_wp2_with fail
                    have fin := HK.out (undef) W (Below.refl _ _) rfl
                    simp only [putAll, Act.put, List.setIfInBounds_toArray, List.set_cons_succ, List.set_cons_zero] at fin
                    exact fin
                  · rintro vs W K hc hvl hw hK
                    obtain ⟨x0, x1, x2, x3, x4, x5, x6, x7, x8, x9, x10, x11, x12, x13, x14, x15, x16, x17, x18, x19, x20, x21, x22, x23, rfl⟩ := len24 hvl
                    have HK := Lib.hid hK
                    have HC := Lib.hid hc
                    have HW := Lib.hid hw
                    clear hK hc hw hvl
                    obtain rfl : x18 = undef := box_get (HW.out ⟨18, .data⟩ (by simp) rfl) rfl
                    obtain rfl : x19 = undef := box_get (HW.out ⟨19, .data⟩ (by simp) rfl) rfl
                    obtain rfl : x17 = undef := box_get (HW.out ⟨17, .guard⟩ (by simp) rfl) rfl
                    simp only [putAll, Act.put, List.setIfInBounds_toArray, List.set_cons_succ, List.set_cons_zero]
                    clear HW
                    go_wp2_with fail
                    have fin := HK.out (undef) W (Below.refl _ _) rfl
                    simp only [putAll, Act.put, List.setIfInBounds_toArray, List.set_cons_succ, List.set_cons_zero] at fin
                    exact fin
                  · rintro vs W K hc hvl hw hK
                    obtain ⟨x0, x1, x2, x3, x4, x5, x6, x7, x8, x9, x10, x11, x12, x13, x14, x15, x16, x17, x18, x19, x20, x21, x22, x23, rfl⟩ := len24 hvl
                    have HK := Lib.hid hK
                    have HC := Lib.hid hc
                    have HW := Lib.hid hw
                    clear hK hc hw hvl
                    obtain rfl : x17 = undef := box_get (HW.out ⟨17, .data⟩ (by simp) rfl) rfl
                    obtain rfl : x20 = undef := box_get (HW.out ⟨20, .data⟩ (by simp) rfl) rfl
                    obtain rfl : x14 = .bool false := box_get (HW.out ⟨14, .guard⟩ (by simp) rfl) rfl
                    simp only [putAll, Act.put, List.setIfInBounds_toArray, List.set_cons_succ, List.set_cons_zero]
                    clear HW
                    go_wp2_with fail
                    have fin := HK.out (undef) W (Below.refl _ _) rfl
                    simp only [putAll, Act.put, List.setIfInBounds_toArray, List.set_cons_succ, List.set_cons_zero] at fin
                    exact fin
                  · rintro vs W K hc hvl hw hK
                    obtain ⟨x0, x1, x2, x3, x4, x5, x6, x7, x8, x9, x10, x11, x12, x13, x14, x15, x16, x17, x18, x19, x20, x21, x22, x23, rfl⟩ := len24 hvl
                    have HK := Lib.hid hK
                    have HC := Lib.hid hc
                    have HW := Lib.hid hw
                    clear hK hc hw hvl
                    obtain rfl : x14 = .bool false := box_get (HW.out ⟨14, .data⟩ (by simp) rfl) rfl
                    obtain rfl : x21 = undef := box_get (HW.out ⟨21, .data⟩ (by simp) rfl) rfl
                    obtain rfl : x11 = .bool false := box_get (HW.out ⟨11, .guard⟩ (by simp) rfl) rfl
                    simp only [putAll, Act.put, List.setIfInBounds_toArray, List.set_cons_succ, List.set_cons_zero]
                    clear HW
                    go_wp2_with fail
                    have fin := HK.out (.bool false) W (Below.refl _ _) rfl
                    simp only [putAll, Act.put, List.setIfInBounds_toArray, List.set_cons_succ, List.set_cons_zero] at fin
                    exact fin
                  · rintro vs W K hc hvl hw hK
                    obtain ⟨x0, x1, x2, x3, x4, x5, x6, x7, x8, x9, x10, x11, x12, x13, x14, x15, x16, x17, x18, x19, x20, x21, x22, x23, rfl⟩ := len24 hvl
                    have HK := Lib.hid hK
                    have HC := Lib.hid hc
                    have HW := Lib.hid hw
                    clear hK hc hw hvl
                    obtain rfl : x11 = .bool false := box_get (HW.out ⟨11, .data⟩ (by simp) rfl) rfl
                    obtain rfl : x22 = .bool false := box_get (HW.out ⟨22, .data⟩ (by simp) rfl) rfl
                    simp only [putAll, Act.put, List.setIfInBounds_toArray, List.set_cons_succ, List.set_cons_zero]
                    clear HW
                    go_wp2_with fail
                    have fin := HK.out (.bool false) W (Below.refl _ _) rfl
                    simp only [putAll, Act.put, List.setIfInBounds_toArray, List.set_cons_succ, List.set_cons_zero] at fin
                    exact fin
                case fin =>
                  rintro vs W hJ
                  obtain ⟨x0, x1, x2, x3, x4, x5, x6, x7, x8, x9, x10, x11, x12, x13, x14, x15, x16, x17, x18, x19, x20, x21, x22, x23, rfl⟩ := len24 hJ.ln
                  obtain rfl : x23 = .bool false := box_get (hJ.val 23 rfl) rfl
                  have HC := Lib.hid hJ.bl
                  clear hJ
                  simp only [putAll, Act.put, List.setIfInBounds_toArray, List.set_cons_succ, List.set_cons_zero]
                  have hcw := HC.out
                  have RA10 := Lib.hid (RA9.out.below hcw RA9.out.lt)
                  have RB10 := Lib.hid (RB9.out.below hcw RB9.out.lt)
                  have RC10 := Lib.hid (RC9.out.below hcw RC9.out.lt)
                  have RO10 := Lib.hid (RO9.out.below hcw RO9.out.lt)
                  have RT10 := Lib.hid (RT9.out.below hcw RT9.out.lt)
                  have BW10 := Lib.hid (Below.andThen BW9.out hcw (Nat.le_refl _))
                  clear RA9 RB9 RC9 BW9 RO9 RT9
                  clear hcw HC
                  have qa := RA10.out
                  have ka0 := qa.cell 0
                  have ka1 := qa.cell 1
                  have qb := RB10.out
                  have kb0 := qb.cell 0
                  have kb1 := qb.cell 1
                  have qc := RC10.out
                  have kc0 := qc.cell 0
                  have kc1 := qc.cell 1
                  simp only [List.getElem?_cons_zero, List.getElem?_cons_succ] at ka0 ka1 kb0 kb1 kc0 kc1
                  clear qa qb qc
                  go_wp2_with fail
                  refine (HPA.out _).mono ?_
                  rintro e v1 ⟨rfl, g1⟩
                  have RAx := Lib.hid (RA10.out.below g1 RA10.out.lt)
                  have RBx := Lib.hid (RB10.out.below g1 RB10.out.lt)
                  have RCx := Lib.hid (RC10.out.below g1 RC10.out.lt)
                  have BWx := Lib.hid (Below.andThen BW10.out g1 (Nat.le_refl _))
                  clear g1 HPA RA10 RB10 RC10 BW10 RO10 RT10 ka0 ka1 kb0 kb1 kc0 kc1
                  have qq := RAx.out
                  have s0 := qq.cell 0
                  have s1 := qq.cell 1
                  have z0 := frozen_of_row _ (w.heap.size) 0 _ _ qq
                  have z1 := frozen_of_row _ (w.heap.size) 1 _ _ qq
                  simp only [List.getElem?_cons_zero, List.getElem?_cons_succ] at s0 s1
                  have hs := (qq.set 0 (.int .i64 (plN a1))).set 1 (.int .i64 (plN a2))
                  simp only [List.set_cons_zero, List.set_cons_succ] at hs
                  have RAy := Lib.hid hs
                  have RBy := Lib.hid ((RBx.out.other 0 (.int .i64 (plN a1)) (show w.heap.size + 1 ≠ w.heap.size by omega)).other 1 (.int .i64 (plN a2)) (show w.heap.size + 1 ≠ w.heap.size by omega))
                  have RCy := Lib.hid ((RCx.out.other 0 (.int .i64 (plN a1)) (show w.heap.size + 1 + 1 ≠ w.heap.size by omega)).other 1 (.int .i64 (plN a2)) (show w.heap.size + 1 + 1 ≠ w.heap.size by omega))
                  have BWy := Lib.hid ((BWx.out.setCell (p := ⟨w.heap.size, 0, none⟩) (by dsimp only; omega) (.int .i64 (plN a1))).setCell (p := ⟨w.heap.size, 1, none⟩) (by dsimp only; omega) (.int .i64 (plN a2)))
                  clear qq hs RAx RBx RCx BWx
                  have qn := RBy.out
                  have kb0 := qn.cell 0
                  have kb1 := qn.cell 1
                  simp only [List.getElem?_cons_zero, List.getElem?_cons_succ] at kb0 kb1
                  clear qn
                  go_wp2_with fail
                  refine (HPB.out _).mono ?_
                  rintro e vB ⟨rfl, g1⟩
                  have RAx := Lib.hid (RAy.out.below g1 RAy.out.lt)
                  have RBx := Lib.hid (RBy.out.below g1 RBy.out.lt)
                  have RCx := Lib.hid (RCy.out.below g1 RCy.out.lt)
                  have BWx := Lib.hid (Below.andThen BWy.out g1 (Nat.le_refl _))
                  clear g1 RAy RBy RCy BWy HPB s0 s1 z0 z1 kb0 kb1
                  have qq := RBx.out
                  have s0 := qq.cell 0
                  have s1 := qq.cell 1
                  have z0 := frozen_of_row _ (w.heap.size + 1) 0 _ _ qq
                  have z1 := frozen_of_row _ (w.heap.size + 1) 1 _ _ qq
                  simp only [List.getElem?_cons_zero, List.getElem?_cons_succ] at s0 s1
                  have hs := (qq.set 0 (.int .i64 (plN b1))).set 1 (.int .i64 (plN b2))
                  simp only [List.set_cons_zero, List.set_cons_succ] at hs
                  have RBy := Lib.hid hs
                  have RAy := Lib.hid ((RAx.out.other 0 (.int .i64 (plN b1)) (show w.heap.size ≠ w.heap.size + 1 by omega)).other 1 (.int .i64 (plN b2)) (show w.heap.size ≠ w.heap.size + 1 by omega))
                  have RCy := Lib.hid ((RCx.out.other 0 (.int .i64 (plN b1)) (show w.heap.size + 1 + 1 ≠ w.heap.size + 1 by omega)).other 1 (.int .i64 (plN b2)) (show w.heap.size + 1 + 1 ≠ w.heap.size + 1 by omega))
                  have BWy := Lib.hid ((BWx.out.setCell (p := ⟨w.heap.size + 1, 0, none⟩) (by dsimp only; omega) (.int .i64 (plN b1))).setCell (p := ⟨w.heap.size + 1, 1, none⟩) (by dsimp only; omega) (.int .i64 (plN b2)))
                  clear qq hs RAx RBx RCx BWx
                  have qn := RCy.out
                  have kc0 := qn.cell 0
                  have kc1 := qn.cell 1
                  simp only [List.getElem?_cons_zero, List.getElem?_cons_succ] at kc0 kc1
                  clear qn
                  go_wp2_with fail
                  refine (HPC.out _).mono ?_
                  rintro e vC ⟨rfl, g1⟩
                  have RAx := Lib.hid (RAy.out.below g1 RAy.out.lt)
                  have RBx := Lib.hid (RBy.out.below g1 RBy.out.lt)
                  have RCx := Lib.hid (RCy.out.below g1 RCy.out.lt)
                  have BWx := Lib.hid (Below.andThen BWy.out g1 (Nat.le_refl _))
                  clear g1 RAy RBy RCy BWy HPC s0 s1 z0 z1 kc0 kc1
                  have qq := RCx.out
                  have s0 := qq.cell 0
                  have s1 := qq.cell 1
                  have z0 := frozen_of_row _ (w.heap.size + 1 + 1) 0 _ _ qq
                  have z1 := frozen_of_row _ (w.heap.size + 1 + 1) 1 _ _ qq
                  simp only [List.getElem?_cons_zero, List.getElem?_cons_succ] at s0 s1
                  have hs := (qq.set 0 (.int .i64 (plN c1))).set 1 (.int .i64 (plN c2))
                  simp only [List.set_cons_zero, List.set_cons_succ] at hs
                  have RCy := Lib.hid hs
                  have RAy := Lib.hid ((RAx.out.other 0 (.int .i64 (plN c1)) (show w.heap.size ≠ w.heap.size + 1 + 1 by omega)).other 1 (.int .i64 (plN c2)) (show w.heap.size ≠ w.heap.size + 1 + 1 by omega))
                  have RBy := Lib.hid ((RBx.out.other 0 (.int .i64 (plN c1)) (show w.heap.size + 1 ≠ w.heap.size + 1 + 1 by omega)).other 1 (.int .i64 (plN c2)) (show w.heap.size + 1 ≠ w.heap.size + 1 + 1 by omega))
                  have BWy := Lib.hid ((BWx.out.setCell (p := ⟨w.heap.size + 1 + 1, 0, none⟩) (by dsimp only; omega) (.int .i64 (plN c1))).setCell (p := ⟨w.heap.size + 1 + 1, 1, none⟩) (by dsimp only; omega) (.int .i64 (plN c2)))
                  clear qq hs RAx RBx RCx BWx
                  go_wp2_with fail
                  exact ⟨⟨k + 1, by omega, rfl, Lib.hid ⟨_, _, _, _, _, _, RAy.out, RBy.out, RCy.out, BWy.out⟩⟩, by simp [intOf]; omega⟩
    · have hd : decide ((k : Int) < 2) = false := decide_eq_false (by omega)
      obtain ⟨a1, a2, b1, b2, c1, c2, ra, rb, rc, bw⟩ := HB.out
      go_wp2_with fail
      refine (awake_any wr).mono ?_
      rintro e w9 ⟨rfl, h9⟩
      have B9 := Lib.hid (Below.andThen bw h9 (Nat.le_refl _))
      clear h9
      go_wp2_with fail
      go_ret
      exact ⟨rfl, B9.out⟩
end Go.Proofs.Ytlemipnplgbckaa
