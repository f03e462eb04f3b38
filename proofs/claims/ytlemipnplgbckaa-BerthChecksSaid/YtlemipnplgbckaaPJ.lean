import Derived.Test.YtlemipnplgbckaaPE
import Derived.Laws.AppendOwn
import Derived.ChangeKeysEq
import Derived.Maps.RangeWalk
import Derived.Maps.OwnIn
import Derived.Maps.AppendAt
import Derived.RangeFuncNested
import Derived.RangeFuncBound
import Derived.RangeFuncCalls
import Derived.RangeFuncLeaves
import Derived.Shelf.Abstract
import Derived.Shelf.RegionOpen
import Derived.WalkKit
import Derived.WalkMore
import Derived.OwnWalkIn
import Derived.TacticsInMore
import Derived.LoopNIn
import Derived.LoopIn
import Derived.WalkSpells
import Derived.WalkLawsBesides
import Derived.BigQuiet
import Derived.Deep.QuietTactic
import Derived.Lib.Hide
import Derived.Deep.RegionHeld3
import Derived.StillTailTactics
import Derived.Deep.LoopGhost
import Derived.Maps.OwnSet
import Derived.Lib.IndexAny
import Derived.Sort.QuietThIn
import Derived.Sort.QuietTacIn
import Derived.Sort.BigQuietIn
import Derived.Laws.OwnMore
import Derived.DeepKeys4
import Derived.Maps.Views
import Derived.Maps.OwnOps
import Derived.Laws.OwnMore
import Derived.Deep.DeepCutAuto
import Derived.ChangeKeysEq
namespace Go.Proofs.Ytlemipnplgbckaa
open Go.RowKit Go.Shelf
attribute [local go_sem] Oper.semAt_some
theorem slp_two (w : World) (a b c d : Int) : SlP (w.alloc (.cells #[.int .i64 a, .int .i64 b, .int .i64 c, .int .i64 d] 28)) (.slice (some ⟨w.heap.size, 0, none⟩) 2 2) [(a, b), (c, d)] := by
  have r := Row.new w 28 [.int .i64 a, .int .i64 b, .int .i64 c, .int .i64 d]
  refine ⟨_, 2, rfl, Nat.le_refl _, .inr ⟨_, 0, rfl, r.lt, fun i hi => ?_, fun i hi => ?_⟩⟩
  · have : i = 0 ∨ i = 1 := by simp at hi; omega
    rcases this with rfl | rfl <;> exact r.cell _
  · have : i = 0 ∨ i = 1 := by simp at hi; omega
    rcases this with rfl | rfl <;> exact r.cell _
theorem slp_three (w : World) (a b c d e f : Int) : SlP (w.alloc (.cells #[.int .i64 a, .int .i64 b, .int .i64 c, .int .i64 d, .int .i64 e, .int .i64 f] 28)) (.slice (some ⟨w.heap.size, 0, none⟩) 3 3) [(a, b), (c, d), (e, f)] := by
  have r := Row.new w 28 [.int .i64 a, .int .i64 b, .int .i64 c, .int .i64 d, .int .i64 e, .int .i64 f]
  refine ⟨_, 3, rfl, Nat.le_refl _, .inr ⟨_, 0, rfl, r.lt, fun i hi => ?_, fun i hi => ?_⟩⟩
  · have : i = 0 ∨ i = 1 ∨ i = 2 := by simp at hi; omega
    rcases this with rfl | rfl | rfl <;> exact r.cell _
  · have : i = 0 ∨ i = 1 ∨ i = 2 := by simp at hi; omega
    rcases this with rfl | rfl | rfl <;> exact r.cell _
theorem slp_four (w : World) (a b c d e f g h : Int) : SlP (w.alloc (.cells #[.int .i64 a, .int .i64 b, .int .i64 c, .int .i64 d, .int .i64 e, .int .i64 f, .int .i64 g, .int .i64 h] 28)) (.slice (some ⟨w.heap.size, 0, none⟩) 4 4) [(a, b), (c, d), (e, f), (g, h)] := by
  have r := Row.new w 28 [.int .i64 a, .int .i64 b, .int .i64 c, .int .i64 d, .int .i64 e, .int .i64 f, .int .i64 g, .int .i64 h]
  refine ⟨_, 4, rfl, Nat.le_refl _, .inr ⟨_, 0, rfl, r.lt, fun i hi => ?_, fun i hi => ?_⟩⟩
  · have : i = 0 ∨ i = 1 ∨ i = 2 ∨ i = 3 := by simp at hi; omega
    rcases this with rfl | rfl | rfl | rfl <;> exact r.cell _
  · have : i = 0 ∨ i = 1 ∨ i = 2 ∨ i = 3 := by simp at hi; omega
    rcases this with rfl | rfl | rfl | rfl <;> exact r.cell _
/-- boxes for three pairs and a circle that is returned -/
theorem thr_start (w : World) (a1 a2 b1 b2 c1 c2 : Int) : ∃ V, V = (((w.alloc (.cells #[.int .i64 a1, .int .i64 a2] 28)).alloc (.cells #[.int .i64 b1, .int .i64 b2] 28)).alloc (.cells #[.int .i64 c1, .int .i64 c2] 28)).alloc (.cells #[.int .i64 0, .int .i64 0, .int .i64 0, .int .i64 0] 30) ∧
    Row V w.heap.size 28 [.int .i64 a1, .int .i64 a2] ∧ Row V (w.heap.size + 1) 28 [.int .i64 b1, .int .i64 b2] ∧ Row V (w.heap.size + 1 + 1) 28 [.int .i64 c1, .int .i64 c2] ∧ Row V (w.heap.size + 1 + 1 + 1) 30 [.int .i64 0, .int .i64 0, .int .i64 0, .int .i64 0] ∧ Below w.heap.size w V := by
  refine ⟨_, rfl, ?_⟩
  obtain ⟨l1, r1⟩ := box_start w 28 [.int .i64 a1, .int .i64 a2]
  have s1 := size_al w (.cells #[.int .i64 a1, .int .i64 a2] 28)
  have e1 : w.alloc (.cells [.int .i64 a1, .int .i64 a2].toArray 28) = w.alloc (.cells #[.int .i64 a1, .int .i64 a2] 28) := rfl
  rw [e1] at l1 r1
  generalize w.alloc (.cells #[.int .i64 a1, .int .i64 a2] 28) = w1 at *
  obtain ⟨l2, r2⟩ := box_start w1 28 [.int .i64 b1, .int .i64 b2]
  have s2 := size_al w1 (.cells #[.int .i64 b1, .int .i64 b2] 28)
  have e2 : w1.alloc (.cells [.int .i64 b1, .int .i64 b2].toArray 28) = w1.alloc (.cells #[.int .i64 b1, .int .i64 b2] 28) := rfl
  rw [e2] at l2 r2
  generalize w1.alloc (.cells #[.int .i64 b1, .int .i64 b2] 28) = w2 at *
  obtain ⟨l3, r3⟩ := box_start w2 28 [.int .i64 c1, .int .i64 c2]
  have s3 := size_al w2 (.cells #[.int .i64 c1, .int .i64 c2] 28)
  have e3 : w2.alloc (.cells [.int .i64 c1, .int .i64 c2].toArray 28) = w2.alloc (.cells #[.int .i64 c1, .int .i64 c2] 28) := rfl
  rw [e3] at l3 r3
  generalize w2.alloc (.cells #[.int .i64 c1, .int .i64 c2] 28) = w3 at *
  obtain ⟨l4, r4⟩ := box_start w3 30 [.int .i64 0, .int .i64 0, .int .i64 0, .int .i64 0]
  rw [← s1, ← s2, ← s3]
  exact ⟨((r1.below l2 r1.lt).below l3 (by omega)).below l4 (by omega), (r2.below l3 r2.lt).below l4 (by omega), r3.below l4 r3.lt, r4, Below.andThen (Below.andThen (Below.andThen l1 l2 (Nat.le_refl _)) l3 (Nat.le_refl _)) l4 (Nat.le_refl _)⟩
theorem thrV_eq (a b c : Pt) : thrV a b c = if thD a b c = 0 then cirV 0 0 0 0 else (thC a b c).V := by
  by_cases h : thD a b c = 0
  · rw [if_pos h]; unfold thrV; rw [if_pos h]
  · rw [if_neg h]; unfold thrV; rw [if_neg h]; rfl
/-- what Through answers -/
def trE (a b c : Pt) : Int := if [a, b, c].all okP = true then (if thD a b c = 0 then 4 else 0) else 1
def trC (a b c : Pt) : Cir := if [a, b, c].all okP = true ∧ thD a b c ≠ 0 then thC a b c else ⟨0, 0, 0, 0⟩
set_option maxRecDepth 100000 in
set_option maxHeartbeats 1000000 in
theorem Through_any (a1 a2 b1 b2 c1 c2 : Int) (w : World) :
    Calls Try.prog 38 #[.agg #[.int .i64 a1, .int .i64 a2], .agg #[.int .i64 b1, .int .i64 b2], .agg #[.int .i64 c1, .int .i64 c2]] w fun e w' => e = .returned (.tuple #[(trC (a1, a2) (b1, b2) (c1, c2)).V, .int .i64 (trE (a1, a2) (b1, b2) (c1, c2))]) ∧ Below w.heap.size w w' := by
  obtain ⟨V, hV, ra, rb, rc, rR, bV⟩ := thr_start w a1 a2 b1 b2 c1 c2
  have HCK := Lib.hid (fun (W : World) => checkPairs_any [(a1, a2), (b1, b2), (c1, c2)] _ _ (slp_three W a1 a2 b1 b2 c1 c2) (by simp))
  have RA := Lib.hid ra
  have RB := Lib.hid rb
  have RC := Lib.hid rc
  have RR := Lib.hid rR
  have BV := Lib.hid bV
  have HTH := Lib.hid (fun (h : [(a1, a2), (b1, b2), (c1, c2)].all okP = true) (W : World) => by
    simp only [List.all_cons, List.all_nil, Bool.and_true, Bool.and_eq_true, okP_iff] at h
    exact through_any a1 a2 b1 b2 c1 c2 W h.1.1 h.1.2 h.2.1.1 h.2.1.2 h.2.2.1 h.2.2.2)
  have HE := Lib.hid (show trE (a1, a2) (b1, b2) (c1, c2) = if [(a1, a2), (b1, b2), (c1, c2)].all okP = true then (if thD (a1, a2) (b1, b2) (c1, c2) = 0 then 4 else 0) else 1 by unfold trE; rfl)
  have HT := Lib.hid (show trC (a1, a2) (b1, b2) (c1, c2) = if [(a1, a2), (b1, b2), (c1, c2)].all okP = true ∧ thD (a1, a2) (b1, b2) (c1, c2) ≠ 0 then thC (a1, a2) (b1, b2) (c1, c2) else ⟨0, 0, 0, 0⟩ by unfold trC; rfl)
  have HV := Lib.hid (thrV_eq (a1, a2) (b1, b2) (c1, c2))
  clear rR bV
  have ka0 := ra.cell 0
  have ka1 := ra.cell 1
  have kb0 := rb.cell 0
  have kb1 := rb.cell 1
  have kc0 := rc.cell 0
  have kc1 := rc.cell 1
  simp only [List.getElem?_cons_zero, List.getElem?_cons_succ] at ka0 ka1 kb0 kb1 kc0 kc1
  clear ra rb rc
  generalize [(a1, a2), (b1, b2), (c1, c2)].all okP = ok at *
  generalize trE (a1, a2) (b1, b2) (c1, c2) = E at *
  generalize trC (a1, a2) (b1, b2) (c1, c2) = T at *
  generalize thD (a1, a2) (b1, b2) (c1, c2) = D at *
  generalize thrV (a1, a2) (b1, b2) (c1, c2) = TV at *
  generalize thC (a1, a2) (b1, b2) (c1, c2) = M at *
  obtain ⟨T1, T2, T3, T4⟩ := T
  obtain ⟨M1, M2, M3, M4⟩ := M
  unfold Cir.V cirV at HV ⊢
  dsimp only at HV ⊢
  go_enter Try.func38, Try.ntmps38
  go_wp2_with fail
  rw [← hV]
  have hsz : V.heap.size = w.heap.size + 1 + 1 + 1 + 1 := by rw [hV]; simp
  have hck := HCK.out V
  rw [hsz] at hck
  refine hck.mono ?_
  rintro e w1 ⟨rfl, hb⟩
  have b1' := Below.andThen (Below.al (Below.refl V.heap.size V) (Nat.le_refl _) (.cells #[.int .i64 a1, .int .i64 a2, .int .i64 b1, .int .i64 b2, .int .i64 c1, .int .i64 c2] 28)) hb (Nat.le_refl _)
  have BW := Lib.hid (Below.andThen BV.out b1' (Nat.le_refl _))
  have RT := Lib.hid (RR.out.below b1' RR.out.lt)
  have RA2 := Lib.hid (RA.out.below b1' RA.out.lt)
  have RB2 := Lib.hid (RB.out.below b1' RB.out.lt)
  have RC2 := Lib.hid (RC.out.below b1' RC.out.lt)
  clear hck hsz
  clear hb b1' ka0 ka1 kb0 kb1 kc0 kc1 HCK RA RB RC RR BV hV
  cases ok with
  | false =>
    have rT := RT.out
    have t0 := rT.cell 0
    have t1 := rT.cell 1
    have t2 := rT.cell 2
    have t3 := rT.cell 3
    have g0 := frozen_of_row _ (w.heap.size + 1 + 1 + 1) 0 _ _ rT
    have g1 := frozen_of_row _ (w.heap.size + 1 + 1 + 1) 1 _ _ rT
    have g2 := frozen_of_row _ (w.heap.size + 1 + 1 + 1) 2 _ _ rT
    have g3 := frozen_of_row _ (w.heap.size + 1 + 1 + 1) 3 _ _ rT
    simp only [List.getElem?_cons_zero, List.getElem?_cons_succ] at t0 t1 t2 t3
    clear rT
    have e0 : E = 1 := HE.out
    have e1 : (⟨T1, T2, T3, T4⟩ : Cir) = ⟨0, 0, 0, 0⟩ := HT.out
    injection e1 with f1 f2 f3 f4
    subst e0 f1 f2 f3 f4
    go_wp2_with fail
    have hr := ((((RT.out.set 0 (.int .i64 0)).set 1 (.int .i64 0)).set 2 (.int .i64 0)).set 3 (.int .i64 0))
    have v0 := hr.cell 0
    have v1 := hr.cell 1
    have v2 := hr.cell 2
    have v3 := hr.cell 3
    simp only [List.set_cons_zero, List.set_cons_succ, List.getElem?_cons_zero, List.getElem?_cons_succ] at v0 v1 v2 v3
    refine bodyPost_ret (v := .tuple #[.agg #[.int .i64 0, .int .i64 0, .int .i64 0, .int .i64 0], .int .i64 1]) (by simp [results, Try.results38, go_sem, v0, v1, v2, v3]) rfl ⟨rfl, ?_⟩
    exact ((((BW.out.setCell (p := ⟨w.heap.size + 1 + 1 + 1, 0, none⟩) (by dsimp only; omega) _).setCell (p := ⟨w.heap.size + 1 + 1 + 1, 1, none⟩) (by dsimp only; omega) _).setCell (p := ⟨w.heap.size + 1 + 1 + 1, 2, none⟩) (by dsimp only; omega) _).setCell (p := ⟨w.heap.size + 1 + 1 + 1, 3, none⟩) (by dsimp only; omega) _)
  | true =>
    have a2' := RA2.out
    have b2' := RB2.out
    have c2' := RC2.out
    have ka0 := a2'.cell 0
    have ka1 := a2'.cell 1
    have kb0 := b2'.cell 0
    have kb1 := b2'.cell 1
    have kc0 := c2'.cell 0
    have kc1 := c2'.cell 1
    simp only [List.getElem?_cons_zero, List.getElem?_cons_succ] at ka0 ka1 kb0 kb1 kc0 kc1
    clear a2' b2' c2'
    have e0 : E = (if D = 0 then 4 else 0) := HE.out
    have e1 : (⟨T1, T2, T3, T4⟩ : Cir) = (if D ≠ 0 then ⟨M1, M2, M3, M4⟩ else ⟨0, 0, 0, 0⟩) := by simpa using HT.out
    have HE0 := Lib.hid e0
    have HE1 := Lib.hid e1
    clear e0 e1 HE HT
    have hth := HTH.out (by trivial)
    obtain ⟨X, Y, DD, R, hTV⟩ : ∃ X Y DD R, TV = .agg #[.int .i64 X, .int .i64 Y, .int .i64 DD, .int .i64 R] := by
      rw [HV.out]; split
      · exact ⟨_, _, _, _, rfl⟩
      · exact ⟨_, _, _, _, rfl⟩
    have HV2 := Lib.hid (hTV ▸ HV.out)
    subst hTV
    have HTX := Lib.hid hth
    clear HTH hth HV
    go_wp2_with fail
    refine (HTX.out _).mono ?_
    rintro e w2 ⟨rfl, hb⟩
    have BX := Lib.hid (Below.andThen BW.out hb (Nat.le_refl _))
    have RU := Lib.hid (RT.out.below hb RT.out.lt)
    clear hb HTX ka0 ka1 kb0 kb1 kc0 kc1 RA2 RB2 RC2
    by_cases hD : D = 0
    · have d1 : decide (D = 0) = true := decide_eq_true hD
      have e0 := HE0.out
      have e1 := HE1.out
      rw [if_pos hD] at e0
      rw [if_neg (by simpa using hD)] at e1
      injection e1 with f1 f2 f3 f4
      subst e0 f1 f2 f3 f4
      have RU2 := Lib.hid (RU.out.below (Below.al (Below.refl w2.heap.size w2) (Nat.le_refl _) (.cells #[.int .i64 X, .int .i64 Y, .int .i64 DD, .int .i64 R] 30)) RU.out.lt)
      have BX2 := Lib.hid (Below.andThen BX.out (Below.al (Below.refl w2.heap.size w2) (Nat.le_refl _) (.cells #[.int .i64 X, .int .i64 Y, .int .i64 DD, .int .i64 R] 30)) (Nat.le_refl _))
      clear hD
      have rT := RU2.out
      have t0 := rT.cell 0
      have t1 := rT.cell 1
      have t2 := rT.cell 2
      have t3 := rT.cell 3
      have g0 := frozen_of_row _ (w.heap.size + 1 + 1 + 1) 0 _ _ rT
      have g1 := frozen_of_row _ (w.heap.size + 1 + 1 + 1) 1 _ _ rT
      have g2 := frozen_of_row _ (w.heap.size + 1 + 1 + 1) 2 _ _ rT
      have g3 := frozen_of_row _ (w.heap.size + 1 + 1 + 1) 3 _ _ rT
      simp only [List.getElem?_cons_zero, List.getElem?_cons_succ] at t0 t1 t2 t3
      clear rT
      go_wp2_with fail
      have hr := ((((RU2.out.set 0 (.int .i64 0)).set 1 (.int .i64 0)).set 2 (.int .i64 0)).set 3 (.int .i64 0))
      have v0 := hr.cell 0
      have v1 := hr.cell 1
      have v2 := hr.cell 2
      have v3 := hr.cell 3
      simp only [List.set_cons_zero, List.set_cons_succ, List.getElem?_cons_zero, List.getElem?_cons_succ] at v0 v1 v2 v3
      refine bodyPost_ret (v := .tuple #[.agg #[.int .i64 0, .int .i64 0, .int .i64 0, .int .i64 0], .int .i64 4]) (by simp [results, Try.results38, go_sem, v0, v1, v2, v3]) rfl ⟨rfl, ?_⟩
      exact ((((BX2.out.setCell (p := ⟨w.heap.size + 1 + 1 + 1, 0, none⟩) (by dsimp only; omega) _).setCell (p := ⟨w.heap.size + 1 + 1 + 1, 1, none⟩) (by dsimp only; omega) _).setCell (p := ⟨w.heap.size + 1 + 1 + 1, 2, none⟩) (by dsimp only; omega) _).setCell (p := ⟨w.heap.size + 1 + 1 + 1, 3, none⟩) (by dsimp only; omega) _)
    · have d1 : decide (D = 0) = false := decide_eq_false hD
      have e0 := HE0.out
      have e1 := HE1.out
      rw [if_neg hD] at e0
      rw [if_pos hD] at e1
      have h2 := HV2.out
      rw [if_neg hD] at h2
      injection e1 with f1 f2 f3 f4
      injection h2 with h2
      injection h2 with h2
      simp only [List.cons.injEq, Value.int.injEq, true_and, and_true] at h2
      obtain ⟨h3, h4, h5, h6⟩ := h2
      subst e0 f1 f2 f3 f4 h3 h4 h5 h6
      have RU2 := Lib.hid (RU.out.below (Below.al (Below.refl w2.heap.size w2) (Nat.le_refl _) (.cells #[.int .i64 X, .int .i64 Y, .int .i64 DD, .int .i64 R] 30)) RU.out.lt)
      have RM := Lib.hid (Row.new w2 30 [.int .i64 X, .int .i64 Y, .int .i64 DD, .int .i64 R])
      have BX2 := Lib.hid (Below.andThen BX.out (Below.al (Below.refl w2.heap.size w2) (Nat.le_refl _) (.cells #[.int .i64 X, .int .i64 Y, .int .i64 DD, .int .i64 R] 30)) (Nat.le_refl _))
      clear hD
      have rM := RM.out
      have m0 := rM.cell 0
      have m1 := rM.cell 1
      have m2 := rM.cell 2
      have m3 := rM.cell 3
      simp only [List.getElem?_cons_zero, List.getElem?_cons_succ] at m0 m1 m2 m3
      clear rM
      have rT := RU2.out
      have t0 := rT.cell 0
      have t1 := rT.cell 1
      have t2 := rT.cell 2
      have t3 := rT.cell 3
      have g0 := frozen_of_row _ (w.heap.size + 1 + 1 + 1) 0 _ _ rT
      have g1 := frozen_of_row _ (w.heap.size + 1 + 1 + 1) 1 _ _ rT
      have g2 := frozen_of_row _ (w.heap.size + 1 + 1 + 1) 2 _ _ rT
      have g3 := frozen_of_row _ (w.heap.size + 1 + 1 + 1) 3 _ _ rT
      simp only [List.getElem?_cons_zero, List.getElem?_cons_succ] at t0 t1 t2 t3
      clear rT
      go_wp2_with fail
      have hr := ((((RU2.out.set 0 (.int .i64 X)).set 1 (.int .i64 Y)).set 2 (.int .i64 DD)).set 3 (.int .i64 R))
      have v0 := hr.cell 0
      have v1 := hr.cell 1
      have v2 := hr.cell 2
      have v3 := hr.cell 3
      simp only [List.set_cons_zero, List.set_cons_succ, List.getElem?_cons_zero, List.getElem?_cons_succ] at v0 v1 v2 v3
      refine bodyPost_ret (v := .tuple #[.agg #[.int .i64 X, .int .i64 Y, .int .i64 DD, .int .i64 R], .int .i64 0]) (by simp [results, Try.results38, go_sem, v0, v1, v2, v3]) rfl ⟨rfl, ?_⟩
      exact ((((BX2.out.setCell (p := ⟨w.heap.size + 1 + 1 + 1, 0, none⟩) (by dsimp only; omega) _).setCell (p := ⟨w.heap.size + 1 + 1 + 1, 1, none⟩) (by dsimp only; omega) _).setCell (p := ⟨w.heap.size + 1 + 1 + 1, 2, none⟩) (by dsimp only; omega) _).setCell (p := ⟨w.heap.size + 1 + 1 + 1, 3, none⟩) (by dsimp only; omega) _)
end Go.Proofs.Ytlemipnplgbckaa
